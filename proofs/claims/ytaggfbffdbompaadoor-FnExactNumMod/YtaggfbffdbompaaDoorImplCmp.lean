/-
  The contract of the program's NumCmp.
-/
import Derived.Test.YtaggfbffdbompaaDoorRatio
namespace Go.Proofs.YtaggfbffdbompaaDoor
set_option maxRecDepth 100000
set_option linter.unusedVariables false
set_option linter.unusedSimpArgs false
open Go.RowKit
attribute [local go_sem ↓] Go.wp_at_zero Go.wp_at_succ

theorem implNumOk_b (neg : Bool) (up dn : ByteArray) (w : World) (b : Bool) (hu : up.size ≤ maxLen) (hd : dn.size ≤ maxLen) (h : okN neg up.data.toList dn.data.toList = b) :
    Calls Tryd.prog 60 #[.agg #[.bool neg, .string up, .string dn]] w fun e w' => e = .returned (.bool b) ∧ Below w.heap.size w w' := by
  rw [← h]; exact implNumOk_any neg up dn w hu hd

theorem okN_facts (neg : Bool) (up dn : List UInt8) (h : okN neg up dn = true) : up.length ≤ 60 ∧ dn.length ≤ 60 ∧ Dm.isDec up (Dm.val up) ∧ Dm.isDec dn (Dm.val dn) ∧ dn ≠ [48] ∧ (neg = true → up ≠ [48]) ∧ Nat.gcd (Dm.val up) (Dm.val dn) = 1 := by
  unfold okN at h
  simp only [Bool.and_eq_true, decide_eq_true_eq, Bool.not_eq_true', beq_iff_eq] at h
  obtain ⟨⟨⟨⟨⟨⟨h1, h2⟩, h3⟩, h4⟩, h5⟩, h6⟩, h7⟩ := h
  refine ⟨h1, h2, (okB_iff _).1 h3, (okB_iff _).1 h4, ?_, ?_, h7⟩
  · intro e; rw [e] at h5; exact absurd h5 (by decide)
  · intro e1 e2; rw [e1, e2] at h6; exact absurd h6 (by decide)

theorem boxes4 (w : World) (c0 c1 c2 c3 : Array Value) (t0 t1 t2 t3 : Nat) : ∃ W, W = (((w.alloc (Obj.cells c0 t0)).alloc (Obj.cells c1 t1)).alloc (Obj.cells c2 t2)).alloc (Obj.cells c3 t3) ∧ Below w.heap.size w W ∧
    boxAt W w.heap.size c0 t0 ∧ boxAt W (w.heap.size + 1) c1 t1 ∧ boxAt W (w.heap.size + 1 + 1) c2 t2 ∧ boxAt W (w.heap.size + 1 + 1 + 1) c3 t3 := by
  have hs : ∀ (w : World) o, (w.alloc o).heap.size = w.heap.size + 1 := fun w o => by show (w.heap.push _).size = _; simp
  obtain ⟨V, hV, hb, x0, x1, x2⟩ := boxes3 w c0 c1 c2 t0 t1 t2
  have hsz : V.heap.size = w.heap.size + 1 + 1 + 1 := by rw [hV, hs, hs, hs]
  refine ⟨_, rfl, ?_⟩
  rw [← hV]
  refine ⟨hb.alloc (by omega) _, x0.alloc _, x1.alloc _, x2.alloc _, ?_⟩
  have := boxAt_new V c3 t3
  rw [hsz] at this
  exact this

set_option maxHeartbeats 1600000 in
theorem ratiosOf_no1 (neg : Bool) (up dn : ByteArray) (neg2 : Bool) (up2 dn2 : ByteArray) (w : World) (hu : up.size ≤ maxLen) (hd : dn.size ≤ maxLen) (hu2 : up2.size ≤ maxLen) (hd2 : dn2.size ≤ maxLen)
    (h1 : okN neg up.data.toList dn.data.toList = false) :
    Calls Tryd.prog 56 #[.agg #[.bool neg, .string up, .string dn], .agg #[.bool neg2, .string up2, .string dn2]] w fun e w' => e = .returned (.tuple #[.agg #[Value.bool false, Value.slice none 0 0, Value.bool false, Value.slice none 0 0], .agg #[Value.bool false, Value.slice none 0 0, Value.bool false, Value.slice none 0 0], .bool false]) ∧ Below w.heap.size w w' := by
  have H1 : Hid _ := h1
  clear h1
  go_enter Tryd.func56, Tryd.ntmps56
  go_wp2_with fail
  obtain ⟨W, hW, hBW, x0, x1, x2, x3⟩ := boxes4 w #[Value.bool neg, Value.string up, Value.string dn] #[Value.bool neg2, Value.string up2, Value.string dn2] #[Value.bool false, Value.slice none 0 0, Value.bool false, Value.slice none 0 0] #[Value.bool false, Value.slice none 0 0, Value.bool false, Value.slice none 0 0] 25 25 60 60
  rw [← hW]
  have HBW : Hid (Below w.heap.size w W) := hBW
  have X0 : Hid (boxAt W _ _ _) := x0
  have X1 : Hid (boxAt W _ _ _) := x1
  have X2 : Hid (boxAt W _ _ _) := x2
  have X3 : Hid (boxAt W _ _ _) := x3
  clear hW hBW x0 x1 x2 x3
  refine (implNumOk_b neg up dn _ _ hu hd H1.out).mono ?_
  rintro e w3 ⟨rfl, hb3⟩
  have HB3 : Hid (Below w.heap.size w w3) := HBW.out.trans (hb3.mono HBW.out.size)
  clear HBW
  have HBW := HB3
  clear HB3
  have Y0 : Hid (boxAt w3 _ _ _) := X0.out.on hb3
  have Y1 : Hid (boxAt w3 _ _ _) := X1.out.on hb3
  have Y2 : Hid (boxAt w3 _ _ _) := X2.out.on hb3
  have Y3 : Hid (boxAt w3 _ _ _) := X3.out.on hb3
  clear X0 X1 X2 X3 hb3
  have X0 := Y0
  have X1 := Y1
  have X2 := Y2
  have X3 := Y3
  clear Y0 Y1 Y2 Y3
  have q20 := X2.out.cell 0 rfl
  have g20 := X2.out.frozen 0
  have q21 := X2.out.cell 1 rfl
  have g21 := X2.out.frozen 1
  have q22 := X2.out.cell 2 rfl
  have g22 := X2.out.frozen 2
  have q23 := X2.out.cell 3 rfl
  have g23 := X2.out.frozen 3
  have q30 := X3.out.cell 0 rfl
  have g30 := X3.out.frozen 0
  have q31 := X3.out.cell 1 rfl
  have g31 := X3.out.frozen 1
  have q32 := X3.out.cell 2 rfl
  have g32 := X3.out.frozen 2
  have q33 := X3.out.cell 3 rfl
  have g33 := X3.out.frozen 3
  go_wp2
  simp only [bodyPost]
  refine ⟨trivial, _, ?_, rfl, ?_⟩
  · simp only [results, Tryd.results56]
    have hz2 := X2.out.lt
    have hz3 := X3.out.lt
    go_simp
  · exact (((((((HBW.out.setCell (by show _ ≤ w.heap.size + 1 + 1; omega) _).setCell (by show _ ≤ w.heap.size + 1 + 1; omega) _).setCell (by show _ ≤ w.heap.size + 1 + 1; omega) _).setCell (by show _ ≤ w.heap.size + 1 + 1; omega) _).setCell (by show _ ≤ w.heap.size + 1 + 1 + 1; omega) _).setCell (by show _ ≤ w.heap.size + 1 + 1 + 1; omega) _).setCell (by show _ ≤ w.heap.size + 1 + 1 + 1; omega) _).setCell (by show _ ≤ w.heap.size + 1 + 1 + 1; omega) _

set_option maxHeartbeats 1600000 in
theorem ratiosOf_no2 (neg : Bool) (up dn : ByteArray) (neg2 : Bool) (up2 dn2 : ByteArray) (w : World) (hu : up.size ≤ maxLen) (hd : dn.size ≤ maxLen) (hu2 : up2.size ≤ maxLen) (hd2 : dn2.size ≤ maxLen)
    (h1 : okN neg up.data.toList dn.data.toList = true) (h2 : okN neg2 up2.data.toList dn2.data.toList = false) :
    Calls Tryd.prog 56 #[.agg #[.bool neg, .string up, .string dn], .agg #[.bool neg2, .string up2, .string dn2]] w fun e w' => e = .returned (.tuple #[.agg #[Value.bool false, Value.slice none 0 0, Value.bool false, Value.slice none 0 0], .agg #[Value.bool false, Value.slice none 0 0, Value.bool false, Value.slice none 0 0], .bool false]) ∧ Below w.heap.size w w' := by
  have H1 : Hid _ := h1
  have H2 : Hid _ := h2
  clear h1 h2
  go_enter Tryd.func56, Tryd.ntmps56
  go_wp2_with fail
  obtain ⟨W, hW, hBW, x0, x1, x2, x3⟩ := boxes4 w #[Value.bool neg, Value.string up, Value.string dn] #[Value.bool neg2, Value.string up2, Value.string dn2] #[Value.bool false, Value.slice none 0 0, Value.bool false, Value.slice none 0 0] #[Value.bool false, Value.slice none 0 0, Value.bool false, Value.slice none 0 0] 25 25 60 60
  rw [← hW]
  have HBW : Hid (Below w.heap.size w W) := hBW
  have X0 : Hid (boxAt W _ _ _) := x0
  have X1 : Hid (boxAt W _ _ _) := x1
  have X2 : Hid (boxAt W _ _ _) := x2
  have X3 : Hid (boxAt W _ _ _) := x3
  clear hW hBW x0 x1 x2 x3
  refine (implNumOk_b neg up dn _ _ hu hd H1.out).mono ?_
  rintro e w3 ⟨rfl, hb3⟩
  have HB3 : Hid (Below w.heap.size w w3) := HBW.out.trans (hb3.mono HBW.out.size)
  clear HBW
  have HBW := HB3
  clear HB3
  have Y0 : Hid (boxAt w3 _ _ _) := X0.out.on hb3
  have Y1 : Hid (boxAt w3 _ _ _) := X1.out.on hb3
  have Y2 : Hid (boxAt w3 _ _ _) := X2.out.on hb3
  have Y3 : Hid (boxAt w3 _ _ _) := X3.out.on hb3
  clear X0 X1 X2 X3 hb3
  have X0 := Y0
  have X1 := Y1
  have X2 := Y2
  have X3 := Y3
  clear Y0 Y1 Y2 Y3
  have q10 := X1.out.cell 0 rfl
  have q11 := X1.out.cell 1 rfl
  have q12 := X1.out.cell 2 rfl
  go_wp2_with fail
  clear q10 q11 q12
  refine (implNumOk_b neg2 up2 dn2 _ _ hu2 hd2 H2.out).mono ?_
  rintro e w4 ⟨rfl, hb4⟩
  have HB4 : Hid (Below w.heap.size w w4) := HBW.out.trans (hb4.mono HBW.out.size)
  clear HBW
  have HBW := HB4
  clear HB4
  have Y0 : Hid (boxAt w4 _ _ _) := X0.out.on hb4
  have Y1 : Hid (boxAt w4 _ _ _) := X1.out.on hb4
  have Y2 : Hid (boxAt w4 _ _ _) := X2.out.on hb4
  have Y3 : Hid (boxAt w4 _ _ _) := X3.out.on hb4
  clear X0 X1 X2 X3 hb4
  have X0 := Y0
  have X1 := Y1
  have X2 := Y2
  have X3 := Y3
  clear Y0 Y1 Y2 Y3
  have q20 := X2.out.cell 0 rfl
  have g20 := X2.out.frozen 0
  have q21 := X2.out.cell 1 rfl
  have g21 := X2.out.frozen 1
  have q22 := X2.out.cell 2 rfl
  have g22 := X2.out.frozen 2
  have q23 := X2.out.cell 3 rfl
  have g23 := X2.out.frozen 3
  have q30 := X3.out.cell 0 rfl
  have g30 := X3.out.frozen 0
  have q31 := X3.out.cell 1 rfl
  have g31 := X3.out.frozen 1
  have q32 := X3.out.cell 2 rfl
  have g32 := X3.out.frozen 2
  have q33 := X3.out.cell 3 rfl
  have g33 := X3.out.frozen 3
  go_wp2
  simp only [bodyPost]
  refine ⟨trivial, _, ?_, rfl, ?_⟩
  · simp only [results, Tryd.results56]
    have hz2 := X2.out.lt
    have hz3 := X3.out.lt
    go_simp
  · exact (((((((HBW.out.setCell (by show _ ≤ w.heap.size + 1 + 1; omega) _).setCell (by show _ ≤ w.heap.size + 1 + 1; omega) _).setCell (by show _ ≤ w.heap.size + 1 + 1; omega) _).setCell (by show _ ≤ w.heap.size + 1 + 1; omega) _).setCell (by show _ ≤ w.heap.size + 1 + 1 + 1; omega) _).setCell (by show _ ≤ w.heap.size + 1 + 1 + 1; omega) _).setCell (by show _ ≤ w.heap.size + 1 + 1 + 1; omega) _).setCell (by show _ ≤ w.heap.size + 1 + 1 + 1; omega) _

set_option maxHeartbeats 1600000 in
theorem ratiosOf_yes (neg : Bool) (up dn : ByteArray) (neg2 : Bool) (up2 dn2 : ByteArray) (w : World) (hu : up.size ≤ maxLen) (hd : dn.size ≤ maxLen) (hu2 : up2.size ≤ maxLen) (hd2 : dn2.size ≤ maxLen)
    (h1 : okN neg up.data.toList dn.data.toList = true) (h2 : okN neg2 up2.data.toList dn2.data.toList = true) :
    Calls Tryd.prog 56 #[.agg #[.bool neg, .string up, .string dn], .agg #[.bool neg2, .string up2, .string dn2]] w fun e w' => (∃ a1 l1 c1 a2 l2 c2 a3 l3 c3 a4 l4 c4, e = .returned (.tuple #[.agg #[.bool neg, .slice a1 l1 c1, .bool false, .slice a2 l2 c2], .agg #[.bool neg2, .slice a3 l3 c3, .bool false, .slice a4 l4 c4], .bool true]) ∧
      Hid (isN w' (.slice a1 l1 c1) (Dm.val up.data.toList)) ∧ Hid (isN w' (.slice a2 l2 c2) (Dm.val dn.data.toList)) ∧ Hid (isN w' (.slice a3 l3 c3) (Dm.val up2.data.toList)) ∧ Hid (isN w' (.slice a4 l4 c4) (Dm.val dn2.data.toList))) ∧ Below w.heap.size w w' := by
  have H1 : Hid _ := h1
  have H2 : Hid _ := h2
  obtain ⟨z1, z2, d1, d2, _⟩ := okN_facts _ _ _ h1
  obtain ⟨z3, z4, d3, d4, _⟩ := okN_facts _ _ _ h2
  have s1 : up.size ≤ 100000 := by have e : up.data.toList.length = up.size := Array.length_toList; omega
  have s2 : dn.size ≤ 100000 := by have e : dn.data.toList.length = dn.size := Array.length_toList; omega
  have s3 : up2.size ≤ 100000 := by have e : up2.data.toList.length = up2.size := Array.length_toList; omega
  have s4 : dn2.size ≤ 100000 := by have e : dn2.data.toList.length = dn2.size := Array.length_toList; omega
  have D1 : Hid _ := d1.2.1
  have D2 : Hid _ := d2.2.1
  have D3 : Hid _ := d3.2.1
  have D4 : Hid _ := d4.2.1
  clear h1 h2 z1 z2 z3 z4 d1 d2 d3 d4
  go_enter Tryd.func56, Tryd.ntmps56
  go_wp2_with fail
  obtain ⟨W, hW, hBW, x0, x1, x2, x3⟩ := boxes4 w #[Value.bool neg, Value.string up, Value.string dn] #[Value.bool neg2, Value.string up2, Value.string dn2] #[Value.bool false, Value.slice none 0 0, Value.bool false, Value.slice none 0 0] #[Value.bool false, Value.slice none 0 0, Value.bool false, Value.slice none 0 0] 25 25 60 60
  rw [← hW]
  have HBW : Hid (Below w.heap.size w W) := hBW
  have X0 : Hid (boxAt W _ _ _) := x0
  have X1 : Hid (boxAt W _ _ _) := x1
  have X2 : Hid (boxAt W _ _ _) := x2
  have X3 : Hid (boxAt W _ _ _) := x3
  clear hW hBW x0 x1 x2 x3
  refine (implNumOk_b neg up dn _ _ hu hd H1.out).mono ?_
  rintro e w3 ⟨rfl, hb3⟩
  have HB3 : Hid (Below w.heap.size w w3) := HBW.out.trans (hb3.mono HBW.out.size)
  clear HBW
  have HBW := HB3
  clear HB3
  have Y0 : Hid (boxAt w3 _ _ _) := X0.out.on hb3
  have Y1 : Hid (boxAt w3 _ _ _) := X1.out.on hb3
  have Y2 : Hid (boxAt w3 _ _ _) := X2.out.on hb3
  have Y3 : Hid (boxAt w3 _ _ _) := X3.out.on hb3
  clear X0 X1 X2 X3 hb3
  have X0 := Y0
  have X1 := Y1
  have X2 := Y2
  have X3 := Y3
  clear Y0 Y1 Y2 Y3
  have q10 := X1.out.cell 0 rfl
  have q11 := X1.out.cell 1 rfl
  have q12 := X1.out.cell 2 rfl
  go_wp2_with fail
  clear q10 q11 q12
  refine (implNumOk_b neg2 up2 dn2 _ _ hu2 hd2 H2.out).mono ?_
  rintro e w4 ⟨rfl, hb4⟩
  have HB4 : Hid (Below w.heap.size w w4) := HBW.out.trans (hb4.mono HBW.out.size)
  clear HBW
  have HBW := HB4
  clear HB4
  have Y0 : Hid (boxAt w4 _ _ _) := X0.out.on hb4
  have Y1 : Hid (boxAt w4 _ _ _) := X1.out.on hb4
  have Y2 : Hid (boxAt w4 _ _ _) := X2.out.on hb4
  have Y3 : Hid (boxAt w4 _ _ _) := X3.out.on hb4
  clear X0 X1 X2 X3 hb4
  have X0 := Y0
  have X1 := Y1
  have X2 := Y2
  have X3 := Y3
  clear Y0 Y1 Y2 Y3
  go_wp2_with fail
  have k00 := X0.out.cell 0 rfl
  have k01 := X0.out.cell 1 rfl
  have k02 := X0.out.cell 2 rfl
  have k10 := X1.out.cell 0 rfl
  have k11 := X1.out.cell 1 rfl
  have k12 := X1.out.cell 2 rfl
  refine Go.wp_mono (Q := fun e a' w' => match e with | .normal => (∃ us : Array Value, a' = { tmps := us, defers := [] } ∧ us[4]? = some (.pointer (some ⟨w.heap.size + 1 + 1, 0, none⟩)) ∧ us[5]? = some (.pointer (some ⟨w.heap.size + 1 + 1 + 1, 0, none⟩)) ∧ us[6]? = some (.bool true)) ∧ (∃ a1 l1 c1 a2 l2 c2 a3 l3 c3 a4 l4 c4, ((w'.cell? ⟨w.heap.size + 1 + 1, 0, none⟩ = some (.bool neg) ∧ w'.cell? ⟨w.heap.size + 1 + 1, 1, none⟩ = some (.slice a1 l1 c1) ∧ w'.cell? ⟨w.heap.size + 1 + 1, 2, none⟩ = some (.bool false) ∧ w'.cell? ⟨w.heap.size + 1 + 1, 3, none⟩ = some (.slice a2 l2 c2)) ∧ (w'.cell? ⟨w.heap.size + 1 + 1 + 1, 0, none⟩ = some (.bool neg2) ∧ w'.cell? ⟨w.heap.size + 1 + 1 + 1, 1, none⟩ = some (.slice a3 l3 c3) ∧ w'.cell? ⟨w.heap.size + 1 + 1 + 1, 2, none⟩ = some (.bool false) ∧ w'.cell? ⟨w.heap.size + 1 + 1 + 1, 3, none⟩ = some (.slice a4 l4 c4))) ∧
      Hid (isN w' (.slice a1 l1 c1) (Dm.val up.data.toList)) ∧ Hid (isN w' (.slice a2 l2 c2) (Dm.val dn.data.toList)) ∧ Hid (isN w' (.slice a3 l3 c3) (Dm.val up2.data.toList)) ∧ Hid (isN w' (.slice a4 l4 c4) (Dm.val dn2.data.toList))) ∧ Below w.heap.size w w' | _ => False) ?_ ?_
  · go_region_held3 (fun w' => (w'.cell? ⟨w.heap.size, 0, none⟩ = some (.bool neg) ∧ (w'.cell? ⟨w.heap.size, 1, none⟩ = some (.string up) ∧ w'.cell? ⟨w.heap.size, 2, none⟩ = some (.string dn))) ∧ (w'.cell? ⟨w.heap.size + 1, 0, none⟩ = some (.bool neg2) ∧ (w'.cell? ⟨w.heap.size + 1, 1, none⟩ = some (.string up2) ∧ w'.cell? ⟨w.heap.size + 1, 2, none⟩ = some (.string dn2))))
      ((repeat' apply And.intro) <;> first | (with_reducible assumption) | ((with_reducible refine keep_set (keep_set (keep_set (keep_set ?_ ?_) ?_) ?_) ?_) <;> first | omega | (with_reducible assumption) | ((with_reducible refine keep_set (keep_set (keep_set (keep_set ?_ ?_) ?_) ?_) ?_) <;> first | omega | assumption) | assumption) | (go_keep; done))
      (first
        | (go_at_call_of 61 (Value.string up); refine (ratioOf_any neg up dn _ s1 s2 D1.out D2.out).mono ?_; rintro e w5 ⟨⟨a1, l1, c1, a2, l2, c2, rfl, h51, h52⟩, hb5⟩; have N1 : Hid (isN w5 (.slice a1 l1 c1) _) := h51; have N2 : Hid (isN w5 (.slice a2 l2 c2) _) := h52; have HB5 : Hid (Below w4.drew.heap.size w4.drew w5) := hb5
           have Y0 : Hid (boxAt w5 _ _ _) := X0.out.drew.on hb5; have Y1 : Hid (boxAt w5 _ _ _) := X1.out.drew.on hb5; have Y2 : Hid (boxAt w5 _ _ _) := X2.out.drew.on hb5; have Y3 : Hid (boxAt w5 _ _ _) := X3.out.drew.on hb5
           have j00 := Y0.out.cell 0 rfl; have j01 := Y0.out.cell 1 rfl; have j02 := Y0.out.cell 2 rfl; have j10 := Y1.out.cell 0 rfl; have j11 := Y1.out.cell 1 rfl; have j12 := Y1.out.cell 2 rfl; clear h51 h52 hb5)
        | (go_at_call_of 61 (Value.string up2); refine (ratioOf_any neg2 up2 dn2 _ s3 s4 D3.out D4.out).mono ?_; rintro e w6 ⟨⟨a3, l3, c3, a4, l4, c4, rfl, h63, h64⟩, hb6⟩; have M1 : Hid (isN w6 (.slice a1 l1 c1) _) := isN_below N1.out hb6; have M2 : Hid (isN w6 (.slice a2 l2 c2) _) := isN_below N2.out hb6; have M3 : Hid (isN w6 (.slice a3 l3 c3) _) := h63; have M4 : Hid (isN w6 (.slice a4 l4 c4) _) := h64; have HB6 : Hid (Below w5.heap.size w5 w6) := hb6
           have V0 : Hid (boxAt w6 _ _ _) := Y0.out.on hb6; have V1 : Hid (boxAt w6 _ _ _) := Y1.out.on hb6; have V2 : Hid (boxAt w6 _ _ _) := Y2.out.on hb6; have V3 : Hid (boxAt w6 _ _ _) := Y3.out.on hb6
           have i00 := V0.out.cell 0 rfl; have i01 := V0.out.cell 1 rfl; have i02 := V0.out.cell 2 rfl; have i10 := V1.out.cell 0 rfl; have i11 := V1.out.cell 1 rfl; have i12 := V1.out.cell 2 rfl
           have q20 := V2.out.cell 0 rfl; have q21 := V2.out.cell 1 rfl; have q22 := V2.out.cell 2 rfl; have q23 := V2.out.cell 3 rfl; have g20 := V2.out.frozen 0; have g21 := V2.out.frozen 1; have g22 := V2.out.frozen 2; have g23 := V2.out.frozen 3
           have q30 := V3.out.cell 0 rfl; have q31 := V3.out.cell 1 rfl; have q32 := V3.out.cell 2 rfl; have q33 := V3.out.cell 3 rfl; have g30 := V3.out.frozen 0; have g31 := V3.out.frozen 1; have g32 := V3.out.frozen 2; have g33 := V3.out.frozen 3; clear h63 h64 hb6))
    all_goals
      have hz2 := V2.out.lt
      have hz3 := V3.out.lt
      have p1 := isN_apart M1.out V2.out (by decide)
      have p1' := isN_apart M1.out V3.out (by decide)
      have p2 := isN_apart M2.out V2.out (by decide)
      have p2' := isN_apart M2.out V3.out (by decide)
      have p3 := isN_apart M3.out V2.out (by decide)
      have p3' := isN_apart M3.out V3.out (by decide)
      have p4 := isN_apart M4.out V2.out (by decide)
      have p4' := isN_apart M4.out V3.out (by decide)
      have t1 := HBW.out.size
      have t2 := HB5.out.size
      refine ⟨⟨_, rfl, rfl, rfl, rfl⟩, ⟨a1, l1, c1, a2, l2, c2, a3, l3, c3, a4, l4, c4, ⟨⟨?_, ?_, ?_, ?_⟩, ?_, ?_, ?_, ?_⟩, ?_, ?_, ?_, ?_⟩, ?_⟩
      · refine keep_set (keep_set (keep_set (keep_set ?_ (by omega)) (by omega)) (by omega)) (by omega)
        go_simp
      · refine keep_set (keep_set (keep_set (keep_set ?_ (by omega)) (by omega)) (by omega)) (by omega)
        go_simp
      · refine keep_set (keep_set (keep_set (keep_set ?_ (by omega)) (by omega)) (by omega)) (by omega)
        go_simp
      · refine keep_set (keep_set (keep_set (keep_set ?_ (by omega)) (by omega)) (by omega)) (by omega)
        go_simp
      · go_simp
      · go_simp
      · go_simp
      · go_simp
      · exact isN_set (isN_set (isN_set (isN_set (isN_set (isN_set (isN_set (isN_set M1.out p1) p1) p1) p1) p1') p1') p1') p1'
      · exact isN_set (isN_set (isN_set (isN_set (isN_set (isN_set (isN_set (isN_set M2.out p2) p2) p2) p2) p2') p2') p2') p2'
      · exact isN_set (isN_set (isN_set (isN_set (isN_set (isN_set (isN_set (isN_set M3.out p3) p3) p3) p3) p3') p3') p3') p3'
      · exact isN_set (isN_set (isN_set (isN_set (isN_set (isN_set (isN_set (isN_set M4.out p4) p4) p4) p4) p4') p4') p4') p4'
      · exact ((((((((HBW.out.drew.trans ((HB5.out.mono t1).trans (HB6.out.mono (Nat.le_trans t1 t2)))).setCell (by show _ ≤ w.heap.size + 1 + 1; omega) _).setCell (by show _ ≤ w.heap.size + 1 + 1; omega) _).setCell (by show _ ≤ w.heap.size + 1 + 1; omega) _).setCell (by show _ ≤ w.heap.size + 1 + 1; omega) _).setCell (by show _ ≤ w.heap.size + 1 + 1 + 1; omega) _).setCell (by show _ ≤ w.heap.size + 1 + 1 + 1; omega) _).setCell (by show _ ≤ w.heap.size + 1 + 1 + 1; omega) _).setCell (by show _ ≤ w.heap.size + 1 + 1 + 1; omega) _
  · intro e a' w' hq
    cases e
    case normal =>
      obtain ⟨⟨us, rfl, hus4, hus5, hus6⟩, ⟨a1, l1, c1, a2, l2, c2, a3, l3, c3, a4, l4, c4, ⟨⟨v0, v1, v2, v3⟩, u0, u1, u2, u3⟩, hn⟩, hb⟩ := hq
      go_wp2
      simp only [bodyPost]
      refine ⟨trivial, _, ?_, ⟨a1, l1, c1, a2, l2, c2, a3, l3, c3, a4, l4, c4, rfl, hn⟩, hb⟩
      simp only [results, Tryd.results56]
      go_simp
    all_goals exact hq.elim

end Go.Proofs.YtaggfbffdbompaaDoor
