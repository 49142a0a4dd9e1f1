/-
  Contracts: a number or the code of what is too big; what is above two ratios, over what is below.
-/
import Derived.Test.YtaggfbffdbompaaDoorNum0
namespace Go.Proofs.YtaggfbffdbompaaDoor
set_option maxRecDepth 100000
set_option linter.unusedVariables false
set_option linter.unusedSimpArgs false
open Go.RowKit
attribute [local go_sem ↓] Go.wp_at_zero Go.wp_at_succ

theorem num_no {neg : Bool} {n m : Nat} (h : numB n m = false) : numC neg n m = false ∧ numU n m = ⟨#[]⟩ ∧ numD n m = ⟨#[]⟩ ∧ numK n m = 3 := by
  refine ⟨?_, ?_, ?_, ?_⟩
  · rw [numC, h]; rfl
  · rw [numU, h]; rfl
  · rw [numD, h]; rfl
  · rw [numK, h]; rfl

theorem num_yes {n m : Nat} (h : numB n m = true) : numK n m = 0 := by simp only [numK, h, if_true]

theorem l2Make_b (neg : Bool) (up dn : ByteArray) (n m : Nat) (w : World) (b : Bool) (hb : numB n m = b) (hn : Dm.isDec up.data.toList n) (hm : Dm.isDec dn.data.toList m) (hm0 : m ≠ 0) (fn : fits n 8000) (fm : fits m 8000) :
    Calls Tryd.prog 86 #[.bool neg, .string up, .string dn] w fun e w' => e = .returned (.tuple #[.agg #[.bool (numC neg n m), .string (numU n m), .string (numD n m)], .bool b]) ∧ Below w.heap.size w w' := by
  rw [← hb]; exact (l2Make_any neg up dn n m w hn hm hm0 fn fm).mono fun _ _ h => ⟨numRet_fn h.1, h.2⟩

theorem numOf_b (neg : Bool) (ao : Option Addr) (len cap : Nat) (ao2 : Option Addr) (len2 cap2 : Nat) (n m : Nat) (w : World) (b : Bool) (hb : numB n m = b) (hn : isN w (.slice ao len cap) n) (hm : isN w (.slice ao2 len2 cap2) m) (hm0 : m ≠ 0) (fn : fits n 8000) (fm : fits m 8000) (htab : TB w) :
    Calls Tryd.prog 68 #[.bool neg, .slice ao len cap, .slice ao2 len2 cap2] w fun e w' => e = .returned (.tuple #[.agg #[.bool (numC neg n m), .string (numU n m), .string (numD n m)], .bool b]) ∧ Below w.heap.size w w' := by
  rw [← hb]; exact numOf_c neg ao len cap ao2 len2 cap2 n m w hn hm hm0 fn fm htab

theorem num_end (neg : Bool) (n m : Nat) : ∃ c s1 s2, ∃ k : Int, (numB n m = true ∧ c = numC neg n m ∧ s1 = numU n m ∧ s2 = numD n m ∧ k = 0 ∨ numB n m = false ∧ c = false ∧ s1 = ⟨#[]⟩ ∧ s2 = ⟨#[]⟩ ∧ k = 3) ∧ Hid (Ending.returned (.tuple #[.agg #[.bool c, .string s1, .string s2], .int .i64 k]) = .returned (.tuple #[.agg #[.bool (numC neg n m), .string (numU n m), .string (numD n m)], .int .i64 (numK n m)])) := by
  cases h : numB n m
  · obtain ⟨e1, e2, e3, e4⟩ := num_no (neg := neg) h
    refine ⟨_, _, _, _, .inr ⟨rfl, rfl, rfl, rfl, rfl⟩, ?_⟩
    show _ = _
    rw [e1, e2, e3, e4]
  · refine ⟨_, _, _, _, .inl ⟨rfl, rfl, rfl, rfl, rfl⟩, ?_⟩
    show _ = _
    rw [num_yes h]

set_option maxHeartbeats 1600000 in
theorem l3Answer_any (neg : Bool) (up dn : ByteArray) (n m : Nat) (w : World) (hn : Dm.isDec up.data.toList n) (hm : Dm.isDec dn.data.toList m) (hm0 : m ≠ 0) (fn : fits n 8000) (fm : fits m 8000) :
    Calls Tryd.prog 59 #[.bool neg, .string up, .string dn] w fun e w' => e = .returned (.tuple #[.agg #[.bool (numC neg n m), .string (numU n m), .string (numD n m)], .int .i64 (numK n m)]) ∧ Below w.heap.size w w' := by
  have HN : Hid (Dm.isDec up.data.toList n) := hn
  have HM : Hid (Dm.isDec dn.data.toList m) := hm
  have hB0 : Below w.heap.size w (w.alloc (.cells #[.bool false, .string ⟨#[]⟩, .string ⟨#[]⟩] 25)) := (Below.refl _ _).alloc (Nat.le_refl _) _
  have x0 := boxAt_new w #[.bool false, .string ⟨#[]⟩, .string ⟨#[]⟩] 25
  have HB0 : Hid _ := hB0
  have X0 : Hid (boxAt _ _ _ _) := x0
  clear hn hm hB0 x0
  obtain ⟨cc, ss1, ss2, kk, hk, HR⟩ := num_end neg n m
  rcases hk with ⟨hb, rfl, rfl, rfl, rfl⟩ | ⟨hb, rfl, rfl, rfl, rfl⟩
  all_goals
    have HK : Hid _ := hb
    clear hb
    go_enter Tryd.func59, Tryd.ntmps59
    go_wp2_with fail
    refine (l2Make_b neg up dn n m _ _ HK.out HN.out HM.out hm0 fn fm).mono ?_
    rintro e w1 ⟨rfl, hb1⟩
    have HB1 : Hid (Below w.heap.size w w1) := HB0.out.trans (hb1.mono HB0.out.size)
    have X1 : Hid (boxAt w1 _ _ _) := X0.out.on hb1
    clear hb1 X0 HB0 HN HM
    have q0 := X1.out.cell 0 rfl
    have q1 := X1.out.cell 1 rfl
    have q2 := X1.out.cell 2 rfl
    have f0 := X1.out.frozen 0
    have f1 := X1.out.frozen 1
    have f2 := X1.out.frozen 2
    have hlt := X1.out.lt
    have hsz := HB1.out.size
    go_wp2
    simp only [bodyPost]
    refine ⟨trivial, _, ?_, HR.out, ?_⟩
    · simp only [results, Tryd.results59]
      go_simp
    · exact (((HB1.out.setCell (p := ⟨w.heap.size, 0, none⟩) (by show _ ≤ w.heap.size; omega) _).setCell (p := ⟨w.heap.size, 1, none⟩) (by show _ ≤ w.heap.size; omega) _).setCell (p := ⟨w.heap.size, 2, none⟩) (by show _ ≤ w.heap.size; omega) _).alloc (by simp only [World.size_setCell]; omega) _

set_option maxHeartbeats 1600000 in
theorem numOfRatio_any (b : Bool) (ao : Option Addr) (len cap : Nat) (b2 : Bool) (ao2 : Option Addr) (len2 cap2 : Nat) (n m : Nat) (w : World) (hn : isN w (.slice ao len cap) n) (hm : isN w (.slice ao2 len2 cap2) m) (hm0 : m ≠ 0) (fn : fits n 8000) (fm : fits m 8000) (htab : TB w) :
    Calls Tryd.prog 39 #[.agg #[.bool b, .slice ao len cap, .bool b2, .slice ao2 len2 cap2]] w fun e w' => e = .returned (.tuple #[.agg #[.bool (numC (b != b2) n m), .string (numU n m), .string (numD n m)], .int .i64 (numK n m)]) ∧ Below w.heap.size w w' := by
  have HN : Hid (isN w (.slice ao len cap) n) := hn
  have HM : Hid (isN w (.slice ao2 len2 cap2) m) := hm
  have HT : Hid (TB w) := htab
  clear hn hm htab
  obtain ⟨cc, ss1, ss2, kk, hk, HR⟩ := num_end (b != b2) n m
  rcases hk with ⟨hb, rfl, rfl, rfl, rfl⟩ | ⟨hb, rfl, rfl, rfl, rfl⟩
  all_goals
    have HK : Hid _ := hb
    clear hb
    go_enter Tryd.func39, Tryd.ntmps39
    go_wp2_with fail
    obtain ⟨W, hW, hBW, x0, x1⟩ := boxes2 w #[Value.bool b, Value.slice ao len cap, Value.bool b2, Value.slice ao2 len2 cap2] #[Value.bool false, Value.string ⟨#[]⟩, Value.string ⟨#[]⟩] 60 25
    rw [← hW]
    have HBW : Hid (Below w.heap.size w W) := hBW
    have X1 : Hid (boxAt W _ _ _) := x1
    clear hW hBW x0 x1
    refine (numOf_b _ ao len cap ao2 len2 cap2 n m _ _ HK.out (isN_below HN.out HBW.out) (isN_below HM.out HBW.out) hm0 fn fm (HT.out.on HBW.out)).mono ?_
    rintro e w1 ⟨rfl, hb1⟩
    have HB1 : Hid (Below w.heap.size w w1) := HBW.out.trans (hb1.mono HBW.out.size)
    have X2 : Hid (boxAt w1 _ _ _) := X1.out.on hb1
    clear hb1 X1 HBW HN HM HT
    have q0 := X2.out.cell 0 rfl
    have q1 := X2.out.cell 1 rfl
    have q2 := X2.out.cell 2 rfl
    have f0 := X2.out.frozen 0
    have f1 := X2.out.frozen 1
    have f2 := X2.out.frozen 2
    have hlt := X2.out.lt
    have hsz := HB1.out.size
    go_wp2
    simp only [bodyPost]
    refine ⟨trivial, _, ?_, HR.out, ?_⟩
    · simp only [results, Tryd.results39]
      go_simp
      all_goals (cases b <;> cases b2 <;> rfl)
    · exact (((HB1.out.setCell (p := ⟨w.heap.size + 1, 0, none⟩) (by show _ ≤ w.heap.size + 1; omega) _).setCell (p := ⟨w.heap.size + 1, 1, none⟩) (by show _ ≤ w.heap.size + 1; omega) _).setCell (p := ⟨w.heap.size + 1, 2, none⟩) (by show _ ≤ w.heap.size + 1; omega) _).alloc (by simp only [World.size_setCell]; omega) _

set_option maxHeartbeats 1600000 in
theorem turned_any (b : Bool) (ao : Option Addr) (len cap : Nat) (b2 : Bool) (ao2 : Option Addr) (len2 cap2 : Nat) (w : World) :
    Calls Tryd.prog 62 #[.agg #[.bool b, .slice ao len cap, .bool b2, .slice ao2 len2 cap2]] w fun e w' => e = .returned (.agg #[.bool b2, .slice ao2 len2 cap2, .bool b, .slice ao len cap]) ∧ Below w.heap.size w w' := by
  have hB : ∀ o, Below w.heap.size w (w.alloc o) := fun o => (Below.refl _ _).alloc (Nat.le_refl _) _
  go_enter Tryd.func62, Tryd.ntmps62
  go_wp2
  simp only [bodyPost]
  refine ⟨trivial, _, ?_, rfl, ?_⟩
  · simp [results, Tryd.results62, go_sem]
  · exact (((hB _).alloc (by show _ ≤ (w.heap.push _).size; simp) _))

set_option maxHeartbeats 1600000 in
theorem productAbove_any (b : Bool) (ao : Option Addr) (len cap : Nat) (b2 : Bool) (ao2 : Option Addr) (len2 cap2 : Nat) (b3 : Bool) (ao3 : Option Addr) (len3 cap3 : Nat) (b4 : Bool) (ao4 : Option Addr) (len4 cap4 : Nat) (n1 n3 : Nat) (w : World)
    (h1 : isN w (.slice ao len cap) n1) (h3 : isN w (.slice ao3 len3 cap3) n3) (f1 : fits n1 10000) (f3 : fits n3 10000) :
    Calls Tryd.prog 66 #[.agg #[.bool b, .slice ao len cap, .bool b2, .slice ao2 len2 cap2], .agg #[.bool b3, .slice ao3 len3 cap3, .bool b4, .slice ao4 len4 cap4]] w fun e w' =>
      (∃ c ao5 len5 cap5, e = .returned (.agg #[.bool c, .slice ao5 len5 cap5]) ∧ Hid (c = (b != b3)) ∧ isN w' (.slice ao5 len5 cap5) (n1 * n3)) ∧ Below w.heap.size w w' := by
  go_enter Tryd.func66, Tryd.ntmps66
  go_wp2_with fail
  obtain ⟨W, hW, hBW, x0, x1, x2⟩ := boxes3 w #[Value.bool b, Value.slice ao len cap, Value.bool b2, Value.slice ao2 len2 cap2] #[Value.bool b3, Value.slice ao3 len3 cap3, Value.bool b4, Value.slice ao4 len4 cap4] #[Value.bool false, Value.slice none 0 0] 60 60 44
  rw [← hW]
  have HBW : Hid (Below w.heap.size w W) := hBW
  have H1 : Hid (isN W (.slice ao len cap) n1) := isN_below h1 hBW
  have H3 : Hid (isN W (.slice ao3 len3 cap3) n3) := isN_below h3 hBW
  have X2 : Hid (boxAt W _ _ _) := x2
  clear hW hBW x0 x1 x2 h1 h3
  refine (times_c b ao len cap b3 ao3 len3 cap3 n1 n3 _ H1.out H3.out f1 f3).mono ?_
  rintro e w1 ⟨⟨c, ao5, len5, cap5, rfl, hc, hn⟩, hb1⟩
  have HB1 : Hid (Below w.heap.size w w1) := HBW.out.trans (hb1.mono HBW.out.size)
  have Y2 : Hid (boxAt w1 _ _ _) := X2.out.on hb1
  have HN : Hid (isN w1 (.slice ao5 len5 cap5) (n1 * n3)) := hn
  clear hn hb1 X2 HBW H1 H3
  have q0 := Y2.out.cell 0 rfl
  have q1 := Y2.out.cell 1 rfl
  have g0 := Y2.out.frozen 0
  have g1 := Y2.out.frozen 1
  have hz2 := Y2.out.lt
  have hap : Hid _ := isN_apart HN.out Y2.out (by decide)
  go_wp2
  simp only [bodyPost]
  refine ⟨trivial, _, ?_, ⟨c, ao5, len5, cap5, rfl, hc, isN_set (isN_set HN.out hap.out) hap.out⟩, ?_⟩
  · simp only [results, Tryd.results66]
    go_simp
  · exact (HB1.out.setCell (by show _ ≤ w.heap.size + 1 + 1; omega) _).setCell (by show _ ≤ w.heap.size + 1 + 1; omega) _

set_option maxHeartbeats 1600000 in
theorem combineProd_any (b : Bool) (ao : Option Addr) (len cap : Nat) (b2 : Bool) (ao2 : Option Addr) (len2 cap2 : Nat) (b3 : Bool) (ao3 : Option Addr) (len3 cap3 : Nat) (b4 : Bool) (ao4 : Option Addr) (len4 cap4 : Nat) (n1 n2 n3 n4 : Nat) (w : World)
    (h1 : isN w (.slice ao len cap) n1) (h2 : isN w (.slice ao2 len2 cap2) n2) (h3 : isN w (.slice ao3 len3 cap3) n3) (h4 : isN w (.slice ao4 len4 cap4) n4) (f1 : fits n1 10000) (f2 : fits n2 10000) (f3 : fits n3 10000) (f4 : fits n4 10000) :
    Calls Tryd.prog 65 #[.agg #[.bool b, .slice ao len cap, .bool b2, .slice ao2 len2 cap2], .agg #[.bool b3, .slice ao3 len3 cap3, .bool b4, .slice ao4 len4 cap4], .func (.func 66) #[] #[]] w fun e w' =>
      (∃ c ao5 len5 cap5 c6 ao6 len6 cap6, e = .returned (.agg #[.bool c, .slice ao5 len5 cap5, .bool c6, .slice ao6 len6 cap6]) ∧ Hid (c = (b != b3)) ∧ Hid (isN w' (.slice ao5 len5 cap5) (n1 * n3)) ∧ Hid (c6 = (b2 != b4)) ∧ Hid (isN w' (.slice ao6 len6 cap6) (n2 * n4))) ∧ Below w.heap.size w w' := by
  go_enter Tryd.func65, Tryd.ntmps65
  go_wp2_with fail
  obtain ⟨W, hW, hBW, x0, x1, x2⟩ := boxes3 w #[Value.bool b, Value.slice ao len cap, Value.bool b2, Value.slice ao2 len2 cap2] #[Value.bool b3, Value.slice ao3 len3 cap3, Value.bool b4, Value.slice ao4 len4 cap4] #[Value.bool false, Value.slice none 0 0, Value.bool false, Value.slice none 0 0] 60 60 60
  rw [← hW]
  have HBW : Hid (Below w.heap.size w W) := hBW
  have H1 : Hid (isN W (.slice ao len cap) n1) := isN_below h1 hBW
  have H2 : Hid (isN W (.slice ao2 len2 cap2) n2) := isN_below h2 hBW
  have H3 : Hid (isN W (.slice ao3 len3 cap3) n3) := isN_below h3 hBW
  have H4 : Hid (isN W (.slice ao4 len4 cap4) n4) := isN_below h4 hBW
  have k00 := x0.cell 0 rfl
  have k01 := x0.cell 1 rfl
  have k02 := x0.cell 2 rfl
  have k03 := x0.cell 3 rfl
  have k10 := x1.cell 0 rfl
  have k11 := x1.cell 1 rfl
  have k12 := x1.cell 2 rfl
  have k13 := x1.cell 3 rfl
  have X0 : Hid (boxAt W _ _ _) := x0
  have X1 : Hid (boxAt W _ _ _) := x1
  have X2 : Hid (boxAt W _ _ _) := x2
  clear hW hBW x0 x1 x2 h1 h2 h3 h4
  refine Go.wp_mono (Q := fun e a' w' => match e with | .normal => (∃ us : Array Value, a' = { tmps := us, defers := [] } ∧ us[6]? = some (.pointer (some ⟨w.heap.size + 1 + 1, 0, none⟩))) ∧ (∃ c ao5 len5 cap5 c6 ao6 len6 cap6, (w'.cell? ⟨w.heap.size + 1 + 1, 0, none⟩ = some (.bool c) ∧ w'.cell? ⟨w.heap.size + 1 + 1, 1, none⟩ = some (.slice ao5 len5 cap5) ∧ w'.cell? ⟨w.heap.size + 1 + 1, 2, none⟩ = some (.bool c6) ∧ w'.cell? ⟨w.heap.size + 1 + 1, 3, none⟩ = some (.slice ao6 len6 cap6)) ∧ Hid (c = (b != b3)) ∧ Hid (isN w' (.slice ao5 len5 cap5) (n1 * n3)) ∧ Hid (c6 = (b2 != b4)) ∧ Hid (isN w' (.slice ao6 len6 cap6) (n2 * n4))) ∧ Below w.heap.size w w' | _ => False) ?_ ?_
  · go_region_held3 (fun w' => ((w'.cell? ⟨w.heap.size, 0, none⟩ = some (.bool b) ∧ w'.cell? ⟨w.heap.size, 1, none⟩ = some (.slice ao len cap)) ∧ (w'.cell? ⟨w.heap.size, 2, none⟩ = some (.bool b2) ∧ w'.cell? ⟨w.heap.size, 3, none⟩ = some (.slice ao2 len2 cap2))) ∧ ((w'.cell? ⟨w.heap.size + 1, 0, none⟩ = some (.bool b3) ∧ w'.cell? ⟨w.heap.size + 1, 1, none⟩ = some (.slice ao3 len3 cap3)) ∧ (w'.cell? ⟨w.heap.size + 1, 2, none⟩ = some (.bool b4) ∧ w'.cell? ⟨w.heap.size + 1, 3, none⟩ = some (.slice ao4 len4 cap4))))
      ((repeat' apply And.intro) <;> first | (with_reducible assumption) | ((with_reducible refine keep_set (keep_set (keep_set (keep_set ?_ ?_) ?_) ?_) ?_) <;> first | omega | assumption) | (go_keep; done))
      (first
        | (go_at_call 66; refine (productAbove_any b ao len cap b2 ao2 len2 cap2 b3 ao3 len3 cap3 b4 ao4 len4 cap4 _ _ _ (isN_below H1.out (below_drew _)) (isN_below H3.out (below_drew _)) f1 f3).mono ?_; rintro e w5 ⟨⟨c5, ao5, len5, cap5, rfl, hc5, h5⟩, hb5⟩; have H5 : Hid (isN w5 (.slice ao5 len5 cap5) (n1 * n3)) := h5; have HB5 : Hid (Below W.drew.heap.size W.drew w5) := hb5
           have X05 : Hid (boxAt w5 _ _ _) := X0.out.drew.on hb5; have X15 : Hid (boxAt w5 _ _ _) := X1.out.drew.on hb5; have X25 : Hid (boxAt w5 _ _ _) := X2.out.drew.on hb5
           have j00 := X05.out.cell 0 rfl; have j01 := X05.out.cell 1 rfl; have j02 := X05.out.cell 2 rfl; have j03 := X05.out.cell 3 rfl; have j10 := X15.out.cell 0 rfl; have j11 := X15.out.cell 1 rfl; have j12 := X15.out.cell 2 rfl; have j13 := X15.out.cell 3 rfl; clear h5 hb5)
        | (go_at_call 128; refine (times_c b2 ao2 len2 cap2 b4 ao4 len4 cap4 n2 n4 _ (isN_below (isN_below H2.out (below_drew _)) HB5.out) (isN_below (isN_below H4.out (below_drew _)) HB5.out) f2 f4).mono ?_; rintro e w6 ⟨⟨c6, ao6, len6, cap6, rfl, hc6, h6⟩, hb6⟩; have H6 : Hid (isN w6 (.slice ao6 len6 cap6) (n2 * n4)) := h6; have G5 : Hid (isN w6 (.slice ao5 len5 cap5) (n1 * n3)) := isN_below H5.out hb6; have HB6 : Hid (Below w5.heap.size w5 w6) := hb6
           have X06 : Hid (boxAt w6 _ _ _) := X05.out.on hb6; have X16 : Hid (boxAt w6 _ _ _) := X15.out.on hb6; have X26 : Hid (boxAt w6 _ _ _) := X25.out.on hb6
           have i00 := X06.out.cell 0 rfl; have i01 := X06.out.cell 1 rfl; have i02 := X06.out.cell 2 rfl; have i03 := X06.out.cell 3 rfl; have i10 := X16.out.cell 0 rfl; have i11 := X16.out.cell 1 rfl; have i12 := X16.out.cell 2 rfl; have i13 := X16.out.cell 3 rfl
           have q20 := X26.out.cell 0 rfl; have q21 := X26.out.cell 1 rfl; have q22 := X26.out.cell 2 rfl; have q23 := X26.out.cell 3 rfl; have g20 := X26.out.frozen 0; have g21 := X26.out.frozen 1; have g22 := X26.out.frozen 2; have g23 := X26.out.frozen 3; clear h6 hb6))
    all_goals
      have hz2 := X26.out.lt
      have hap := isN_apart G5.out X26.out (by decide)
      have hap2 := isN_apart H6.out X26.out (by decide)
      have s1 := HBW.out.size
      have s2 := HB5.out.size
      refine ⟨⟨_, rfl, rfl⟩, ⟨c5, ao5, len5, cap5, c6, ao6, len6, cap6, ⟨?_, ?_, ?_, ?_⟩, hc5, isN_set (isN_set (isN_set (isN_set G5.out hap) hap) hap) hap, hc6, isN_set (isN_set (isN_set (isN_set H6.out hap2) hap2) hap2) hap2⟩, ?_⟩
      · go_simp
      · go_simp
      · go_simp
      · go_simp
      · exact ((((HBW.out.drew.trans ((HB5.out.mono s1).trans (HB6.out.mono (Nat.le_trans s1 s2)))).setCell (by show _ ≤ w.heap.size + 1 + 1; omega) _).setCell (by show _ ≤ w.heap.size + 1 + 1; omega) _).setCell (by show _ ≤ w.heap.size + 1 + 1; omega) _).setCell (by show _ ≤ w.heap.size + 1 + 1; omega) _
  · intro e a' w' hq
    cases e
    case normal =>
      obtain ⟨⟨us, rfl, hus⟩, ⟨c, ao5, len5, cap5, c6, ao6, len6, cap6, ⟨hv0, hv1, hv2, hv3⟩, hh⟩, hb⟩ := hq
      go_wp2
      simp only [bodyPost]
      refine ⟨trivial, _, ?_, ⟨c, ao5, len5, cap5, c6, ao6, len6, cap6, rfl, hh⟩, hb⟩
      simp only [results, Tryd.results65]
      go_simp
    all_goals exact hq.elim

end Go.Proofs.YtaggfbffdbompaaDoor
