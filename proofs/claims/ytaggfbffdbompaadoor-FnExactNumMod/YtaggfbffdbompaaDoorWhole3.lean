/-
  The contract of reading two whole numbers of which the one can be divided by the other.
-/
import Derived.Test.YtaggfbffdbompaaDoorWhole2
namespace Go.Proofs.YtaggfbffdbompaaDoor
set_option maxRecDepth 100000
set_option linter.unusedVariables false
set_option linter.unusedSimpArgs false
open Go.RowKit
attribute [local go_sem ↓] Go.wp_at_zero Go.wp_at_succ

theorem sign_w (b : Bool) (ao : Option Addr) (len cap : Nat) (n : Nat) (z : Int) (w : World) (hz : Hid (signI b n = z)) (hn : isN w (.slice ao len cap) n) :
    Calls Tryd.prog 29 #[.agg #[.bool b, .slice ao len cap]] w fun e w' => e = .returned (.int .i64 z) ∧ Below w.heap.size w w' := by
  rw [← hz.out]; exact sign_any b ao len cap n w hn

set_option maxHeartbeats 1600000 in
theorem divisionOf_err (neg : Bool) (up dn : ByteArray) (neg2 : Bool) (up2 dn2 : ByteArray) (c : Int) (HR : Hid (WErr 32 neg up dn neg2 up2 dn2 c)) : WErr 24 neg up dn neg2 up2 dn2 c := by
  intro w
  go_enter Tryd.func24, Tryd.ntmps24
  go_wp2_with fail
  obtain ⟨V, hV, hBV, x0, x1, x2, x3⟩ := boxes4 w #[Value.bool neg, Value.string up, Value.string dn] #[Value.bool neg2, Value.string up2, Value.string dn2] #[Value.bool false, Value.slice none 0 0] #[Value.bool false, Value.slice none 0 0] 25 25 44 44
  rw [← hV]
  have HBV : Hid (Below w.heap.size w V) := hBV
  have Z2 : Hid (boxAt V _ _ _) := x2
  have Z3 : Hid (boxAt V _ _ _) := x3
  clear hV hBV x0 x1 x2 x3
  refine (HR.out _).mono ?_
  rintro e w3 ⟨rfl, hb3⟩
  have HB9 : Hid (Below w.heap.size w w3) := HBV.out.trans (hb3.mono HBV.out.size)
  have Y2 : Hid (boxAt w3 _ _ _) := Z2.out.on hb3
  have Y3 : Hid (boxAt w3 _ _ _) := Z3.out.on hb3
  clear hb3 Z2 Z3 HBV HR
  have q0 := Y2.out.cell 0 rfl
  have f0 := Y2.out.frozen 0
  have q1 := Y2.out.cell 1 rfl
  have f1 := Y2.out.frozen 1
  have q2 := Y3.out.cell 0 rfl
  have f2 := Y3.out.frozen 0
  have q3 := Y3.out.cell 1 rfl
  have f3 := Y3.out.frozen 1
  have hlt2 := Y2.out.lt
  have hlt3 := Y3.out.lt
  have hsz := HB9.out.size
  have hltA : w.heap.size < w3.heap.size := by omega
  have hltB : w.heap.size + 1 < w3.heap.size := by omega
  go_wp2
  simp only [bodyPost]
  refine ⟨trivial, _, ?_, rfl, ?_⟩
  · simp only [results, Tryd.results24]
    go_simp
  · (repeat' first | exact HB9.out | refine bel_alloc0 ?_ | refine bel_set0 ?_ ?_ | (dsimp only; omega))

set_option maxHeartbeats 1600000 in
theorem divisionOf_nought (neg : Bool) (up dn : ByteArray) (neg2 : Bool) (up2 dn2 : ByteArray) (u : Nat) (HR : Hid (WYes 32 neg up dn neg2 up2 dn2 u 0)) : WErr 24 neg up dn neg2 up2 dn2 2 := by
  have HZ : Hid (signI neg2 0 = 0) := rfl
  intro w
  go_enter Tryd.func24, Tryd.ntmps24
  go_wp2_with fail
  obtain ⟨V, hV, hBV, x0, x1, x2, x3⟩ := boxes4 w #[Value.bool neg, Value.string up, Value.string dn] #[Value.bool neg2, Value.string up2, Value.string dn2] #[Value.bool false, Value.slice none 0 0] #[Value.bool false, Value.slice none 0 0] 25 25 44 44
  rw [← hV]
  have HBV : Hid (Below w.heap.size w V) := hBV
  have Z2 : Hid (boxAt V _ _ _) := x2
  have Z3 : Hid (boxAt V _ _ _) := x3
  clear hV hBV x0 x1 x2 x3
  refine (HR.out _).mono ?_
  rintro e w3 ⟨⟨a1, l1, c1, a3, l3, c3, rfl, n1, n3⟩, hb3⟩
  have HB3 : Hid (Below w.heap.size w w3) := HBV.out.trans (hb3.mono HBV.out.size)
  have W2 : Hid (boxAt w3 _ _ _) := Z2.out.on hb3
  have W3 : Hid (boxAt w3 _ _ _) := Z3.out.on hb3
  have hltA : w.heap.size + 1 + 1 + 1 < w3.heap.size := W3.out.lt
  clear hb3 Z2 Z3 HBV HR
  go_wp2_with fail
  obtain ⟨W, hW, hBW, x0, x1⟩ := boxes2 w3 #[Value.bool neg, Value.slice a1 l1 c1] #[Value.bool neg2, Value.slice a3 l3 c3] 44 44
  rw [← hW]
  have HB4 : Hid (Below w.heap.size w W) := HB3.out.trans (hBW.mono HB3.out.size)
  have V2 : Hid (boxAt W _ _ _) := W2.out.on hBW
  have V3 : Hid (boxAt W _ _ _) := W3.out.on hBW
  have V4 : Hid (boxAt W _ _ _) := x0
  have V5 : Hid (boxAt W _ _ _) := x1
  have N1 : Hid (isN W (.slice a1 l1 c1) _) := isN_below n1.out hBW
  have N3 : Hid (isN W (.slice a3 l3 c3) _) := isN_below n3.out hBW
  clear hW hBW x0 x1 n1 n3 W2 W3 HB3
  refine (sign_w neg2 a3 l3 c3 _ _ _ HZ N3.out).mono ?_
  rintro e w6 ⟨rfl, hb6⟩
  have HB9 : Hid (Below w.heap.size w w6) := HB4.out.trans (hb6.mono HB4.out.size)
  have Y2 : Hid (boxAt w6 _ _ _) := V2.out.on hb6
  have Y3 : Hid (boxAt w6 _ _ _) := V3.out.on hb6
  have Y4 : Hid (boxAt w6 _ _ _) := V4.out.on hb6
  have Y5 : Hid (boxAt w6 _ _ _) := V5.out.on hb6
  have M1 : Hid (isN w6 (.slice a1 l1 c1) _) := isN_below N1.out hb6
  have M3 : Hid (isN w6 (.slice a3 l3 c3) _) := isN_below N3.out hb6
  clear hb6 V2 V3 V4 V5 N1 N3 HB4
  have q0 := Y2.out.cell 0 rfl
  have f0 := Y2.out.frozen 0
  have q1 := Y2.out.cell 1 rfl
  have f1 := Y2.out.frozen 1
  have q2 := Y3.out.cell 0 rfl
  have f2 := Y3.out.frozen 0
  have q3 := Y3.out.cell 1 rfl
  have f3 := Y3.out.frozen 1
  have hlt2 := Y2.out.lt
  have hlt3 := Y3.out.lt
  go_wp2
  simp only [bodyPost]
  refine ⟨trivial, _, ?_, rfl, ?_⟩
  · simp only [results, Tryd.results24]
    go_simp
  · (repeat' first | exact HB9.out | refine bel_alloc0 ?_ | refine bel_set0 ?_ ?_ | (dsimp only; omega))

set_option maxHeartbeats 1600000 in
theorem divisionOf_yes (neg : Bool) (up dn : ByteArray) (neg2 : Bool) (up2 dn2 : ByteArray) (u u2 : Nat) (hu : u2 ≠ 0) (HR : Hid (WYes 32 neg up dn neg2 up2 dn2 u u2)) : WYes 24 neg up dn neg2 up2 dn2 u u2 := by
  obtain ⟨z, hz⟩ : ∃ z, z = signI neg2 u2 := ⟨_, rfl⟩
  have HZ : Hid (signI neg2 u2 = z) := hz.symm
  have hz0 : (z == 0) = false := beq_eq_false_iff_ne.2 (by rw [hz]; unfold signI; rw [if_neg hu]; split <;> decide)
  have hz1 : ¬ z = 0 := by simpa using hz0
  clear hz
  intro w
  go_enter Tryd.func24, Tryd.ntmps24
  go_wp2_with fail
  obtain ⟨V, hV, hBV, x0, x1, x2, x3⟩ := boxes4 w #[Value.bool neg, Value.string up, Value.string dn] #[Value.bool neg2, Value.string up2, Value.string dn2] #[Value.bool false, Value.slice none 0 0] #[Value.bool false, Value.slice none 0 0] 25 25 44 44
  rw [← hV]
  have HBV : Hid (Below w.heap.size w V) := hBV
  have Z2 : Hid (boxAt V _ _ _) := x2
  have Z3 : Hid (boxAt V _ _ _) := x3
  clear hV hBV x0 x1 x2 x3
  refine (HR.out _).mono ?_
  rintro e w3 ⟨⟨a1, l1, c1, a3, l3, c3, rfl, n1, n3⟩, hb3⟩
  have HB3 : Hid (Below w.heap.size w w3) := HBV.out.trans (hb3.mono HBV.out.size)
  have W2 : Hid (boxAt w3 _ _ _) := Z2.out.on hb3
  have W3 : Hid (boxAt w3 _ _ _) := Z3.out.on hb3
  have hltA : w.heap.size + 1 + 1 + 1 < w3.heap.size := W3.out.lt
  clear hb3 Z2 Z3 HBV HR
  go_wp2_with fail
  obtain ⟨W, hW, hBW, x0, x1⟩ := boxes2 w3 #[Value.bool neg, Value.slice a1 l1 c1] #[Value.bool neg2, Value.slice a3 l3 c3] 44 44
  rw [← hW]
  have HB4 : Hid (Below w.heap.size w W) := HB3.out.trans (hBW.mono HB3.out.size)
  have V2 : Hid (boxAt W _ _ _) := W2.out.on hBW
  have V3 : Hid (boxAt W _ _ _) := W3.out.on hBW
  have V4 : Hid (boxAt W _ _ _) := x0
  have V5 : Hid (boxAt W _ _ _) := x1
  have N1 : Hid (isN W (.slice a1 l1 c1) _) := isN_below n1.out hBW
  have N3 : Hid (isN W (.slice a3 l3 c3) _) := isN_below n3.out hBW
  clear hW hBW x0 x1 n1 n3 W2 W3 HB3
  refine (sign_w neg2 a3 l3 c3 _ _ _ HZ N3.out).mono ?_
  rintro e w6 ⟨rfl, hb6⟩
  have HB9 : Hid (Below w.heap.size w w6) := HB4.out.trans (hb6.mono HB4.out.size)
  have Y2 : Hid (boxAt w6 _ _ _) := V2.out.on hb6
  have Y3 : Hid (boxAt w6 _ _ _) := V3.out.on hb6
  have Y4 : Hid (boxAt w6 _ _ _) := V4.out.on hb6
  have Y5 : Hid (boxAt w6 _ _ _) := V5.out.on hb6
  have M1 : Hid (isN w6 (.slice a1 l1 c1) _) := isN_below N1.out hb6
  have M3 : Hid (isN w6 (.slice a3 l3 c3) _) := isN_below N3.out hb6
  clear hb6 V2 V3 V4 V5 N1 N3 HB4
  have q0 := Y2.out.cell 0 rfl
  have f0 := Y2.out.frozen 0
  have q1 := Y2.out.cell 1 rfl
  have f1 := Y2.out.frozen 1
  have q2 := Y3.out.cell 0 rfl
  have f2 := Y3.out.frozen 0
  have q3 := Y3.out.cell 1 rfl
  have f3 := Y3.out.frozen 1
  have hlt2 := Y2.out.lt
  have hlt3 := Y3.out.lt
  have p0 := Y4.out.cell 0 rfl
  have p1 := Y4.out.cell 1 rfl
  have p2 := Y5.out.cell 0 rfl
  have p3 := Y5.out.cell 1 rfl
  have hlt4 := Y4.out.lt
  have hlt5 := Y5.out.lt
  go_wp2_with fail
  refine Go.wp_mono (Q := fun e a' w' => match e with | .normal => (∃ us : Array Value, a' = { tmps := us, defers := [] } ∧ us[4]? = some (.pointer (some ⟨w.heap.size + 1 + 1, 0, none⟩)) ∧ us[5]? = some (.pointer (some ⟨w.heap.size + 1 + 1 + 1, 0, none⟩)) ∧ us[6]? = some .nilIface) ∧ ((w'.cell? ⟨w.heap.size + 1 + 1, 0, none⟩ = some (.bool neg) ∧ w'.cell? ⟨w.heap.size + 1 + 1, 1, none⟩ = some (.slice a1 l1 c1)) ∧ (w'.cell? ⟨w.heap.size + 1 + 1 + 1, 0, none⟩ = some (.bool neg2) ∧ w'.cell? ⟨w.heap.size + 1 + 1 + 1, 1, none⟩ = some (.slice a3 l3 c3))) ∧ (Hid (isN w' (.slice a1 l1 c1) u) ∧ Hid (isN w' (.slice a3 l3 c3) u2)) ∧ Below w.heap.size w w' | _ => False) ?_ ?_
  · go_region_held3 (fun w' => (w'.cell? ⟨w3.heap.size, 0, none⟩ = some (.bool neg) ∧ w'.cell? ⟨w3.heap.size, 1, none⟩ = some (.slice a1 l1 c1)) ∧ (w'.cell? ⟨w3.heap.size + 1, 0, none⟩ = some (.bool neg2) ∧ w'.cell? ⟨w3.heap.size + 1, 1, none⟩ = some (.slice a3 l3 c3)))
      ((repeat' apply And.intro) <;> first | (with_reducible assumption) | ((with_reducible refine keep_drew (keep_set (keep_set ?_ ?_) ?_)) <;> first | omega | assumption) | ((with_reducible refine keep_drew (keep_set (keep_set (keep_set (keep_set ?_ ?_) ?_) ?_) ?_)) <;> first | omega | assumption) | (go_keep; done))
      (fail)
    all_goals
      have ha1 := isN_apart M1.out Y2.out (by decide)
      have ha2 := isN_apart M1.out Y3.out (by decide)
      have ha3 := isN_apart M3.out Y2.out (by decide)
      have ha4 := isN_apart M3.out Y3.out (by decide)
      refine ⟨⟨_, rfl, rfl, rfl, rfl⟩, ⟨⟨?_, ?_⟩, ?_, ?_⟩, ⟨isN_set (isN_set (isN_set (isN_set M1.out ha1) ha1) ha2) ha2, isN_set (isN_set (isN_set (isN_set M3.out ha3) ha3) ha4) ha4⟩, ?_⟩
      · go_simp
      · go_simp
      · go_simp
      · go_simp
      · (repeat' first | exact HB9.out | refine bel_set0 ?_ ?_ | refine bel_drew0 ?_ | (dsimp only; omega))
  · intro e a' w' hq
    cases e
    case normal =>
      obtain ⟨⟨us, rfl, hus4, hus5, hus6⟩, ⟨⟨hv0, hv1⟩, hv2, hv3⟩, ⟨hm1, hm3⟩, hb⟩ := hq
      go_wp2
      simp only [bodyPost]
      refine ⟨trivial, _, ?_, ⟨a1, l1, c1, a3, l3, c3, rfl, hm1, hm3⟩, hb⟩
      simp only [results, Tryd.results24]
      go_simp
    all_goals exact hq.elim

end Go.Proofs.YtaggfbffdbompaaDoor
