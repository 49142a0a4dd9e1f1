/-
  The contract of the specification's NumPower.
-/
import Derived.Test.YtaggfbffdbompaaDoorPwMul
import Derived.Test.YtaggfbffdbompaaDoorPwC
import Derived.Test.YtaggfbffdbompaaDoorWLaw0
namespace Go.Proofs.YtaggfbffdbompaaDoor
set_option maxRecDepth 100000
set_option linter.unusedVariables false
set_option linter.unusedSimpArgs false
open Go.RowKit
attribute [local go_sem ↓] Go.wp_at_zero Go.wp_at_succ

set_option maxHeartbeats 400000 in
theorem l1In_any (k : Int) (r : Bool) (w : World) (hr : r = decide (-1000 ≤ k ∧ k ≤ 1000)) :
    Calls Tryd.prog 35 #[.int .i64 k, .int .i64 (-1000), .int .i64 1000] w fun e w' => e = .returned (.bool r) ∧ w' = w := by
  rcases Int.lt_or_le k (-1000) with h | h
  · have h2 : ¬ (-1000 : Int) ≤ k := by omega
    have hr2 : r = false := by rw [hr]; exact decide_eq_false (by omega)
    subst hr2
    clear hr
    go_enter Tryd.func35, Tryd.ntmps35
    go_wp2
    go_ret
    exact ⟨rfl, rfl⟩
  · rcases Int.lt_or_le 1000 k with h3 | h3
    · have h2 : ¬ k ≤ 1000 := by omega
      have hr2 : r = false := by rw [hr]; exact decide_eq_false (by omega)
      subst hr2
      clear hr
      go_enter Tryd.func35, Tryd.ntmps35
      go_wp2
      go_ret
      exact ⟨rfl, rfl⟩
    · have hr2 : r = true := by rw [hr]; exact decide_eq_true ⟨h, h3⟩
      subst hr2
      clear hr
      go_enter Tryd.func35, Tryd.ntmps35
      go_wp2
      go_ret
      exact ⟨rfl, rfl⟩

set_option maxHeartbeats 800000 in
theorem sNumPower_no (neg : Bool) (up dn : ByteArray) (k : Int) (w : World) (hu : up.size ≤ maxLen) (hd : dn.size ≤ maxLen) (H1 : Hid (okN neg up.data.toList dn.data.toList = false)) : Ans 17 #[.agg #[.bool neg, .string up, .string dn], .int .i64 k] w false ⟨#[]⟩ ⟨#[]⟩ 1 := by
  unfold Ans
  go_enter Tryd.func17, Tryd.ntmps17
  go_wp2_with fail
  obtain ⟨V, hV, hBV, x0, x1⟩ := boxes2 w #[Value.bool neg, Value.string up, Value.string dn] #[Value.bool false, Value.string ⟨#[]⟩, Value.string ⟨#[]⟩] 25 25
  rw [← hV]
  have HBV : Hid (Below w.heap.size w V) := hBV
  have Z0 : Hid (boxAt V _ _ _) := x0
  have Z1 : Hid (boxAt V _ _ _) := x1
  clear hV hBV x0 x1
  refine (specNumOk_c neg up dn _ _ hu hd H1.out).mono ?_
  rintro e w3 ⟨rfl, hb3⟩
  have HB3 : Hid (Below w.heap.size w w3) := HBV.out.trans (hb3.mono HBV.out.size)
  have U0 : Hid (boxAt w3 _ _ _) := Z0.out.on hb3
  have U2 : Hid (boxAt w3 _ _ _) := Z1.out.on hb3
  clear hb3 Z1 Z0 HBV
  have q0 := U2.out.cell 0 rfl
  have f0 := U2.out.frozen 0
  have q1 := U2.out.cell 1 rfl
  have f1 := U2.out.frozen 1
  have q2 := U2.out.cell 2 rfl
  have f2 := U2.out.frozen 2
  have hl0 := U2.out.lt
  go_wp2
  simp only [bodyPost]
  have e1 : w.heap.size ≤ w.heap.size + 1 := by omega
  refine ⟨trivial, _, ?_, rfl, ?_⟩
  · simp only [results, Tryd.results17]
    go_simp
  · with_reducible refine belS (belS (belS HB3.out ?_) ?_) ?_ <;> exact e1

set_option maxHeartbeats 800000 in
theorem sNumPower_out (neg : Bool) (up dn : ByteArray) (k : Int) (w : World) (hu : up.size ≤ maxLen) (hd : dn.size ≤ maxLen) (H1 : Hid (okN neg up.data.toList dn.data.toList = true)) (HK : Hid (false = decide (-1000 ≤ k ∧ k ≤ 1000))) : Ans 17 #[.agg #[.bool neg, .string up, .string dn], .int .i64 k] w false ⟨#[]⟩ ⟨#[]⟩ 1 := by
  unfold Ans
  go_enter Tryd.func17, Tryd.ntmps17
  go_wp2_with fail
  obtain ⟨V, hV, hBV, x0, x1⟩ := boxes2 w #[Value.bool neg, Value.string up, Value.string dn] #[Value.bool false, Value.string ⟨#[]⟩, Value.string ⟨#[]⟩] 25 25
  rw [← hV]
  have HBV : Hid (Below w.heap.size w V) := hBV
  have Z0 : Hid (boxAt V _ _ _) := x0
  have Z1 : Hid (boxAt V _ _ _) := x1
  clear hV hBV x0 x1
  refine (specNumOk_c neg up dn _ _ hu hd H1.out).mono ?_
  rintro e w3 ⟨rfl, hb3⟩
  have HB3 : Hid (Below w.heap.size w w3) := HBV.out.trans (hb3.mono HBV.out.size)
  have U0 : Hid (boxAt w3 _ _ _) := Z0.out.on hb3
  have U2 : Hid (boxAt w3 _ _ _) := Z1.out.on hb3
  clear hb3 Z1 Z0 HBV
  go_wp2_with fail
  refine (l1In_any k false _ HK.out).mono ?_
  rintro e w' ⟨rfl, rfl⟩
  have q0 := U2.out.cell 0 rfl
  have f0 := U2.out.frozen 0
  have q1 := U2.out.cell 1 rfl
  have f1 := U2.out.frozen 1
  have q2 := U2.out.cell 2 rfl
  have f2 := U2.out.frozen 2
  have hl0 := U2.out.lt
  go_wp2
  simp only [bodyPost]
  have e1 : w.heap.size ≤ w.heap.size + 1 := by omega
  refine ⟨trivial, _, ?_, rfl, ?_⟩
  · simp only [results, Tryd.results17]
    go_simp
  · with_reducible refine belS (belS (belS HB3.out ?_) ?_) ?_ <;> exact e1

set_option maxHeartbeats 800000 in
theorem sNumPower_nought (neg : Bool) (up dn : ByteArray) (k : Int) (w : World) (hu : up.size ≤ maxLen) (hd : dn.size ≤ maxLen) (H1 : Hid (okN neg up.data.toList dn.data.toList = true)) (HK : Hid (true = decide (-1000 ≤ k ∧ k ≤ 1000))) (hk : k < 0) (hz : (up.toList == [48]) = true) : Ans 17 #[.agg #[.bool neg, .string up, .string dn], .int .i64 k] w false ⟨#[]⟩ ⟨#[]⟩ 2 := by
  unfold Ans
  go_enter Tryd.func17, Tryd.ntmps17
  go_wp2_with fail
  obtain ⟨V, hV, hBV, x0, x1⟩ := boxes2 w #[Value.bool neg, Value.string up, Value.string dn] #[Value.bool false, Value.string ⟨#[]⟩, Value.string ⟨#[]⟩] 25 25
  rw [← hV]
  have HBV : Hid (Below w.heap.size w V) := hBV
  have Z0 : Hid (boxAt V _ _ _) := x0
  have Z1 : Hid (boxAt V _ _ _) := x1
  clear hV hBV x0 x1
  refine (specNumOk_c neg up dn _ _ hu hd H1.out).mono ?_
  rintro e w3 ⟨rfl, hb3⟩
  have HB3 : Hid (Below w.heap.size w w3) := HBV.out.trans (hb3.mono HBV.out.size)
  have U0 : Hid (boxAt w3 _ _ _) := Z0.out.on hb3
  have U2 : Hid (boxAt w3 _ _ _) := Z1.out.on hb3
  clear hb3 Z1 Z0 HBV
  go_wp2_with fail
  refine (l1In_any k true _ HK.out).mono ?_
  rintro e w' ⟨rfl, rfl⟩
  have k0 := U0.out.cell 0 rfl
  have k1 := U0.out.cell 1 rfl
  have k2 := U0.out.cell 2 rfl
  have hl1 := U0.out.lt
  have q0 := U2.out.cell 0 rfl
  have f0 := U2.out.frozen 0
  have q1 := U2.out.cell 1 rfl
  have f1 := U2.out.frozen 1
  have q2 := U2.out.cell 2 rfl
  have f2 := U2.out.frozen 2
  have hl0 := U2.out.lt
  go_wp2
  simp only [bodyPost]
  have e1 : w.heap.size ≤ w.heap.size + 1 := by omega
  refine ⟨trivial, _, ?_, rfl, ?_⟩
  · simp only [results, Tryd.results17]
    go_simp
  · with_reducible refine belA (belS (belS (belS HB3.out ?_) ?_) ?_) <;> exact e1

end Go.Proofs.YtaggfbffdbompaaDoor
