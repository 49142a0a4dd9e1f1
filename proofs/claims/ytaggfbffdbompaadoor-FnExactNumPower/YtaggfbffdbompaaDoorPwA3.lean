/-
  Contracts for powers: nothing is to be turned over.
-/
import Derived.Test.YtaggfbffdbompaaDoorPwA2
namespace Go.Proofs.YtaggfbffdbompaaDoor
set_option maxRecDepth 100000
set_option linter.unusedVariables false
set_option linter.unusedSimpArgs false
open Go.RowKit
attribute [local go_sem ↓] Go.wp_at_zero Go.wp_at_succ

set_option maxHeartbeats 800000 in
theorem factorOf_nought (neg : Bool) (up dn : ByteArray) (k : Int) (hk4 : k < 0) (hk5 : -1000 ≤ k) (d : Nat) (z1 : up.size ≤ 60) (z2 : dn.size ≤ 60) (D1 : Hid (Dm.isDec up.data.toList 0)) (D2 : Hid (Dm.isDec dn.data.toList d)) (hu : up.size ≤ maxLen) (hd : dn.size ≤ maxLen) (H1 : Hid (okN neg up.data.toList dn.data.toList = true)) : FaErr neg up dn k 2 := by
  intro w
  have hk2 : ¬ k < -1000 := by omega
  have hk3 : ¬ 1000 < k := by omega
  have hw : IntKind.u64.wrap (-k) = -k := by rw [IntKind.wrap_u64]; omega
  have hw2 : IntKind.i64.wrap (-k) = -k := by rw [IntKind.wrap_i64]; omega
  have hk6 : ¬ 0 ≤ k := by omega
  go_enter Tryd.func37, Tryd.ntmps37
  go_wp2_with fail
  obtain ⟨V, hV, hBV, x0, x1⟩ := boxes2 w #[Value.bool neg, Value.string up, Value.string dn] #[Value.bool false, Value.slice none 0 0, Value.bool false, Value.slice none 0 0] 25 60
  rw [← hV]
  have HBV : Hid (Below w.heap.size w V) := hBV
  have Z0 : Hid (boxAt V _ _ _) := x0
  have Z1 : Hid (boxAt V _ _ _) := x1
  clear hV hBV x0 x1
  refine (implNumOk_b neg up dn _ _ hu hd H1.out).mono ?_
  rintro e w3 ⟨rfl, hb3⟩
  have HB3 : Hid (Below w.heap.size w w3) := HBV.out.trans (hb3.mono HBV.out.size)
  have Y0 : Hid (boxAt w3 _ _ _) := Z0.out.on hb3
  have Y1 : Hid (boxAt w3 _ _ _) := Z1.out.on hb3
  clear hb3 Z0 Z1 HBV
  have k0 := Y0.out.cell 0 rfl
  have k1 := Y0.out.cell 1 rfl
  have k2 := Y0.out.cell 2 rfl
  go_wp2_with fail
  refine (ratioOf_any neg up dn _ (by omega) (by omega) (fun c hc => D1.out.2.1 c hc) (fun c hc => D2.out.2.1 c hc)).mono ?_
  rintro e w4 ⟨⟨ao, len, cap, ao2, len2, cap2, rfl, hn, hm⟩, hb4⟩
  have e1 : Dm.val up.data.toList = 0 := D1.out.2.2.1
  have e2 : Dm.val dn.data.toList = d := D2.out.2.2.1
  rw [e1] at hn
  rw [e2] at hm
  have HB4 : Hid (Below w.heap.size w w4) := HB3.out.trans (hb4.mono HB3.out.size)
  have X1 : Hid (boxAt w4 _ _ _) := Y1.out.on hb4
  have HN : Hid (isN w4 (.slice ao len cap) 0) := hn
  have HM : Hid (isN w4 (.slice ao2 len2 cap2) d) := hm
  clear hn hm hb4 e1 e2 k0 k1 k2 Y0 Y1 HB3
  go_wp2_with fail
  have hs0 : (signI neg 0 == 0) = true := by rw [signI, if_pos rfl]; rfl
  refine (sign_any neg ao len cap 0 _ (pwN HN.out)).mono ?_
  rintro e w5 ⟨rfl, hb5⟩
  have hA : Below w4.heap.size w4 (w4.alloc (Obj.cells #[Value.bool neg, Value.slice ao len cap, Value.bool false, Value.slice ao2 len2 cap2] 60)) := (Below.refl _ _).alloc (Nat.le_refl _) _
  have hA5 := hA.trans (hb5.mono hA.size)
  have Z1 : Hid (boxAt w5 _ _ _) := X1.out.on hA5
  have HB6 : Hid (Below w.heap.size w w5) := HB4.out.trans (hA5.mono HB4.out.size)
  clear hA hA5 hb5 X1 HB4 HN HM
  have k0 := Z1.out.cell 0 rfl
  have k1 := Z1.out.cell 1 rfl
  have k2 := Z1.out.cell 2 rfl
  have k3 := Z1.out.cell 3 rfl
  have g0 := Z1.out.frozen 0
  have g1 := Z1.out.frozen 1
  have g2 := Z1.out.frozen 2
  have g3 := Z1.out.frozen 3
  go_wp2
  simp only [bodyPost]
  have e1 : w.heap.size ≤ w.heap.size + 1 := by omega
  refine ⟨trivial, _, ?_, rfl, ?_⟩
  · simp only [results, Tryd.results37]
    go_simp
  · with_reducible refine pwS (pwS (pwS (pwS HB6.out ?_) ?_) ?_) ?_ <;> exact e1

end Go.Proofs.YtaggfbffdbompaaDoor
