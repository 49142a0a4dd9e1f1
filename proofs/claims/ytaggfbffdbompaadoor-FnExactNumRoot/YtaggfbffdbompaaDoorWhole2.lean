/-
  The contract of reading two whole numbers, where they are ok.
-/
import Derived.Test.YtaggfbffdbompaaDoorWhole
namespace Go.Proofs.YtaggfbffdbompaaDoor
set_option maxRecDepth 100000
set_option linter.unusedVariables false
set_option linter.unusedSimpArgs false
open Go.RowKit
attribute [local go_sem ↓] Go.wp_at_zero Go.wp_at_succ

theorem bel_drew0 {w W : World} (h : Below w.heap.size w W) : Below w.heap.size w W.drew := h.drew

theorem keep_drew {W : World} {a : Addr} {x : Value} (h : W.cell? a = some x) : W.drew.cell? a = some x := h

set_option maxHeartbeats 1600000 in
theorem wholesOf_nw1 (neg : Bool) (up dn : ByteArray) (neg2 : Bool) (up2 dn2 : ByteArray) (u d u2 d2 : Nat) (HR : Hid (RaYes neg up dn neg2 up2 dn2 u d u2 d2)) (e1 : (dn.toList == [49]) = false) : WErr 32 neg up dn neg2 up2 dn2 4 := by
  intro w
  go_enter Tryd.func32, Tryd.ntmps32
  go_wp2_with fail
  obtain ⟨V, hV, hBV, x0, x1, x2, x3⟩ := boxes4 w #[Value.bool neg, Value.string up, Value.string dn] #[Value.bool neg2, Value.string up2, Value.string dn2] #[Value.bool false, Value.slice none 0 0] #[Value.bool false, Value.slice none 0 0] 25 25 44 44
  rw [← hV]
  have HBV : Hid (Below w.heap.size w V) := hBV
  have Z0 : Hid (boxAt V _ _ _) := x0
  have Z1 : Hid (boxAt V _ _ _) := x1
  have Z2 : Hid (boxAt V _ _ _) := x2
  have Z3 : Hid (boxAt V _ _ _) := x3
  clear hV hBV x0 x1 x2 x3
  refine (HR.out _).mono ?_
  rintro e w3 ⟨⟨a1, l1, c1, a2, l2, c2, a3, l3, c3, a4, l4, c4, rfl, n1, n2, n3, n4⟩, hb3⟩
  have HB3 : Hid (Below w.heap.size w w3) := HBV.out.trans (hb3.mono HBV.out.size)
  have Y0 : Hid (boxAt w3 _ _ _) := Z0.out.on hb3
  have Y1 : Hid (boxAt w3 _ _ _) := Z1.out.on hb3
  have Y2 : Hid (boxAt w3 _ _ _) := Z2.out.on hb3
  have Y3 : Hid (boxAt w3 _ _ _) := Z3.out.on hb3
  clear hb3 Z0 Z1 Z2 Z3 HBV HR
  have k00 := Y0.out.cell 0 rfl
  have k01 := Y0.out.cell 1 rfl
  have k02 := Y0.out.cell 2 rfl
  have hlt0 := Y0.out.lt
  have hlt3' := Y3.out.lt
  have hsz := HB3.out.size
  go_wp2_with fail
  obtain ⟨W, hW, hBW, x0, x1⟩ := boxes2 w3 #[Value.bool neg, Value.slice a1 l1 c1, Value.bool false, Value.slice a2 l2 c2] #[Value.bool neg2, Value.slice a3 l3 c3, Value.bool false, Value.slice a4 l4 c4] 60 60
  rw [← hW]
  have HB4 : Hid (Below w.heap.size w W) := HB3.out.trans (hBW.mono HB3.out.size)
  have V1 : Hid (boxAt W _ _ _) := Y1.out.on hBW
  have V2 : Hid (boxAt W _ _ _) := Y2.out.on hBW
  have V3 : Hid (boxAt W _ _ _) := Y3.out.on hBW
  have V4 : Hid (boxAt W _ _ _) := x0
  have V5 : Hid (boxAt W _ _ _) := x1
  have N1 : Hid (isN W (.slice a1 l1 c1) _) := isN_below n1.out hBW
  have N3 : Hid (isN W (.slice a3 l3 c3) _) := isN_below n3.out hBW
  clear hW hBW x0 x1 n1 n2 n3 n4 Y0 Y1 Y2 Y3 k00 k01 k02 HB3
  refine (isWhole_any neg up dn _ _ e1).mono ?_
  rintro e w6 ⟨rfl, hb6⟩
  have HB9 : Hid (Below w.heap.size w w6) := HB4.out.trans (hb6.mono HB4.out.size)
  have U1 : Hid (boxAt w6 _ _ _) := V1.out.on hb6
  have U2 : Hid (boxAt w6 _ _ _) := V2.out.on hb6
  have U3 : Hid (boxAt w6 _ _ _) := V3.out.on hb6
  have U4 : Hid (boxAt w6 _ _ _) := V4.out.on hb6
  have U5 : Hid (boxAt w6 _ _ _) := V5.out.on hb6
  have M1 : Hid (isN w6 (.slice a1 l1 c1) _) := isN_below N1.out hb6
  have M3 : Hid (isN w6 (.slice a3 l3 c3) _) := isN_below N3.out hb6
  clear hb6 V1 V2 V3 V4 V5 N1 N3 HB4
  have q0 := U2.out.cell 0 rfl
  have f0 := U2.out.frozen 0
  have q1 := U2.out.cell 1 rfl
  have f1 := U2.out.frozen 1
  have q2 := U3.out.cell 0 rfl
  have f2 := U3.out.frozen 0
  have q3 := U3.out.cell 1 rfl
  have f3 := U3.out.frozen 1
  have hlt2 := U2.out.lt
  have hlt3 := U3.out.lt
  go_wp2
  simp only [bodyPost]
  refine ⟨trivial, _, ?_, rfl, ?_⟩
  · simp only [results, Tryd.results32]
    go_simp
  · (repeat' first | exact HB9.out | refine bel_alloc0 ?_ | refine bel_set0 ?_ ?_ | (dsimp only; omega))

set_option maxHeartbeats 1600000 in
theorem wholesOf_nw2 (neg : Bool) (up dn : ByteArray) (neg2 : Bool) (up2 dn2 : ByteArray) (u d u2 d2 : Nat) (HR : Hid (RaYes neg up dn neg2 up2 dn2 u d u2 d2)) (e1 : (dn.toList == [49]) = true) (e2 : (dn2.toList == [49]) = false) : WErr 32 neg up dn neg2 up2 dn2 4 := by
  intro w
  go_enter Tryd.func32, Tryd.ntmps32
  go_wp2_with fail
  obtain ⟨V, hV, hBV, x0, x1, x2, x3⟩ := boxes4 w #[Value.bool neg, Value.string up, Value.string dn] #[Value.bool neg2, Value.string up2, Value.string dn2] #[Value.bool false, Value.slice none 0 0] #[Value.bool false, Value.slice none 0 0] 25 25 44 44
  rw [← hV]
  have HBV : Hid (Below w.heap.size w V) := hBV
  have Z0 : Hid (boxAt V _ _ _) := x0
  have Z1 : Hid (boxAt V _ _ _) := x1
  have Z2 : Hid (boxAt V _ _ _) := x2
  have Z3 : Hid (boxAt V _ _ _) := x3
  clear hV hBV x0 x1 x2 x3
  refine (HR.out _).mono ?_
  rintro e w3 ⟨⟨a1, l1, c1, a2, l2, c2, a3, l3, c3, a4, l4, c4, rfl, n1, n2, n3, n4⟩, hb3⟩
  have HB3 : Hid (Below w.heap.size w w3) := HBV.out.trans (hb3.mono HBV.out.size)
  have Y0 : Hid (boxAt w3 _ _ _) := Z0.out.on hb3
  have Y1 : Hid (boxAt w3 _ _ _) := Z1.out.on hb3
  have Y2 : Hid (boxAt w3 _ _ _) := Z2.out.on hb3
  have Y3 : Hid (boxAt w3 _ _ _) := Z3.out.on hb3
  clear hb3 Z0 Z1 Z2 Z3 HBV HR
  have k00 := Y0.out.cell 0 rfl
  have k01 := Y0.out.cell 1 rfl
  have k02 := Y0.out.cell 2 rfl
  have hlt0 := Y0.out.lt
  have hlt3' := Y3.out.lt
  have hsz := HB3.out.size
  go_wp2_with fail
  obtain ⟨W, hW, hBW, x0, x1⟩ := boxes2 w3 #[Value.bool neg, Value.slice a1 l1 c1, Value.bool false, Value.slice a2 l2 c2] #[Value.bool neg2, Value.slice a3 l3 c3, Value.bool false, Value.slice a4 l4 c4] 60 60
  rw [← hW]
  have HB4 : Hid (Below w.heap.size w W) := HB3.out.trans (hBW.mono HB3.out.size)
  have V1 : Hid (boxAt W _ _ _) := Y1.out.on hBW
  have V2 : Hid (boxAt W _ _ _) := Y2.out.on hBW
  have V3 : Hid (boxAt W _ _ _) := Y3.out.on hBW
  have V4 : Hid (boxAt W _ _ _) := x0
  have V5 : Hid (boxAt W _ _ _) := x1
  have N1 : Hid (isN W (.slice a1 l1 c1) _) := isN_below n1.out hBW
  have N3 : Hid (isN W (.slice a3 l3 c3) _) := isN_below n3.out hBW
  clear hW hBW x0 x1 n1 n2 n3 n4 Y0 Y1 Y2 Y3 k00 k01 k02 HB3
  refine (isWhole_any neg up dn _ _ e1).mono ?_
  rintro e w6 ⟨rfl, hb6⟩
  have HB9 : Hid (Below w.heap.size w w6) := HB4.out.trans (hb6.mono HB4.out.size)
  have U1 : Hid (boxAt w6 _ _ _) := V1.out.on hb6
  have U2 : Hid (boxAt w6 _ _ _) := V2.out.on hb6
  have U3 : Hid (boxAt w6 _ _ _) := V3.out.on hb6
  have U4 : Hid (boxAt w6 _ _ _) := V4.out.on hb6
  have U5 : Hid (boxAt w6 _ _ _) := V5.out.on hb6
  have M1 : Hid (isN w6 (.slice a1 l1 c1) _) := isN_below N1.out hb6
  have M3 : Hid (isN w6 (.slice a3 l3 c3) _) := isN_below N3.out hb6
  clear hb6 V1 V2 V3 V4 V5 N1 N3 HB4
  have k10 := U1.out.cell 0 rfl
  have k11 := U1.out.cell 1 rfl
  have k12 := U1.out.cell 2 rfl
  go_wp2_with fail
  refine (isWhole_any neg2 up2 dn2 _ _ e2).mono ?_
  rintro e w7 ⟨rfl, hb7⟩
  have HB7 : Hid (Below w.heap.size w w7) := HB9.out.trans (hb7.mono HB9.out.size)
  have T2 : Hid (boxAt w7 _ _ _) := U2.out.on hb7
  have T3 : Hid (boxAt w7 _ _ _) := U3.out.on hb7
  have T4 : Hid (boxAt w7 _ _ _) := U4.out.on hb7
  have T5 : Hid (boxAt w7 _ _ _) := U5.out.on hb7
  have P1 : Hid (isN w7 (.slice a1 l1 c1) _) := isN_below M1.out hb7
  have P3 : Hid (isN w7 (.slice a3 l3 c3) _) := isN_below M3.out hb7
  clear hb7 U1 U2 U3 U4 U5 M1 M3 HB9 k10 k11 k12
  have HB9 := HB7
  have U2 := T2
  have U3 := T3
  have U4 := T4
  have U5 := T5
  have M1 := P1
  have M3 := P3
  have q0 := U2.out.cell 0 rfl
  have f0 := U2.out.frozen 0
  have q1 := U2.out.cell 1 rfl
  have f1 := U2.out.frozen 1
  have q2 := U3.out.cell 0 rfl
  have f2 := U3.out.frozen 0
  have q3 := U3.out.cell 1 rfl
  have f3 := U3.out.frozen 1
  have hlt2 := U2.out.lt
  have hlt3 := U3.out.lt
  go_wp2
  simp only [bodyPost]
  refine ⟨trivial, _, ?_, rfl, ?_⟩
  · simp only [results, Tryd.results32]
    go_simp
  · (repeat' first | exact HB9.out | refine bel_alloc0 ?_ | refine bel_set0 ?_ ?_ | (dsimp only; omega))

set_option maxHeartbeats 1600000 in
theorem wholesOf_yes (neg : Bool) (up dn : ByteArray) (neg2 : Bool) (up2 dn2 : ByteArray) (u d u2 d2 : Nat) (HR : Hid (RaYes neg up dn neg2 up2 dn2 u d u2 d2)) (e1 : (dn.toList == [49]) = true) (e2 : (dn2.toList == [49]) = true) : WYes 32 neg up dn neg2 up2 dn2 u u2 := by
  intro w
  go_enter Tryd.func32, Tryd.ntmps32
  go_wp2_with fail
  obtain ⟨V, hV, hBV, x0, x1, x2, x3⟩ := boxes4 w #[Value.bool neg, Value.string up, Value.string dn] #[Value.bool neg2, Value.string up2, Value.string dn2] #[Value.bool false, Value.slice none 0 0] #[Value.bool false, Value.slice none 0 0] 25 25 44 44
  rw [← hV]
  have HBV : Hid (Below w.heap.size w V) := hBV
  have Z0 : Hid (boxAt V _ _ _) := x0
  have Z1 : Hid (boxAt V _ _ _) := x1
  have Z2 : Hid (boxAt V _ _ _) := x2
  have Z3 : Hid (boxAt V _ _ _) := x3
  clear hV hBV x0 x1 x2 x3
  refine (HR.out _).mono ?_
  rintro e w3 ⟨⟨a1, l1, c1, a2, l2, c2, a3, l3, c3, a4, l4, c4, rfl, n1, n2, n3, n4⟩, hb3⟩
  have HB3 : Hid (Below w.heap.size w w3) := HBV.out.trans (hb3.mono HBV.out.size)
  have Y0 : Hid (boxAt w3 _ _ _) := Z0.out.on hb3
  have Y1 : Hid (boxAt w3 _ _ _) := Z1.out.on hb3
  have Y2 : Hid (boxAt w3 _ _ _) := Z2.out.on hb3
  have Y3 : Hid (boxAt w3 _ _ _) := Z3.out.on hb3
  clear hb3 Z0 Z1 Z2 Z3 HBV HR
  have k00 := Y0.out.cell 0 rfl
  have k01 := Y0.out.cell 1 rfl
  have k02 := Y0.out.cell 2 rfl
  have hlt0 := Y0.out.lt
  have hlt3' := Y3.out.lt
  have hsz := HB3.out.size
  go_wp2_with fail
  obtain ⟨W, hW, hBW, x0, x1⟩ := boxes2 w3 #[Value.bool neg, Value.slice a1 l1 c1, Value.bool false, Value.slice a2 l2 c2] #[Value.bool neg2, Value.slice a3 l3 c3, Value.bool false, Value.slice a4 l4 c4] 60 60
  rw [← hW]
  have HB4 : Hid (Below w.heap.size w W) := HB3.out.trans (hBW.mono HB3.out.size)
  have V1 : Hid (boxAt W _ _ _) := Y1.out.on hBW
  have V2 : Hid (boxAt W _ _ _) := Y2.out.on hBW
  have V3 : Hid (boxAt W _ _ _) := Y3.out.on hBW
  have V4 : Hid (boxAt W _ _ _) := x0
  have V5 : Hid (boxAt W _ _ _) := x1
  have N1 : Hid (isN W (.slice a1 l1 c1) _) := isN_below n1.out hBW
  have N3 : Hid (isN W (.slice a3 l3 c3) _) := isN_below n3.out hBW
  clear hW hBW x0 x1 n1 n2 n3 n4 Y0 Y1 Y2 Y3 k00 k01 k02 HB3
  refine (isWhole_any neg up dn _ _ e1).mono ?_
  rintro e w6 ⟨rfl, hb6⟩
  have HB9 : Hid (Below w.heap.size w w6) := HB4.out.trans (hb6.mono HB4.out.size)
  have U1 : Hid (boxAt w6 _ _ _) := V1.out.on hb6
  have U2 : Hid (boxAt w6 _ _ _) := V2.out.on hb6
  have U3 : Hid (boxAt w6 _ _ _) := V3.out.on hb6
  have U4 : Hid (boxAt w6 _ _ _) := V4.out.on hb6
  have U5 : Hid (boxAt w6 _ _ _) := V5.out.on hb6
  have M1 : Hid (isN w6 (.slice a1 l1 c1) _) := isN_below N1.out hb6
  have M3 : Hid (isN w6 (.slice a3 l3 c3) _) := isN_below N3.out hb6
  clear hb6 V1 V2 V3 V4 V5 N1 N3 HB4
  have k10 := U1.out.cell 0 rfl
  have k11 := U1.out.cell 1 rfl
  have k12 := U1.out.cell 2 rfl
  go_wp2_with fail
  refine (isWhole_any neg2 up2 dn2 _ _ e2).mono ?_
  rintro e w7 ⟨rfl, hb7⟩
  have HB7 : Hid (Below w.heap.size w w7) := HB9.out.trans (hb7.mono HB9.out.size)
  have T2 : Hid (boxAt w7 _ _ _) := U2.out.on hb7
  have T3 : Hid (boxAt w7 _ _ _) := U3.out.on hb7
  have T4 : Hid (boxAt w7 _ _ _) := U4.out.on hb7
  have T5 : Hid (boxAt w7 _ _ _) := U5.out.on hb7
  have P1 : Hid (isN w7 (.slice a1 l1 c1) _) := isN_below M1.out hb7
  have P3 : Hid (isN w7 (.slice a3 l3 c3) _) := isN_below M3.out hb7
  clear hb7 U1 U2 U3 U4 U5 M1 M3 HB9 k10 k11 k12
  have HB9 := HB7
  have U2 := T2
  have U3 := T3
  have U4 := T4
  have U5 := T5
  have M1 := P1
  have M3 := P3
  have q0 := U2.out.cell 0 rfl
  have f0 := U2.out.frozen 0
  have q1 := U2.out.cell 1 rfl
  have f1 := U2.out.frozen 1
  have q2 := U3.out.cell 0 rfl
  have f2 := U3.out.frozen 0
  have q3 := U3.out.cell 1 rfl
  have f3 := U3.out.frozen 1
  have hlt2 := U2.out.lt
  have hlt3 := U3.out.lt
  have p0 := U4.out.cell 0 rfl
  have p1 := U4.out.cell 1 rfl
  have p2 := U5.out.cell 0 rfl
  have p3 := U5.out.cell 1 rfl
  have hlt4 := U4.out.lt
  have hlt5 := U5.out.lt
  have hltA : w.heap.size + 1 + 1 + 1 < w3.heap.size := by have h := hlt3'; omega
  clear hlt3'
  go_wp2_with fail
  refine Go.wp_mono (Q := fun e a' w' => match e with | .normal => (∃ us : Array Value, a' = { tmps := us, defers := [] } ∧ us[4]? = some (.pointer (some ⟨w.heap.size + 1 + 1, 0, none⟩)) ∧ us[5]? = some (.pointer (some ⟨w.heap.size + 1 + 1 + 1, 0, none⟩)) ∧ us[6]? = some .nilIface) ∧ ((w'.cell? ⟨w.heap.size + 1 + 1, 0, none⟩ = some (.bool neg) ∧ w'.cell? ⟨w.heap.size + 1 + 1, 1, none⟩ = some (.slice a1 l1 c1)) ∧ (w'.cell? ⟨w.heap.size + 1 + 1 + 1, 0, none⟩ = some (.bool neg2) ∧ w'.cell? ⟨w.heap.size + 1 + 1 + 1, 1, none⟩ = some (.slice a3 l3 c3))) ∧ (Hid (isN w' (.slice a1 l1 c1) u) ∧ Hid (isN w' (.slice a3 l3 c3) u2)) ∧ Below w.heap.size w w' | _ => False) ?_ ?_
  · go_region_held3 (fun w' => (w'.cell? ⟨w3.heap.size, 0, none⟩ = some (.bool neg) ∧ w'.cell? ⟨w3.heap.size, 1, none⟩ = some (.slice a1 l1 c1)) ∧ (w'.cell? ⟨w3.heap.size + 1, 0, none⟩ = some (.bool neg2) ∧ w'.cell? ⟨w3.heap.size + 1, 1, none⟩ = some (.slice a3 l3 c3)))
      ((repeat' apply And.intro) <;> first | (with_reducible assumption) | ((with_reducible refine keep_drew (keep_set (keep_set ?_ ?_) ?_)) <;> first | omega | assumption) | ((with_reducible refine keep_drew (keep_set (keep_set (keep_set (keep_set ?_ ?_) ?_) ?_) ?_)) <;> first | omega | assumption) | (go_keep; done))
      (fail)
    all_goals
      have ha1 := isN_apart M1.out U2.out (by decide)
      have ha2 := isN_apart M1.out U3.out (by decide)
      have ha3 := isN_apart M3.out U2.out (by decide)
      have ha4 := isN_apart M3.out U3.out (by decide)
      refine ⟨⟨_, rfl, rfl, rfl, rfl⟩, ⟨⟨?_, ?_⟩, ?_, ?_⟩, ⟨isN_set (isN_set (isN_set (isN_set M1.out ha1) ha1) ha2) ha2, isN_set (isN_set (isN_set (isN_set M3.out ha3) ha3) ha4) ha4⟩, ?_⟩
      · go_simp
      · go_simp
      · go_simp
      · go_simp
      · (repeat' first | exact HB9.out | refine bel_set0 ?_ ?_ | refine bel_drew0 ?_ | (dsimp only; omega))
  · intro e a' w' hq
    cases e
    case normal =>
      obtain ⟨⟨us, rfl, hus4, hus5, hus6⟩, ⟨⟨hv0, hv1⟩, hv2, hv3⟩, ⟨hm1, hm3⟩, hb⟩ := hq
      go_wp2
      simp only [bodyPost]
      refine ⟨trivial, _, ?_, ⟨a1, l1, c1, a3, l3, c3, rfl, hm1, hm3⟩, hb⟩
      simp only [results, Tryd.results32]
      go_simp
    all_goals exact hq.elim

end Go.Proofs.YtaggfbffdbompaaDoor
