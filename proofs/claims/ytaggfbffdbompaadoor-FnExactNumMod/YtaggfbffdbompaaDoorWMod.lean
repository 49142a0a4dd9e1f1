/-
  Contracts of the program's NumMod.
-/
import Derived.Test.YtaggfbffdbompaaDoorWhole4
import Derived.Test.YtaggfbffdbompaaDoorSpec6
namespace Go.Proofs.YtaggfbffdbompaaDoor
set_option maxRecDepth 100000
set_option linter.unusedVariables false
set_option linter.unusedSimpArgs false
open Go.RowKit
attribute [local go_sem ↓] Go.wp_at_zero Go.wp_at_succ

set_option maxHeartbeats 1600000 in
theorem iNumMod_err (neg : Bool) (up dn : ByteArray) (neg2 : Bool) (up2 dn2 : ByteArray) (c : Int) (w : World) (HR : Hid (WErr 24 neg up dn neg2 up2 dn2 c)) (hg : EB w) :
    Calls Tryd.prog 14 #[.agg #[.bool neg, .string up, .string dn], .agg #[.bool neg2, .string up2, .string dn2]] w fun e w' => e = .returned (.tuple #[.agg #[.bool false, .string ⟨#[]⟩, .string ⟨#[]⟩], .int .i64 c]) ∧ Below w.heap.size w w' := by
  have HG : Hid (EB w) := hg
  clear hg
  go_enter Tryd.func14, Tryd.ntmps14
  go_wp2_with fail
  obtain ⟨V, hV, hBV, x0, x1, x2⟩ := boxes3 w #[Value.bool neg, Value.string up, Value.string dn] #[Value.bool neg2, Value.string up2, Value.string dn2] #[Value.bool false, Value.string ⟨#[]⟩, Value.string ⟨#[]⟩] 25 25 25
  rw [← hV]
  have HBV : Hid (Below w.heap.size w V) := hBV
  have Z2 : Hid (boxAt V _ _ _) := x2
  clear hV hBV x0 x1 x2
  refine (HR.out _).mono ?_
  rintro e w3 ⟨rfl, hb3⟩
  have HB3 : Hid (Below w.heap.size w w3) := HBV.out.trans (hb3.mono HBV.out.size)
  have Y2 : Hid (boxAt w3 _ _ _) := Z2.out.on hb3
  have hlt3 := Y2.out.lt
  clear hb3 Z2 HBV HR
  go_wp2_with fail
  obtain ⟨W, hW, hBW, x0, x1⟩ := boxes2 w3 #[Value.bool false, Value.slice none 0 0] #[Value.bool false, Value.slice none 0 0] 44 44
  rw [← hW]
  have HB4 : Hid (Below w.heap.size w W) := HB3.out.trans (hBW.mono HB3.out.size)
  have V2 : Hid (boxAt W _ _ _) := Y2.out.on hBW
  clear hW hBW x0 x1 Y2 HB3
  refine (codeOf_reason c _ (HG.out.on HB4.out)).mono ?_
  rintro e w6 ⟨rfl, hb6⟩
  have HB9 : Hid (Below w.heap.size w w6) := HB4.out.trans (hb6.mono HB4.out.size)
  have U2 : Hid (boxAt w6 _ _ _) := V2.out.on hb6
  clear hb6 V2 HB4
  have q0 := U2.out.cell 0 rfl
  have f0 := U2.out.frozen 0
  have q1 := U2.out.cell 1 rfl
  have f1 := U2.out.frozen 1
  have q2 := U2.out.cell 2 rfl
  have f2 := U2.out.frozen 2
  have hlt := U2.out.lt
  go_wp2
  simp only [bodyPost]
  refine ⟨trivial, _, ?_, rfl, ?_⟩
  · simp only [results, Tryd.results14]
    go_simp
  · (repeat' first | exact HB9.out | refine bel_alloc0 ?_ | refine bel_set0 ?_ ?_ | (dsimp only; omega))

set_option maxHeartbeats 1600000 in
theorem iNumMod_less (neg : Bool) (up dn : ByteArray) (neg2 : Bool) (up2 dn2 : ByteArray) (u u2 : Nat) (w : World) (h2 : 0 < u2) (HR : Hid (WYes 24 neg up dn neg2 up2 dn2 u u2)) (e1 : fits u 7) (e3 : fits u2 7) (s3 : up2.size ≤ 60) (htab : TB w) (hs : u % u2 = 0 ∨ neg = neg2) :
    Calls Tryd.prog 14 #[.agg #[.bool neg, .string up, .string dn], .agg #[.bool neg2, .string up2, .string dn2]] w fun e w' => e = .returned (.tuple #[.agg #[.bool (neg && decide (u % u2 ≠ 0)), .string (decS (u % u2)), .string ⟨#[49]⟩], .int .i64 0]) ∧ Below w.heap.size w w' := by
  have HT : Hid (TB w) := htab
  have f1 : fits u 8000 := e1.mono (Nat.le_refl _) (by omega)
  have f3 : fits u2 8000 := e3.mono (Nat.le_refl _) (by omega)
  have hr : u % u2 < u2 := Nat.mod_lt _ h2
  obtain ⟨r, hrr⟩ : ∃ r, r = u % u2 := ⟨_, rfl⟩
  rw [← hrr] at hr hs ⊢
  have HRR : Hid (r = u % u2) := hrr
  have fr : fits r 8000 := f3.mono (Nat.le_of_lt hr) (Nat.le_refl _)
  clear hrr
  obtain ⟨z1, hz1⟩ : ∃ z, z = signI neg r := ⟨_, rfl⟩
  obtain ⟨z2, hz2⟩ : ∃ z, z = signI neg2 u2 := ⟨_, rfl⟩
  have HZ1 : Hid (signI neg r = z1) := hz1.symm
  have HZ2 : Hid (signI neg2 u2 = z2) := hz2.symm
  have hzw : IntKind.i64.wrap (z1 * z2) = z1 * z2 := by
    rw [hz1, hz2]; unfold signI; (repeat' split) <;> rfl
  have hzz : decide (z1 * z2 < 0) = false := by
    rw [hz1, hz2]; unfold signI
    rcases hs with h | h
    · simp [h]
    · subst h; (repeat' split) <;> simp
  have hzn : ¬ (z1 * z2 < 0) := of_decide_eq_false hzz
  clear htab hz1 hz2 hs
  go_enter Tryd.func14, Tryd.ntmps14
  go_wp2_with fail
  obtain ⟨V, hV, hBV, x0, x1, x2⟩ := boxes3 w #[Value.bool neg, Value.string up, Value.string dn] #[Value.bool neg2, Value.string up2, Value.string dn2] #[Value.bool false, Value.string ⟨#[]⟩, Value.string ⟨#[]⟩] 25 25 25
  rw [← hV]
  have HBV : Hid (Below w.heap.size w V) := hBV
  have Z1 : Hid (boxAt V _ _ _) := x1
  have Z2 : Hid (boxAt V _ _ _) := x2
  clear hV hBV x0 x1 x2
  refine (HR.out _).mono ?_
  rintro e w3 ⟨⟨a1, l1, c1, a3, l3, c3, rfl, n1, n3⟩, hb3⟩
  have HB3 : Hid (Below w.heap.size w w3) := HBV.out.trans (hb3.mono HBV.out.size)
  have Y1 : Hid (boxAt w3 _ _ _) := Z1.out.on hb3
  have Y2 : Hid (boxAt w3 _ _ _) := Z2.out.on hb3
  have hlt3 := Y2.out.lt
  clear hb3 Z1 Z2 HBV HR
  go_wp2_with fail
  obtain ⟨W, hW, hBW, x0, x1⟩ := boxes2 w3 #[Value.bool neg, Value.slice a1 l1 c1] #[Value.bool neg2, Value.slice a3 l3 c3] 44 44
  rw [← hW]
  have HB4 : Hid (Below w.heap.size w W) := HB3.out.trans (hBW.mono HB3.out.size)
  have V1 : Hid (boxAt W _ _ _) := Y1.out.on hBW
  have V2 : Hid (boxAt W _ _ _) := Y2.out.on hBW
  have V3 : Hid (boxAt W _ _ _) := x1
  have N1 : Hid (isN W (.slice a1 l1 c1) _) := isN_below n1.out hBW
  have N3 : Hid (isN W (.slice a3 l3 c3) _) := isN_below n3.out hBW
  clear hW hBW x0 x1 n1 n3 Y1 Y2 HB3
  refine (sdivide_any neg a1 l1 c1 neg2 a3 l3 c3 u u2 _ N1.out N3.out h2 f1 f3).mono ?_
  rintro e w6 ⟨⟨a6, l6, c6, a7, l7, c7, rfl, h6, h7⟩, hb6⟩
  rw [← HRR.out] at h7
  have HB6 : Hid (Below w.heap.size w w6) := HB4.out.trans (hb6.mono HB4.out.size)
  have U1 : Hid (boxAt w6 _ _ _) := V1.out.on hb6
  have U2 : Hid (boxAt w6 _ _ _) := V2.out.on hb6
  have U3 : Hid (boxAt w6 _ _ _) := V3.out.on hb6
  have M3 : Hid (isN w6 (.slice a3 l3 c3) _) := isN_below N3.out hb6
  have hltU := U3.out.lt
  clear hb6 V1 V2 V3 HB4 N1 N3 h6
  go_wp2_with fail
  obtain ⟨X, hX, hBX, x0, x1⟩ := boxes2 w6 #[Value.bool (neg != neg2), Value.slice a6 l6 c6] #[Value.bool neg, Value.slice a7 l7 c7] 44 44
  rw [← hX]
  have HB7 : Hid (Below w.heap.size w X) := HB6.out.trans (hBX.mono HB6.out.size)
  have T1 : Hid (boxAt X _ _ _) := U1.out.on hBX
  have T2 : Hid (boxAt X _ _ _) := U2.out.on hBX
  have T3 : Hid (boxAt X _ _ _) := U3.out.on hBX
  have T4 : Hid (boxAt X _ _ _) := x1
  have P3 : Hid (isN X (.slice a3 l3 c3) _) := isN_below M3.out hBX
  have P7 : Hid (isN X (.slice a7 l7 c7) r) := isN_below h7.out hBX
  clear hX hBX x0 x1 U1 U2 U3 HB6 M3 h7
  have k10 := T3.out.cell 0 rfl
  have k11 := T3.out.cell 1 rfl
  have k20 := T4.out.cell 0 rfl
  have k21 := T4.out.cell 1 rfl
  go_wp2_with fail
  refine Go.wp_mono (Q := fun e a' w' => match e with | .normal => a' = { tmps := #[Value.agg #[Value.bool neg, Value.string up, Value.string dn], Value.agg #[Value.bool neg2, Value.string up2, Value.string dn2], Value.pointer (some ⟨w.heap.size, 0, none⟩), Value.pointer (some ⟨w.heap.size + 1, 0, none⟩), Value.pointer (some ⟨w.heap.size + 1 + 1, 0, none⟩), Value.int IntKind.i64 0, Value.pointer (some ⟨w3.heap.size, 0, none⟩), Value.pointer (some ⟨w3.heap.size + 1, 0, none⟩), Value.nilIface, Value.pointer (some ⟨w6.heap.size, 0, none⟩), Value.pointer (some ⟨w6.heap.size + 1, 0, none⟩), Value.tuple #[Value.agg #[Value.bool neg, Value.slice a1 l1 c1], Value.agg #[Value.bool neg2, Value.slice a3 l3 c3], Value.nilIface], Value.agg #[Value.bool neg, Value.string up, Value.string dn], Value.agg #[Value.bool neg2, Value.string up2, Value.string dn2], Value.tuple #[Value.agg #[Value.bool neg, Value.slice a1 l1 c1], Value.agg #[Value.bool neg2, Value.slice a3 l3 c3], Value.nilIface], Value.agg #[Value.bool neg, Value.slice a1 l1 c1], Value.agg #[Value.bool neg2, Value.slice a3 l3 c3], Value.nilIface, Value.nilIface, Value.bool false, undef, undef, undef, Value.tuple #[Value.agg #[Value.bool (neg != neg2), Value.slice a6 l6 c6], Value.agg #[Value.bool neg, Value.slice a7 l7 c7]], Value.agg #[Value.bool neg, Value.slice a1 l1 c1], Value.agg #[Value.bool neg2, Value.slice a3 l3 c3], Value.tuple #[Value.agg #[Value.bool (neg != neg2), Value.slice a6 l6 c6], Value.agg #[Value.bool neg, Value.slice a7 l7 c7]], Value.agg #[Value.bool (neg != neg2), Value.slice a6 l6 c6], Value.agg #[Value.bool neg, Value.slice a7 l7 c7], Value.agg #[Value.bool neg, Value.slice a7 l7 c7], Value.int IntKind.i64 z1, Value.agg #[Value.bool neg2, Value.slice a3 l3 c3], Value.int IntKind.i64 z2, Value.int IntKind.i64 (z1 * z2), Value.bool false, undef, undef, undef, undef, undef, undef, undef, undef], defers := [] } ∧ Hid (Below X.heap.size X w') | _ => False) ?_ ?_
  · go_region_held3 (fun w' => (w'.cell? ⟨w3.heap.size + 1, 0, none⟩ = some (.bool neg2) ∧ w'.cell? ⟨w3.heap.size + 1, 1, none⟩ = some (.slice a3 l3 c3)) ∧ (w'.cell? ⟨w6.heap.size + 1, 0, none⟩ = some (.bool neg) ∧ w'.cell? ⟨w6.heap.size + 1, 1, none⟩ = some (.slice a7 l7 c7)))
      ((repeat' apply And.intro) <;> first | (with_reducible assumption) | (go_keep; done))
      (first
        | (go_at_call_of 29 (Value.agg #[Value.bool neg, Value.slice a7 l7 c7]); refine (sign_w neg a7 l7 c7 r z1 _ HZ1 (isN_below P7.out (below_drew _))).mono ?_; rintro e wb ⟨rfl, hbb⟩; have bb0 := (T3.out.drew.on hbb); have bb1 := (T4.out.drew.on hbb); have b0 : wb.cell? ⟨w3.heap.size + 1, 0, none⟩ = some (.bool neg2) := bb0.cell 0 rfl; have b1 : wb.cell? ⟨w3.heap.size + 1, 1, none⟩ = some (.slice a3 l3 c3) := bb0.cell 1 rfl; have b2 : wb.cell? ⟨w6.heap.size + 1, 0, none⟩ = some (.bool neg) := bb1.cell 0 rfl; have b3 : wb.cell? ⟨w6.heap.size + 1, 1, none⟩ = some (.slice a7 l7 c7) := bb1.cell 1 rfl; have HBb : Hid (Below X.heap.size X wb) := (below_drew X).trans hbb; have B3 : Hid (boxAt wb _ _ _) := bb0; have B4 : Hid (boxAt wb _ _ _) := bb1; clear hbb bb0 bb1)
        | (go_at_call 29; refine (sign_w neg2 a3 l3 c3 u2 z2 _ HZ2 (isN_below P3.out HBb.out)).mono ?_; rintro e wc ⟨rfl, hbc⟩; have bb0 := (B3.out.on hbc); have bb1 := (B4.out.on hbc); have d0 : wc.cell? ⟨w3.heap.size + 1, 0, none⟩ = some (.bool neg2) := bb0.cell 0 rfl; have d1 : wc.cell? ⟨w3.heap.size + 1, 1, none⟩ = some (.slice a3 l3 c3) := bb0.cell 1 rfl; have d2 : wc.cell? ⟨w6.heap.size + 1, 0, none⟩ = some (.bool neg) := bb1.cell 0 rfl; have d3 : wc.cell? ⟨w6.heap.size + 1, 1, none⟩ = some (.slice a7 l7 c7) := bb1.cell 1 rfl; have HBc : Hid (Below X.heap.size X wc) := HBb.out.trans (hbc.mono HBb.out.size); clear hbc bb0 bb1))
    all_goals
      refine ⟨?_, HBc⟩
      rfl
  intro e a' wY hq
  cases e
  case normal =>
    obtain ⟨rfl, hbY⟩ := hq
    have HBY : Hid (Below w.heap.size w wY) := HB7.out.trans (hbY.out.mono HB7.out.size)
    have S1 : Hid (boxAt wY _ _ _) := T1.out.on hbY.out
    have S2 : Hid (boxAt wY _ _ _) := T2.out.on hbY.out
    have S3 : Hid (boxAt wY _ _ _) := T3.out.on hbY.out
    have S4 : Hid (boxAt wY _ _ _) := T4.out.on hbY.out
    have Q3 : Hid (isN wY (.slice a3 l3 c3) _) := isN_below P3.out hbY.out
    have Q7 : Hid (isN wY (.slice a7 l7 c7) _) := isN_below P7.out hbY.out
    clear hbY T1 T2 T3 T4 P3 P7 HB7 k10 k11 k20 k21
    have k10 := S1.out.cell 1 rfl
    have k20 := S4.out.cell 0 rfl
    have k21 := S4.out.cell 1 rfl
    have k30 := S3.out.cell 0 rfl
    have k31 := S3.out.cell 1 rfl
    have fz0 := S4.out.frozen 0
    have fz1 := S4.out.frozen 1
    go_wp2_with fail
    have HBZ := HBY
    have SZ2 := S2
    refine (numOfWhole_any neg a7 l7 c7 r up2.size _ Q7.out (fr.mono (Nat.le_refl _) (by omega)) (by omega) (HT.out.on HBY.out)).mono ?_
    rintro e w9 ⟨rfl, hb9⟩
    have HB9 : Hid (Below w.heap.size w w9) := HBZ.out.trans (hb9.mono HBZ.out.size)
    have R2 : Hid (boxAt w9 _ _ _) := SZ2.out.on hb9
    clear hb9
    have q0 := R2.out.cell 0 rfl
    have f0 := R2.out.frozen 0
    have q1 := R2.out.cell 1 rfl
    have f1 := R2.out.frozen 1
    have q2 := R2.out.cell 2 rfl
    have f2 := R2.out.frozen 2
    have hlt := R2.out.lt
    go_wp2
    simp only [bodyPost]
    refine ⟨trivial, _, ?_, rfl, ?_⟩
    · simp only [results, Tryd.results14]
      go_simp
    · (repeat' first | (with_reducible exact HB9.out) | (with_reducible refine bel_set0 ?_ ?_) | (dsimp only; omega))
  all_goals exact hq.elim

set_option maxHeartbeats 4000000 in
theorem iNumMod_more (neg : Bool) (up dn : ByteArray) (neg2 : Bool) (up2 dn2 : ByteArray) (u u2 : Nat) (w : World) (h2 : 0 < u2) (HR : Hid (WYes 24 neg up dn neg2 up2 dn2 u u2)) (e1 : fits u 7) (e3 : fits u2 7) (s3 : up2.size ≤ 60) (htab : TB w) (hs1 : u % u2 ≠ 0) (hs2 : (neg == neg2) = false) :
    Calls Tryd.prog 14 #[.agg #[.bool neg, .string up, .string dn], .agg #[.bool neg2, .string up2, .string dn2]] w fun e w' => e = .returned (.tuple #[.agg #[.bool (neg2 && decide (u2 - u % u2 ≠ 0)), .string (decS (u2 - u % u2)), .string ⟨#[49]⟩], .int .i64 0]) ∧ Below w.heap.size w w' := by
  have HT : Hid (TB w) := htab
  have f1 : fits u 8000 := e1.mono (Nat.le_refl _) (by omega)
  have f3 : fits u2 8000 := e3.mono (Nat.le_refl _) (by omega)
  have hr : u % u2 < u2 := Nat.mod_lt _ h2
  obtain ⟨r, hrr⟩ : ∃ r, r = u % u2 := ⟨_, rfl⟩
  rw [← hrr] at hr hs1 ⊢
  have HRR : Hid (r = u % u2) := hrr
  have fr : fits r 8000 := f3.mono (Nat.le_of_lt hr) (Nat.le_refl _)
  clear hrr
  obtain ⟨z1, hz1⟩ : ∃ z, z = signI neg r := ⟨_, rfl⟩
  obtain ⟨z2, hz2⟩ : ∃ z, z = signI neg2 u2 := ⟨_, rfl⟩
  have HZ1 : Hid (signI neg r = z1) := hz1.symm
  have HZ2 : Hid (signI neg2 u2 = z2) := hz2.symm
  have hzw : IntKind.i64.wrap (z1 * z2) = z1 * z2 := by
    rw [hz1, hz2]; unfold signI; (repeat' split) <;> rfl
  have hzz : decide (z1 * z2 < 0) = true := by
    have hu0 : ¬ u2 = 0 := by omega
    rw [hz1, hz2]; unfold signI
    rw [if_neg hs1, if_neg hu0]
    revert hs2; cases neg <;> cases neg2 <;> simp
  have hzn : z1 * z2 < 0 := of_decide_eq_true hzz
  have hab : addB neg r neg2 u2 = neg2 := by unfold addB; rw [hs2, if_neg (by decide), if_pos hr]
  have han : addN neg r neg2 u2 = u2 - r := by unfold addN; rw [hs2, if_neg (by decide), if_pos hr]
  have HAB : Hid (addB neg r neg2 u2 = neg2) := hab
  have HAN : Hid (addN neg r neg2 u2 = u2 - r) := han
  have fm : fits (u2 - r) 10000 := f3.mono (Nat.sub_le _ _) (by omega)
  clear htab hz1 hz2 hs1 hs2 hab han
  go_enter Tryd.func14, Tryd.ntmps14
  go_wp2_with fail
  obtain ⟨V, hV, hBV, x0, x1, x2⟩ := boxes3 w #[Value.bool neg, Value.string up, Value.string dn] #[Value.bool neg2, Value.string up2, Value.string dn2] #[Value.bool false, Value.string ⟨#[]⟩, Value.string ⟨#[]⟩] 25 25 25
  rw [← hV]
  have HBV : Hid (Below w.heap.size w V) := hBV
  have Z1 : Hid (boxAt V _ _ _) := x1
  have Z2 : Hid (boxAt V _ _ _) := x2
  clear hV hBV x0 x1 x2
  refine (HR.out _).mono ?_
  rintro e w3 ⟨⟨a1, l1, c1, a3, l3, c3, rfl, n1, n3⟩, hb3⟩
  have HB3 : Hid (Below w.heap.size w w3) := HBV.out.trans (hb3.mono HBV.out.size)
  have Y1 : Hid (boxAt w3 _ _ _) := Z1.out.on hb3
  have Y2 : Hid (boxAt w3 _ _ _) := Z2.out.on hb3
  have hlt3 := Y2.out.lt
  clear hb3 Z1 Z2 HBV HR
  go_wp2_with fail
  obtain ⟨W, hW, hBW, x0, x1⟩ := boxes2 w3 #[Value.bool neg, Value.slice a1 l1 c1] #[Value.bool neg2, Value.slice a3 l3 c3] 44 44
  rw [← hW]
  have HB4 : Hid (Below w.heap.size w W) := HB3.out.trans (hBW.mono HB3.out.size)
  have V1 : Hid (boxAt W _ _ _) := Y1.out.on hBW
  have V2 : Hid (boxAt W _ _ _) := Y2.out.on hBW
  have V3 : Hid (boxAt W _ _ _) := x1
  have N1 : Hid (isN W (.slice a1 l1 c1) _) := isN_below n1.out hBW
  have N3 : Hid (isN W (.slice a3 l3 c3) _) := isN_below n3.out hBW
  clear hW hBW x0 x1 n1 n3 Y1 Y2 HB3
  refine (sdivide_any neg a1 l1 c1 neg2 a3 l3 c3 u u2 _ N1.out N3.out h2 f1 f3).mono ?_
  rintro e w6 ⟨⟨a6, l6, c6, a7, l7, c7, rfl, h6, h7⟩, hb6⟩
  rw [← HRR.out] at h7
  have HB6 : Hid (Below w.heap.size w w6) := HB4.out.trans (hb6.mono HB4.out.size)
  have U1 : Hid (boxAt w6 _ _ _) := V1.out.on hb6
  have U2 : Hid (boxAt w6 _ _ _) := V2.out.on hb6
  have U3 : Hid (boxAt w6 _ _ _) := V3.out.on hb6
  have M3 : Hid (isN w6 (.slice a3 l3 c3) _) := isN_below N3.out hb6
  have hltU := U3.out.lt
  clear hb6 V1 V2 V3 HB4 N1 N3 h6
  go_wp2_with fail
  obtain ⟨X, hX, hBX, x0, x1⟩ := boxes2 w6 #[Value.bool (neg != neg2), Value.slice a6 l6 c6] #[Value.bool neg, Value.slice a7 l7 c7] 44 44
  rw [← hX]
  have HB7 : Hid (Below w.heap.size w X) := HB6.out.trans (hBX.mono HB6.out.size)
  have T1 : Hid (boxAt X _ _ _) := U1.out.on hBX
  have T2 : Hid (boxAt X _ _ _) := U2.out.on hBX
  have T3 : Hid (boxAt X _ _ _) := U3.out.on hBX
  have T4 : Hid (boxAt X _ _ _) := x1
  have P3 : Hid (isN X (.slice a3 l3 c3) _) := isN_below M3.out hBX
  have P7 : Hid (isN X (.slice a7 l7 c7) r) := isN_below h7.out hBX
  clear hX hBX x0 x1 U1 U2 U3 HB6 M3 h7
  have k10 := T3.out.cell 0 rfl
  have k11 := T3.out.cell 1 rfl
  have k20 := T4.out.cell 0 rfl
  have k21 := T4.out.cell 1 rfl
  go_wp2_with fail
  refine Go.wp_mono (Q := fun e a' w' => match e with | .normal => a' = { tmps := #[Value.agg #[Value.bool neg, Value.string up, Value.string dn], Value.agg #[Value.bool neg2, Value.string up2, Value.string dn2], Value.pointer (some ⟨w.heap.size, 0, none⟩), Value.pointer (some ⟨w.heap.size + 1, 0, none⟩), Value.pointer (some ⟨w.heap.size + 1 + 1, 0, none⟩), Value.int IntKind.i64 0, Value.pointer (some ⟨w3.heap.size, 0, none⟩), Value.pointer (some ⟨w3.heap.size + 1, 0, none⟩), Value.nilIface, Value.pointer (some ⟨w6.heap.size, 0, none⟩), Value.pointer (some ⟨w6.heap.size + 1, 0, none⟩), Value.tuple #[Value.agg #[Value.bool neg, Value.slice a1 l1 c1], Value.agg #[Value.bool neg2, Value.slice a3 l3 c3], Value.nilIface], Value.agg #[Value.bool neg, Value.string up, Value.string dn], Value.agg #[Value.bool neg2, Value.string up2, Value.string dn2], Value.tuple #[Value.agg #[Value.bool neg, Value.slice a1 l1 c1], Value.agg #[Value.bool neg2, Value.slice a3 l3 c3], Value.nilIface], Value.agg #[Value.bool neg, Value.slice a1 l1 c1], Value.agg #[Value.bool neg2, Value.slice a3 l3 c3], Value.nilIface, Value.nilIface, Value.bool false, undef, undef, undef, Value.tuple #[Value.agg #[Value.bool (neg != neg2), Value.slice a6 l6 c6], Value.agg #[Value.bool neg, Value.slice a7 l7 c7]], Value.agg #[Value.bool neg, Value.slice a1 l1 c1], Value.agg #[Value.bool neg2, Value.slice a3 l3 c3], Value.tuple #[Value.agg #[Value.bool (neg != neg2), Value.slice a6 l6 c6], Value.agg #[Value.bool neg, Value.slice a7 l7 c7]], Value.agg #[Value.bool (neg != neg2), Value.slice a6 l6 c6], Value.agg #[Value.bool neg, Value.slice a7 l7 c7], Value.agg #[Value.bool neg, Value.slice a7 l7 c7], Value.int IntKind.i64 z1, Value.agg #[Value.bool neg2, Value.slice a3 l3 c3], Value.int IntKind.i64 z2, Value.int IntKind.i64 (z1 * z2), Value.bool true, undef, undef, undef, undef, undef, undef, undef, undef], defers := [] } ∧ Hid (Below X.heap.size X w') | _ => False) ?_ ?_
  · go_region_held3 (fun w' => (w'.cell? ⟨w3.heap.size + 1, 0, none⟩ = some (.bool neg2) ∧ w'.cell? ⟨w3.heap.size + 1, 1, none⟩ = some (.slice a3 l3 c3)) ∧ (w'.cell? ⟨w6.heap.size + 1, 0, none⟩ = some (.bool neg) ∧ w'.cell? ⟨w6.heap.size + 1, 1, none⟩ = some (.slice a7 l7 c7)))
      ((repeat' apply And.intro) <;> first | (with_reducible assumption) | (go_keep; done))
      (first
        | (go_at_call_of 29 (Value.agg #[Value.bool neg, Value.slice a7 l7 c7]); refine (sign_w neg a7 l7 c7 r z1 _ HZ1 (isN_below P7.out (below_drew _))).mono ?_; rintro e wb ⟨rfl, hbb⟩; have bb0 := (T3.out.drew.on hbb); have bb1 := (T4.out.drew.on hbb); have b0 : wb.cell? ⟨w3.heap.size + 1, 0, none⟩ = some (.bool neg2) := bb0.cell 0 rfl; have b1 : wb.cell? ⟨w3.heap.size + 1, 1, none⟩ = some (.slice a3 l3 c3) := bb0.cell 1 rfl; have b2 : wb.cell? ⟨w6.heap.size + 1, 0, none⟩ = some (.bool neg) := bb1.cell 0 rfl; have b3 : wb.cell? ⟨w6.heap.size + 1, 1, none⟩ = some (.slice a7 l7 c7) := bb1.cell 1 rfl; have HBb : Hid (Below X.heap.size X wb) := (below_drew X).trans hbb; have B3 : Hid (boxAt wb _ _ _) := bb0; have B4 : Hid (boxAt wb _ _ _) := bb1; clear hbb bb0 bb1)
        | (go_at_call 29; refine (sign_w neg2 a3 l3 c3 u2 z2 _ HZ2 (isN_below P3.out HBb.out)).mono ?_; rintro e wc ⟨rfl, hbc⟩; have bb0 := (B3.out.on hbc); have bb1 := (B4.out.on hbc); have d0 : wc.cell? ⟨w3.heap.size + 1, 0, none⟩ = some (.bool neg2) := bb0.cell 0 rfl; have d1 : wc.cell? ⟨w3.heap.size + 1, 1, none⟩ = some (.slice a3 l3 c3) := bb0.cell 1 rfl; have d2 : wc.cell? ⟨w6.heap.size + 1, 0, none⟩ = some (.bool neg) := bb1.cell 0 rfl; have d3 : wc.cell? ⟨w6.heap.size + 1, 1, none⟩ = some (.slice a7 l7 c7) := bb1.cell 1 rfl; have HBc : Hid (Below X.heap.size X wc) := HBb.out.trans (hbc.mono HBb.out.size); clear hbc bb0 bb1))
    all_goals
      refine ⟨?_, HBc⟩
      rfl
  intro e a' wY hq
  cases e
  case normal =>
    obtain ⟨rfl, hbY⟩ := hq
    have HBY : Hid (Below w.heap.size w wY) := HB7.out.trans (hbY.out.mono HB7.out.size)
    have S1 : Hid (boxAt wY _ _ _) := T1.out.on hbY.out
    have S2 : Hid (boxAt wY _ _ _) := T2.out.on hbY.out
    have S3 : Hid (boxAt wY _ _ _) := T3.out.on hbY.out
    have S4 : Hid (boxAt wY _ _ _) := T4.out.on hbY.out
    have Q3 : Hid (isN wY (.slice a3 l3 c3) _) := isN_below P3.out hbY.out
    have Q7 : Hid (isN wY (.slice a7 l7 c7) _) := isN_below P7.out hbY.out
    clear hbY T1 T2 T3 T4 P3 P7 HB7 k10 k11 k20 k21
    have k10 := S1.out.cell 1 rfl
    have k20 := S4.out.cell 0 rfl
    have k21 := S4.out.cell 1 rfl
    have k30 := S3.out.cell 0 rfl
    have k31 := S3.out.cell 1 rfl
    have fz0 := S4.out.frozen 0
    have fz1 := S4.out.frozen 1
    have hltZ := S4.out.lt
    go_wp2_with fail
    refine (plus_c neg a7 l7 c7 neg2 a3 l3 c3 r u2 _ Q7.out Q3.out (fr.mono (Nat.le_refl _) (by omega)) (f3.mono (Nat.le_refl _) (by omega))).mono ?_
    rintro e w8 ⟨⟨c, a8, l8, c8, k, rfl, hc, hk, h8⟩, hb8⟩
    have ec : c = neg2 := hc.out.trans HAB.out
    have ek : k = u2 - r := hk.out.trans HAN.out
    subst ec
    subst ek
    have HB8 : Hid (Below w.heap.size w w8) := HBY.out.trans (hb8.mono HBY.out.size)
    have O1 : Hid (boxAt w8 _ _ _) := S1.out.on hb8
    have O2 : Hid (boxAt w8 _ _ _) := S2.out.on hb8
    have O4 : Hid (boxAt w8 _ _ _) := S4.out.on hb8
    have hap := isN_apart h8 O4.out (by decide)
    obtain ⟨Z, hZ⟩ : ∃ Z, Z = (w8.setCell ⟨w6.heap.size + 1, 0, none⟩ (.bool c)).setCell ⟨w6.heap.size + 1, 1, none⟩ (.slice a8 l8 c8) := ⟨_, rfl⟩
    have NZ : Hid (isN Z (.slice a8 l8 c8) (u2 - r)) := by rw [hZ]; exact isN_set (isN_set h8 hap) hap
    have HBZ : Hid (Below w.heap.size w Z) := by
      rw [hZ]
      exact bel_set0 (bel_set0 HB8.out (by dsimp only; omega)) (by dsimp only; omega)
    have SZ2 : Hid (boxAt Z (w.heap.size + 1 + 1) #[Value.bool false, Value.string ⟨#[]⟩, Value.string ⟨#[]⟩] 25) := by
      rw [hZ]; exact (O2.out.set (by omega)).set (by omega)
    have k10 := O1.out.cell 1 rfl
    have k20 := O4.out.cell 0 rfl
    have k21 := O4.out.cell 1 rfl
    have fz0 := O4.out.frozen 0
    have fz1 := O4.out.frozen 1
    have hltO := O4.out.lt
    have hne : ¬ (w.heap.size + 1 = w6.heap.size + 1) := by omega
    have k10z : Z.cell? ⟨w.heap.size + 1, 1, none⟩ = some (.string up2) := by rw [hZ]; exact keep_set (keep_set k10 (by omega)) (by omega)
    have HZZ : Hid (Z = _) := hZ
    clear hb8 h8 hc hk HBY S1 S2 S3 S4 O1 O2 O4 hap hZ
    go_wp2_with fail
    rw [← HZZ.out]
    refine (numOfWhole_any c a8 l8 c8 (u2 - r) up2.size _ NZ.out fm (by omega) (HT.out.on HBZ.out)).mono ?_
    rintro e w9 ⟨rfl, hb9⟩
    have HB9 : Hid (Below w.heap.size w w9) := HBZ.out.trans (hb9.mono HBZ.out.size)
    have R2 : Hid (boxAt w9 _ _ _) := SZ2.out.on hb9
    clear hb9
    have q0 := R2.out.cell 0 rfl
    have f0 := R2.out.frozen 0
    have q1 := R2.out.cell 1 rfl
    have f1 := R2.out.frozen 1
    have q2 := R2.out.cell 2 rfl
    have f2 := R2.out.frozen 2
    have hlt := R2.out.lt
    go_wp2
    simp only [bodyPost]
    refine ⟨trivial, _, ?_, rfl, ?_⟩
    · simp only [results, Tryd.results14]
      go_simp
    · (repeat' first | (with_reducible exact HB9.out) | (with_reducible refine bel_set0 ?_ ?_) | (dsimp only; omega))
  all_goals exact hq.elim

end Go.Proofs.YtaggfbffdbompaaDoor
