/-
  The contract of the specification's NumQuo, where it answers.
-/
import Derived.Test.YtaggfbffdbompaaDoorWQuo
namespace Go.Proofs.YtaggfbffdbompaaDoor
set_option maxRecDepth 100000
set_option linter.unusedVariables false
set_option linter.unusedSimpArgs false
open Go.RowKit
attribute [local go_sem ↓] Go.wp_at_zero Go.wp_at_succ

theorem isDec_zz (s : ByteArray) (n : Nat) (h : Dm.isDec s.data.toList n) : (s.toList == [48]) = decide (n = 0) := by
  rw [Bool.eq_iff_iff, beq_iff_eq, decide_eq_true_eq, ByteArray.toList_eq]
  have H0 : Dm.isDec [48] 0 := by
    refine ⟨by simp, ?_, rfl, by simp⟩
    intro c hc; simp at hc; subst hc; exact ⟨by decide, by decide⟩
  constructor
  · intro e; rw [e] at h; exact Dm.isDec_inj _ _ _ h H0
  · intro e; subst e; exact Dm.isDec_unique _ _ 0 h H0

set_option maxHeartbeats 4000000 in
theorem sNumQuo_yes (neg : Bool) (up dn : ByteArray) (neg2 : Bool) (up2 dn2 : ByteArray) (u u2 : Nat) (w : World) (h2 : 0 < u2) (HC : Hid (SCode neg up dn neg2 up2 dn2 0)) (D1 : Hid (Dm.isDec up.data.toList u)) (D3 : Hid (Dm.isDec up2.data.toList u2)) (s1 : up.size ≤ 60) (s3 : up2.size ≤ 60) :
    Calls Tryd.prog 9 #[.agg #[.bool neg, .string up, .string dn], .agg #[.bool neg2, .string up2, .string dn2]] w fun e w' => e = twoNums ((neg != neg2) && decide (u / u2 ≠ 0)) (decS (u / u2)) ⟨#[49]⟩ (neg && decide (u % u2 ≠ 0)) (decS (u % u2)) ⟨#[49]⟩ 0 ∧ Below w.heap.size w w' := by
  unfold twoNums
  obtain ⟨S1, hS1⟩ : ∃ S, S = decS (u / u2) := ⟨_, rfl⟩
  obtain ⟨S2, hS2⟩ : ∃ S, S = decS (u % u2) := ⟨_, rfl⟩
  obtain ⟨C1, hC1⟩ : ∃ C, C = ((neg != neg2) && decide (u / u2 ≠ 0)) := ⟨_, rfl⟩
  obtain ⟨C2, hC2⟩ : ∃ C, C = (neg && decide (u % u2 ≠ 0)) := ⟨_, rfl⟩
  rw [← hS1, ← hS2, ← hC1, ← hC2]
  have HN : Hid (∀ (b : Bool) (W : World), b = (neg != neg2) → Calls Tryd.prog 23 #[.bool b, .string S1] W fun e w' => e = .returned (.agg #[.bool C1, .string S1, .string ⟨#[49]⟩]) ∧ Below W.heap.size W w') := by
    intro b W h1
    have hz : (S1.toList == [48]) = decide (u / u2 = 0) := by rw [hS1]; exact isDec_zz _ _ (decS_dec _)
    have e : C1 = (b && !decide (u / u2 = 0)) := by rw [hC1, h1]; simp only [ne_eq, decide_not]
    rw [e]; exact l4Sign_any b S1 _ W hz
  have HM : Hid (∀ (W : World), Calls Tryd.prog 23 #[.bool neg, .string S2] W fun e w' => e = .returned (.agg #[.bool C2, .string S2, .string ⟨#[49]⟩]) ∧ Below W.heap.size W w') := by
    intro W
    have hz : (S2.toList == [48]) = decide (u % u2 = 0) := by rw [hS2]; exact isDec_zz _ _ (decS_dec _)
    have e : C2 = (neg && !decide (u % u2 = 0)) := by rw [hC2]; simp only [ne_eq, decide_not]
    rw [e]; exact l4Sign_any neg S2 _ W hz
  have ES1 : Hid (S1 = decS (u / u2)) := hS1
  have ES2 : Hid (S2 = decS (u % u2)) := hS2
  clear hS1 hS2 hC1 hC2
  go_enter Tryd.func9, Tryd.ntmps9
  go_wp2_with fail
  obtain ⟨V, hV, hBV, x0, x1, x2, x3⟩ := boxes4 w #[Value.bool neg, Value.string up, Value.string dn] #[Value.bool neg2, Value.string up2, Value.string dn2] #[Value.bool false, Value.string ⟨#[]⟩, Value.string ⟨#[]⟩] #[Value.bool false, Value.string ⟨#[]⟩, Value.string ⟨#[]⟩] 25 25 25 25
  rw [← hV]
  have HBV : Hid (Below w.heap.size w V) := hBV
  have Z0 : Hid (boxAt V _ _ _) := x0
  have Z1 : Hid (boxAt V _ _ _) := x1
  have Z2 : Hid (boxAt V _ _ _) := x2
  have Z3 : Hid (boxAt V _ _ _) := x3
  clear hV hBV x0 x1 x2 x3
  refine (HC.out _).mono ?_
  rintro e w3 ⟨rfl, hb3⟩
  have HB3 : Hid (Below w.heap.size w w3) := HBV.out.trans (hb3.mono HBV.out.size)
  have Y0 : Hid (boxAt w3 _ _ _) := Z0.out.on hb3
  have Y1 : Hid (boxAt w3 _ _ _) := Z1.out.on hb3
  have Y2 : Hid (boxAt w3 _ _ _) := Z2.out.on hb3
  have Y3 : Hid (boxAt w3 _ _ _) := Z3.out.on hb3
  have k00 := Y0.out.cell 1 rfl
  have k10 := Y1.out.cell 1 rfl
  clear hb3 Z0 Z1 Z2 Z3 HBV HC
  go_wp2_with fail
  refine (l1Div_any up up2 u u2 _ (by omega) (by omega) D1.out D3.out h2).mono ?_
  rintro e w5 ⟨⟨t, t', rfl, ht, ht'⟩, hb5⟩
  have et := (dec_eq ht).trans ES1.out.symm
  have et' := (dec_eq ht').trans ES2.out.symm
  clear ht ht' D1 D3 ES1 ES2
  subst et
  subst et'
  have HB5 : Hid (Below w.heap.size w w5) := HB3.out.trans (hb5.mono HB3.out.size)
  have T0 : Hid (boxAt w5 _ _ _) := Y0.out.on hb5
  have T1 : Hid (boxAt w5 _ _ _) := Y1.out.on hb5
  have T2 : Hid (boxAt w5 _ _ _) := Y2.out.on hb5
  have T3 : Hid (boxAt w5 _ _ _) := Y3.out.on hb5
  clear hb5 Y0 Y1 Y2 Y3 HB3 k00 k10
  have k00 : w5.cell? ⟨w.heap.size, 0, none⟩ = some (.bool neg) := T0.out.cell 0 rfl
  have k10 : w5.cell? ⟨w.heap.size + 1, 0, none⟩ = some (.bool neg2) := T1.out.cell 0 rfl
  have hlt := T3.out.lt
  go_wp2_with fail
  refine Go.wp_mono (Q := fun e a' w' => match e with | .normal => (∃ us : Array Value, a' = { tmps := us, defers := [] } ∧ us[4]? = some (.pointer (some ⟨w.heap.size + 1 + 1, 0, none⟩)) ∧ us[5]? = some (.pointer (some ⟨w.heap.size + 1 + 1 + 1, 0, none⟩)) ∧ us[6]? = some (.int .i64 0)) ∧ ((w'.cell? ⟨w.heap.size + 1 + 1, 0, none⟩ = some (.bool C1) ∧ w'.cell? ⟨w.heap.size + 1 + 1, 1, none⟩ = some (.string t) ∧ w'.cell? ⟨w.heap.size + 1 + 1, 2, none⟩ = some (.string ⟨#[49]⟩)) ∧ (w'.cell? ⟨w.heap.size + 1 + 1 + 1, 0, none⟩ = some (.bool C2) ∧ w'.cell? ⟨w.heap.size + 1 + 1 + 1, 1, none⟩ = some (.string t') ∧ w'.cell? ⟨w.heap.size + 1 + 1 + 1, 2, none⟩ = some (.string ⟨#[49]⟩))) ∧ Below w.heap.size w w' | _ => False) ?_ ?_
  · go_region_held3 (fun w' => w'.cell? ⟨w.heap.size, 0, none⟩ = some (.bool neg) ∧ w'.cell? ⟨w.heap.size + 1, 0, none⟩ = some (.bool neg2))
      ((repeat' apply And.intro) <;> first | (with_reducible assumption) | ((with_reducible refine keep_set (keep_set (keep_set (keep_set (keep_set (keep_set ?_ ?_) ?_) ?_) ?_) ?_) ?_) <;> first | omega | (with_reducible assumption)) | ((with_reducible refine keep_drew (keep_set (keep_set (keep_set (keep_set (keep_set (keep_set ?_ ?_) ?_) ?_) ?_) ?_) ?_)) <;> first | omega | (with_reducible assumption)) | ((with_reducible refine keep_set (keep_set (keep_set ?_ ?_) ?_) ?_) <;> first | omega | (with_reducible assumption)) | ((with_reducible refine keep_drew (keep_set (keep_set (keep_set ?_ ?_) ?_) ?_)) <;> first | omega | (with_reducible assumption)) | (go_keep; done))
      (first
        | (go_at_call_of 23 (Value.string t); refine (HN.out _ _ (by first | rfl | exact (bnot_eq _ _).symm)).mono ?_; rintro e wb ⟨rfl, hbb⟩; have B0 : Hid (boxAt wb _ _ _) := T0.out.drew.on hbb; have B1 : Hid (boxAt wb _ _ _) := T1.out.drew.on hbb; have B2 : Hid (boxAt wb _ _ _) := T2.out.drew.on hbb; have B3 : Hid (boxAt wb _ _ _) := T3.out.drew.on hbb; have bc0 : wb.cell? ⟨w.heap.size, 0, none⟩ = some (.bool neg) := B0.out.cell 0 rfl; have bc1 : wb.cell? ⟨w.heap.size + 1, 0, none⟩ = some (.bool neg2) := B1.out.cell 0 rfl; have HBb : Hid (Below w.heap.size w wb) := HB5.out.drew.trans (hbb.mono HB5.out.size); clear hbb)
        | (go_at_call 23; refine (HM.out _).mono ?_; rintro e wc ⟨rfl, hbc⟩; have D0 : Hid (boxAt wc _ _ _) := B0.out.on hbc; have D1 : Hid (boxAt wc _ _ _) := B1.out.on hbc; have D2 : Hid (boxAt wc _ _ _) := B2.out.on hbc; have D3 : Hid (boxAt wc _ _ _) := B3.out.on hbc; have dc0 : wc.cell? ⟨w.heap.size, 0, none⟩ = some (.bool neg) := D0.out.cell 0 rfl; have dc1 : wc.cell? ⟨w.heap.size + 1, 0, none⟩ = some (.bool neg2) := D1.out.cell 0 rfl; have HBc : Hid (Below w.heap.size w wc) := HBb.out.trans (hbc.mono HBb.out.size); have r0 := D2.out.cell 0 rfl; have r1 := D2.out.cell 1 rfl; have r2 := D2.out.cell 2 rfl; have g0 := D2.out.frozen 0; have g1 := D2.out.frozen 1; have g2 := D2.out.frozen 2; have r3 := D3.out.cell 0 rfl; have r4 := D3.out.cell 1 rfl; have r5 := D3.out.cell 2 rfl; have g3 := D3.out.frozen 0; have g4 := D3.out.frozen 1; have g5 := D3.out.frozen 2; have hlD := D3.out.lt; clear hbc))
    all_goals
      refine ⟨⟨_, rfl, rfl, rfl, rfl⟩, ⟨⟨?_, ?_, ?_⟩, ?_, ?_, ?_⟩, ?_⟩
      · go_simp
      · go_simp
      · go_simp
      · go_simp
      · go_simp
      · go_simp
      · (repeat' first | (with_reducible exact HBc.out) | (with_reducible refine bel_set0 ?_ ?_) | (with_reducible refine bel_drew0 ?_) | (dsimp only; omega))
  · intro e a' w' hq
    cases e
    case normal =>
      obtain ⟨⟨us, rfl, hus4, hus5, hus6⟩, ⟨⟨hv0, hv1, hv2⟩, hv3, hv4, hv5⟩, hb⟩ := hq
      go_wp2
      simp only [bodyPost]
      refine ⟨trivial, _, ?_, rfl, hb⟩
      simp only [results, Tryd.results9]
      go_simp
    all_goals exact hq.elim

end Go.Proofs.YtaggfbffdbompaaDoor
