/-
  The law: the program's NumGcd and the specification's answer alike.
-/
import Derived.Test.YtaggfbffdbompaaDoorWLaw1
import Derived.Test.YtaggfbffdbompaaDoorBothGcd
namespace Go.Proofs.YtaggfbffdbompaaDoor
set_option maxRecDepth 100000
set_option linter.unusedVariables false
set_option linter.unusedSimpArgs false
open Go.RowKit
attribute [local go_sem ↓] Go.wp_at_zero Go.wp_at_succ

set_option maxHeartbeats 2000000 in
theorem lawNumGcd (neg : Bool) (up dn : ByteArray) (neg2 : Bool) (up2 dn2 : ByteArray) (w : World) (hu : up.size ≤ maxLen) (hd : dn.size ≤ maxLen) (hu2 : up2.size ≤ maxLen) (hd2 : dn2.size ≤ maxLen) (htab : TE w) :
    Calls Tryd.prog 5 #[.agg #[.bool neg, .string up, .string dn], .agg #[.bool neg2, .string up2, .string dn2]] w fun e w' => e = .returned (.bool true) ∧ Below w.heap.size w w' := by
  obtain ⟨C, U, D, K, hI, hS⟩ := bothNumGcd neg up dn neg2 up2 dn2 hu hd hu2 hd2
  have HI : Hid _ := hI
  have HS : Hid _ := hS
  have HT : Hid (TE w) := htab
  clear hI hS htab
  go_enter Tryd.func5, Tryd.ntmps5
  go_wp2_with fail
  obtain ⟨W, hW, hBW, x0, x1⟩ := boxes2 w #[Value.bool neg, Value.string up, Value.string dn] #[Value.bool neg2, Value.string up2, Value.string dn2] 23 23
  rw [← hW]
  have HBW : Hid (Below w.heap.size w W) := hBW
  have X0 : Hid (boxAt W _ _ _) := x0
  have X1 : Hid (boxAt W _ _ _) := x1
  clear hW hBW x0 x1
  refine (szNum_c neg up dn 1048576 _ (by omega) (by omega) hu hd).mono ?_
  rintro e w1 ⟨⟨z, rfl, hzl, _⟩, hb1⟩
  have HB1 : Hid (Below w.heap.size w w1) := HBW.out.trans (hb1.mono HBW.out.size)
  have Y0 : Hid (boxAt w1 _ _ _) := X0.out.on hb1
  have Y1 : Hid (boxAt w1 _ _ _) := X1.out.on hb1
  clear hb1 X0 X1 HBW
  have k10 := Y1.out.cell 0 rfl
  have k11 := Y1.out.cell 1 rfl
  have k12 := Y1.out.cell 2 rfl
  by_cases h0 : z < 0
  · go_wp2
    go_ret
    exact ⟨rfl, HB1.out⟩
  go_wp2_with fail
  refine (szNum_c neg2 up2 dn2 z _ (by omega) (by omega) hu2 hd2).mono ?_
  rintro e w2 ⟨⟨z2, rfl, hzl2, _⟩, hb2⟩
  have HB2 : Hid (Below w.heap.size w w2) := HB1.out.trans (hb2.mono HB1.out.size)
  have X0 : Hid (boxAt w2 _ _ _) := Y0.out.on hb2
  have X1 : Hid (boxAt w2 _ _ _) := Y1.out.on hb2
  clear hb2 Y0 Y1 HB1 k10 k11 k12
  by_cases h1 : z2 < 0
  · go_wp2
    go_ret
    exact ⟨rfl, HB2.out⟩
  have k00 := X0.out.cell 0 rfl
  have k01 := X0.out.cell 1 rfl
  have k02 := X0.out.cell 2 rfl
  have k10 := X1.out.cell 0 rfl
  have k11 := X1.out.cell 1 rfl
  have k12 := X1.out.cell 2 rfl
  have hlt0 := X0.out.lt
  have hlt1 := X1.out.lt
  clear X0 X1
  go_wp2_with fail
  refine Go.wp_mono (Q := fun e a' w' => match e with | .normal => Behind8 neg up dn neg2 up2 dn2 z z2 w.heap.size w2 C U D K a' w' | _ => False) ?_ ?_
  · go_region_held3 (fun w' => (w'.cell? ⟨w.heap.size, 0, none⟩ = some (.bool neg) ∧ (w'.cell? ⟨w.heap.size, 1, none⟩ = some (.string up) ∧ w'.cell? ⟨w.heap.size, 2, none⟩ = some (.string dn))) ∧ (w'.cell? ⟨w.heap.size + 1, 0, none⟩ = some (.bool neg2) ∧ (w'.cell? ⟨w.heap.size + 1, 1, none⟩ = some (.string up2) ∧ w'.cell? ⟨w.heap.size + 1, 2, none⟩ = some (.string dn2))))
      ((repeat' apply And.intro) <;> first | (with_reducible assumption) | ((with_reducible refine keep_set (keep_set (keep_set ?_ ?_) ?_) ?_) <;> first | omega | assumption) | (go_keep; done))
      (first
        | (go_at_call_of 10 (Value.string dn2); refine (toNum_c neg2 up2 dn2 _).mono ?_; rintro e wc ⟨rfl, hb2⟩; have HBwc : Hid (Below w2.heap.size w2 wc) := bel_go (by repeat' first | exact HBwb.out | exact Below.refl _ _ | refine belA ?_ | refine bel_drew ?_) hb2; have ewc00 := cell_on HBwc.out k00; have ewc01 := cell_on HBwc.out k01; have ewc02 := cell_on HBwc.out k02; have ewc10 := cell_on HBwc.out k10; have ewc11 := cell_on HBwc.out k11; have ewc12 := cell_on HBwc.out k12; have hswc := HBwc.out.size; (try (have Bw2wc : Hid (boxAt wc w2.heap.size _ _) := boxAt.on Bw2wb.out hb2)); (try (have cw2wc0 := Bw2wc.out.cell 0 rfl; have cw2wc1 := Bw2wc.out.cell 1 rfl; have cw2wc2 := Bw2wc.out.cell 2 rfl; have dw2wc0 := Bw2wc.out.frozen 0; have dw2wc1 := Bw2wc.out.frozen 1; have dw2wc2 := Bw2wc.out.frozen 2; have lw2wc := Bw2wc.out.lt)); (try (have Bwbwc : Hid (boxAt wc wb.heap.size _ _) := boxAt.on (boxAt_new wb #[Value.bool false, Value.string ⟨#[]⟩, Value.string ⟨#[]⟩] 25) hb2)); (try (have cwbwc0 := Bwbwc.out.cell 0 rfl; have cwbwc1 := Bwbwc.out.cell 1 rfl; have cwbwc2 := Bwbwc.out.cell 2 rfl; have dwbwc0 := Bwbwc.out.frozen 0; have dwbwc1 := Bwbwc.out.frozen 1; have dwbwc2 := Bwbwc.out.frozen 2; have lwbwc := Bwbwc.out.lt)); clear hb2)
        | (go_at_call 10; refine (toNum_c neg up dn _).mono ?_; rintro e wb ⟨rfl, hb1⟩; have HBwb : Hid (Below w2.heap.size w2 wb) := bel_go (by repeat' first | exact HBnone.out | exact Below.refl _ _ | refine belA ?_ | refine bel_drew ?_) hb1; have ewb00 := cell_on HBwb.out k00; have ewb01 := cell_on HBwb.out k01; have ewb02 := cell_on HBwb.out k02; have ewb10 := cell_on HBwb.out k10; have ewb11 := cell_on HBwb.out k11; have ewb12 := cell_on HBwb.out k12; have hswb := HBwb.out.size; (try (have Bw2wb : Hid (boxAt wb w2.heap.size _ _) := boxAt.on (boxAt_new w2 #[Value.bool false, Value.string ⟨#[]⟩, Value.string ⟨#[]⟩] 25) hb1)); (try (have Bw2wb : Hid (boxAt wb w2.heap.size _ _) := boxAt.on (boxAt.drew (boxAt_new w2 #[Value.bool false, Value.string ⟨#[]⟩, Value.string ⟨#[]⟩] 25)) hb1)); (try (have cw2wb0 := Bw2wb.out.cell 0 rfl; have cw2wb1 := Bw2wb.out.cell 1 rfl; have cw2wb2 := Bw2wb.out.cell 2 rfl; have dw2wb0 := Bw2wb.out.frozen 0; have dw2wb1 := Bw2wb.out.frozen 1; have dw2wb2 := Bw2wb.out.frozen 2; have lw2wb := Bw2wb.out.lt)); clear hb1)
        | (go_at_call 15; refine (HS.out _).mono ?_; rintro e wd ⟨rfl, hb3⟩; have HBwd : Hid (Below w2.heap.size w2 wd) := bel_go (by repeat' first | exact HBwc.out | exact Below.refl _ _ | refine belA ?_ | refine bel_drew ?_) hb3; have ewd00 := cell_on HBwd.out k00; have ewd01 := cell_on HBwd.out k01; have ewd02 := cell_on HBwd.out k02; have ewd10 := cell_on HBwd.out k10; have ewd11 := cell_on HBwd.out k11; have ewd12 := cell_on HBwd.out k12; have hswd := HBwd.out.size; (try (have Bw2wd : Hid (boxAt wd w2.heap.size _ _) := boxAt.on Bw2wc.out hb3)); (try (have cw2wd0 := Bw2wd.out.cell 0 rfl; have cw2wd1 := Bw2wd.out.cell 1 rfl; have cw2wd2 := Bw2wd.out.cell 2 rfl; have dw2wd0 := Bw2wd.out.frozen 0; have dw2wd1 := Bw2wd.out.frozen 1; have dw2wd2 := Bw2wd.out.frozen 2; have lw2wd := Bw2wd.out.lt)); (try (have Bwbwd : Hid (boxAt wd wb.heap.size _ _) := boxAt.on Bwbwc.out hb3)); (try (have cwbwd0 := Bwbwd.out.cell 0 rfl; have cwbwd1 := Bwbwd.out.cell 1 rfl; have cwbwd2 := Bwbwd.out.cell 2 rfl; have dwbwd0 := Bwbwd.out.frozen 0; have dwbwd1 := Bwbwd.out.frozen 1; have dwbwd2 := Bwbwd.out.frozen 2; have lwbwd := Bwbwd.out.lt)); (try (have Bwcwd : Hid (boxAt wd wc.heap.size _ _) := boxAt.on (boxAt_new wc #[Value.bool false, Value.string ⟨#[]⟩, Value.string ⟨#[]⟩] 25) hb3)); (try (have cwcwd0 := Bwcwd.out.cell 0 rfl; have cwcwd1 := Bwcwd.out.cell 1 rfl; have cwcwd2 := Bwcwd.out.cell 2 rfl; have dwcwd0 := Bwcwd.out.frozen 0; have dwcwd1 := Bwcwd.out.frozen 1; have dwcwd2 := Bwcwd.out.frozen 2; have lwcwd := Bwcwd.out.lt)); clear hb3))
    all_goals
      dsimp only
      unfold Behind8 numAt
      refine ⟨_, rfl, ⟨?_, ?_, ?_⟩, ?_⟩
      · go_simp
      · go_simp
      · go_simp
      · (repeat' first | exact HBwd.out | refine belA ?_ | exact Nat.le_refl _ | refine belS ?_ ?_ | (show w2.heap.size ≤ _; omega))
  intro e a wA hq
  cases e
  case normal =>
    obtain ⟨b, rfl, hnb, hbA⟩ := hq
    have NB : Hid (numAt wA b C U D) := hnb
    have HBA : Hid (Below w.heap.size w wA) := HB2.out.trans (hbA.mono HB2.out.size)
    have HTA : Hid (TE wA) := HT.out.on HBA.out
    have k00 := cell_on hbA k00
    have k01 := cell_on hbA k01
    have k02 := cell_on hbA k02
    have k10 := cell_on hbA k10
    have k11 := cell_on hbA k11
    have k12 := cell_on hbA k12
    have hsA := hbA.size
    clear hnb hbA HB2 HT HS
    go_wp2_with fail
    refine Go.wp_mono (Q := fun e a' w' => match e with | .normal => Behind9 neg up dn neg2 up2 dn2 z z2 w.heap.size b wA C U D K a' w' | _ => False) ?_ ?_
    · go_region_held3 (fun w' => (w'.cell? ⟨w.heap.size, 0, none⟩ = some (.bool neg) ∧ (w'.cell? ⟨w.heap.size, 1, none⟩ = some (.string up) ∧ w'.cell? ⟨w.heap.size, 2, none⟩ = some (.string dn))) ∧ (w'.cell? ⟨w.heap.size + 1, 0, none⟩ = some (.bool neg2) ∧ (w'.cell? ⟨w.heap.size + 1, 1, none⟩ = some (.string up2) ∧ w'.cell? ⟨w.heap.size + 1, 2, none⟩ = some (.string dn2))))
        ((repeat' apply And.intro) <;> first | (with_reducible assumption) | ((with_reducible refine keep_set (keep_set (keep_set ?_ ?_) ?_) ?_) <;> first | omega | assumption) | (go_keep; done))
        (first
          | (go_at_call_of 10 (Value.string dn2); refine (toNum_c neg2 up2 dn2 _).mono ?_; rintro e wg ⟨rfl, hb2⟩; have HBwg : Hid (Below wA.heap.size wA wg) := bel_go (by repeat' first | exact HBwf.out | exact Below.refl _ _ | refine belA ?_ | refine bel_drew ?_) hb2; have ewg00 := cell_on HBwg.out k00; have ewg01 := cell_on HBwg.out k01; have ewg02 := cell_on HBwg.out k02; have ewg10 := cell_on HBwg.out k10; have ewg11 := cell_on HBwg.out k11; have ewg12 := cell_on HBwg.out k12; have hswg := HBwg.out.size; (try (have BwAwg : Hid (boxAt wg wA.heap.size _ _) := boxAt.on BwAwf.out hb2)); (try (have cwAwg0 := BwAwg.out.cell 0 rfl; have cwAwg1 := BwAwg.out.cell 1 rfl; have cwAwg2 := BwAwg.out.cell 2 rfl; have dwAwg0 := BwAwg.out.frozen 0; have dwAwg1 := BwAwg.out.frozen 1; have dwAwg2 := BwAwg.out.frozen 2; have lwAwg := BwAwg.out.lt)); (try (have Bwfwg : Hid (boxAt wg wf.heap.size _ _) := boxAt.on (boxAt_new wf #[Value.bool false, Value.string ⟨#[]⟩, Value.string ⟨#[]⟩] 25) hb2)); (try (have cwfwg0 := Bwfwg.out.cell 0 rfl; have cwfwg1 := Bwfwg.out.cell 1 rfl; have cwfwg2 := Bwfwg.out.cell 2 rfl; have dwfwg0 := Bwfwg.out.frozen 0; have dwfwg1 := Bwfwg.out.frozen 1; have dwfwg2 := Bwfwg.out.frozen 2; have lwfwg := Bwfwg.out.lt)); clear hb2)
          | (go_at_call 10; refine (toNum_c neg up dn _).mono ?_; rintro e wf ⟨rfl, hb1⟩; have HBwf : Hid (Below wA.heap.size wA wf) := bel_go (by repeat' first | exact HBnone.out | exact Below.refl _ _ | refine belA ?_ | refine bel_drew ?_) hb1; have ewf00 := cell_on HBwf.out k00; have ewf01 := cell_on HBwf.out k01; have ewf02 := cell_on HBwf.out k02; have ewf10 := cell_on HBwf.out k10; have ewf11 := cell_on HBwf.out k11; have ewf12 := cell_on HBwf.out k12; have hswf := HBwf.out.size; (try (have BwAwf : Hid (boxAt wf wA.heap.size _ _) := boxAt.on (boxAt_new wA #[Value.bool false, Value.string ⟨#[]⟩, Value.string ⟨#[]⟩] 25) hb1)); (try (have BwAwf : Hid (boxAt wf wA.heap.size _ _) := boxAt.on (boxAt.drew (boxAt_new wA #[Value.bool false, Value.string ⟨#[]⟩, Value.string ⟨#[]⟩] 25)) hb1)); (try (have cwAwf0 := BwAwf.out.cell 0 rfl; have cwAwf1 := BwAwf.out.cell 1 rfl; have cwAwf2 := BwAwf.out.cell 2 rfl; have dwAwf0 := BwAwf.out.frozen 0; have dwAwf1 := BwAwf.out.frozen 1; have dwAwf2 := BwAwf.out.frozen 2; have lwAwf := BwAwf.out.lt)); clear hb1)
          | (go_at_call 16; refine (HI.out _ (HTA.out.on (by repeat' first | exact HBwg.out | refine belA ?_ | refine bel_drew ?_))).mono ?_; rintro e wh ⟨rfl, hb3⟩; have HBwh : Hid (Below wA.heap.size wA wh) := bel_go (by repeat' first | exact HBwg.out | exact Below.refl _ _ | refine belA ?_ | refine bel_drew ?_) hb3; have ewh00 := cell_on HBwh.out k00; have ewh01 := cell_on HBwh.out k01; have ewh02 := cell_on HBwh.out k02; have ewh10 := cell_on HBwh.out k10; have ewh11 := cell_on HBwh.out k11; have ewh12 := cell_on HBwh.out k12; have hswh := HBwh.out.size; (try (have BwAwh : Hid (boxAt wh wA.heap.size _ _) := boxAt.on BwAwg.out hb3)); (try (have cwAwh0 := BwAwh.out.cell 0 rfl; have cwAwh1 := BwAwh.out.cell 1 rfl; have cwAwh2 := BwAwh.out.cell 2 rfl; have dwAwh0 := BwAwh.out.frozen 0; have dwAwh1 := BwAwh.out.frozen 1; have dwAwh2 := BwAwh.out.frozen 2; have lwAwh := BwAwh.out.lt)); (try (have Bwfwh : Hid (boxAt wh wf.heap.size _ _) := boxAt.on Bwfwg.out hb3)); (try (have cwfwh0 := Bwfwh.out.cell 0 rfl; have cwfwh1 := Bwfwh.out.cell 1 rfl; have cwfwh2 := Bwfwh.out.cell 2 rfl; have dwfwh0 := Bwfwh.out.frozen 0; have dwfwh1 := Bwfwh.out.frozen 1; have dwfwh2 := Bwfwh.out.frozen 2; have lwfwh := Bwfwh.out.lt)); (try (have Bwgwh : Hid (boxAt wh wg.heap.size _ _) := boxAt.on (boxAt_new wg #[Value.bool false, Value.string ⟨#[]⟩, Value.string ⟨#[]⟩] 25) hb3)); (try (have cwgwh0 := Bwgwh.out.cell 0 rfl; have cwgwh1 := Bwgwh.out.cell 1 rfl; have cwgwh2 := Bwgwh.out.cell 2 rfl; have dwgwh0 := Bwgwh.out.frozen 0; have dwgwh1 := Bwgwh.out.frozen 1; have dwgwh2 := Bwgwh.out.frozen 2; have lwgwh := Bwgwh.out.lt)); clear hb3))
      all_goals
        dsimp only
        unfold Behind9 numAt
        refine ⟨_, rfl, ⟨?_, ?_, ?_⟩, ?_⟩
        · go_simp
        · go_simp
        · go_simp
        · (repeat' first | exact HBwh.out | refine belA ?_ | exact Nat.le_refl _ | refine belS ?_ ?_ | (show wA.heap.size ≤ _; omega))
    intro e a wE hq
    cases e
    case normal =>
      obtain ⟨c, rfl, ⟨c0, c1, c2⟩, hbE⟩ := hq
      obtain ⟨b0, b1, b2⟩ := NB.out.on hbE
      have HBE : Hid (Below w.heap.size w wE) := HBA.out.trans (hbE.mono HBA.out.size)
      clear hbE k00 k01 k02 k10 k11 k12
      go_wp2_with fail
      refine (eqNum_same C U D _).mono ?_
      rintro e wF ⟨rfl, hbF⟩
      have HBF : Hid (Below w.heap.size w wF) := HBE.out.trans (hbF.mono HBE.out.size)
      clear hbF
      go_wp2
      go_ret
      exact ⟨rfl, HBF.out⟩
    all_goals exact hq.elim
  all_goals exact hq.elim

end Go.Proofs.YtaggfbffdbompaaDoor
