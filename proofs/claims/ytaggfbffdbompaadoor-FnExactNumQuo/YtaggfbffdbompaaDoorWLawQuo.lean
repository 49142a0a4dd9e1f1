/-
  The law: the program's NumQuo and the specification's answer alike.
-/
import Derived.Test.YtaggfbffdbompaaDoorWLaw2
import Derived.Test.YtaggfbffdbompaaDoorBothQuo
namespace Go.Proofs.YtaggfbffdbompaaDoor
set_option maxRecDepth 100000
set_option linter.unusedVariables false
set_option linter.unusedSimpArgs false
open Go.RowKit
attribute [local go_sem ↓] Go.wp_at_zero Go.wp_at_succ

set_option maxHeartbeats 8000000 in
theorem lawNumQuo (neg : Bool) (up dn : ByteArray) (neg2 : Bool) (up2 dn2 : ByteArray) (w : World) (hu : up.size ≤ maxLen) (hd : dn.size ≤ maxLen) (hu2 : up2.size ≤ maxLen) (hd2 : dn2.size ≤ maxLen) (htab : TE w) :
    Calls Tryd.prog 3 #[.agg #[.bool neg, .string up, .string dn], .agg #[.bool neg2, .string up2, .string dn2]] w fun e w' => e = .returned (.bool true) ∧ Below w.heap.size w w' := by
  obtain ⟨C, U, D, C2, U2, D2, K, hI, hS⟩ := bothNumQuo neg up dn neg2 up2 dn2 hu hd hu2 hd2
  unfold twoNums at hI hS
  have HI : Hid _ := hI
  have HS : Hid _ := hS
  have HT : Hid (TE w) := htab
  clear hI hS htab
  go_enter Tryd.func3, Tryd.ntmps3
  go_wp2_with fail
  obtain ⟨W, hW, hBW, x0, x1⟩ := boxes2 w #[Value.bool neg, Value.string up, Value.string dn] #[Value.bool neg2, Value.string up2, Value.string dn2] 23 23
  rw [← hW]
  have HBW : Hid (Below w.heap.size w W) := hBW
  have X0 : Hid (boxAt W _ _ _) := x0
  have X1 : Hid (boxAt W _ _ _) := x1
  clear hW hBW x0 x1
  refine (szNum_c neg up dn 1048576 _ (by omega) (by omega) hu hd).mono ?_
  rintro e w1 ⟨⟨z, rfl, hzl, _⟩, hb1⟩
  have HB1 : Hid (Below w.heap.size w w1) := HBW.out.trans (hb1.mono HBW.out.size)
  have Y0 : Hid (boxAt w1 _ _ _) := X0.out.on hb1
  have Y1 : Hid (boxAt w1 _ _ _) := X1.out.on hb1
  clear hb1 X0 X1 HBW
  have k10 := Y1.out.cell 0 rfl
  have k11 := Y1.out.cell 1 rfl
  have k12 := Y1.out.cell 2 rfl
  by_cases h0 : z < 0
  · go_wp2
    go_ret
    exact ⟨rfl, HB1.out⟩
  go_wp2_with fail
  refine (szNum_c neg2 up2 dn2 z _ (by omega) (by omega) hu2 hd2).mono ?_
  rintro e w2 ⟨⟨z2, rfl, hzl2, _⟩, hb2⟩
  have HB2 : Hid (Below w.heap.size w w2) := HB1.out.trans (hb2.mono HB1.out.size)
  have X0 : Hid (boxAt w2 _ _ _) := Y0.out.on hb2
  have X1 : Hid (boxAt w2 _ _ _) := Y1.out.on hb2
  clear hb2 Y0 Y1 HB1 k10 k11 k12
  by_cases h1 : z2 < 0
  · go_wp2
    go_ret
    exact ⟨rfl, HB2.out⟩
  have k00 : w2.cell? ⟨w.heap.size, 0, none⟩ = some (.bool neg) := X0.out.cell 0 rfl
  have k01 : w2.cell? ⟨w.heap.size, 1, none⟩ = some (.string up) := X0.out.cell 1 rfl
  have k02 : w2.cell? ⟨w.heap.size, 2, none⟩ = some (.string dn) := X0.out.cell 2 rfl
  have k10 : w2.cell? ⟨w.heap.size + 1, 0, none⟩ = some (.bool neg2) := X1.out.cell 0 rfl
  have k11 : w2.cell? ⟨w.heap.size + 1, 1, none⟩ = some (.string up2) := X1.out.cell 1 rfl
  have k12 : w2.cell? ⟨w.heap.size + 1, 2, none⟩ = some (.string dn2) := X1.out.cell 2 rfl
  have hlt0 := X0.out.lt
  have hlt1 := X1.out.lt
  clear X0 X1
  go_wp2_with fail
  refine Go.wp_mono (Q := fun e a' w' => match e with | .normal => Behind8 neg up dn neg2 up2 dn2 z z2 w.heap.size w2 C U D C2 U2 D2 K a' w' | _ => False) ?_ ?_
  · go_region_held3 (fun w' => (w'.cell? ⟨w.heap.size, 0, none⟩ = some (.bool neg) ∧ (w'.cell? ⟨w.heap.size, 1, none⟩ = some (.string up) ∧ w'.cell? ⟨w.heap.size, 2, none⟩ = some (.string dn))) ∧ (w'.cell? ⟨w.heap.size + 1, 0, none⟩ = some (.bool neg2) ∧ (w'.cell? ⟨w.heap.size + 1, 1, none⟩ = some (.string up2) ∧ w'.cell? ⟨w.heap.size + 1, 2, none⟩ = some (.string dn2))))
      ((repeat' apply And.intro) <;> (repeat' first | (with_reducible assumption) | (with_reducible refine keep_set ?_ ?_) | (with_reducible refine keep_alloc ?_) | (with_reducible refine keep_drew ?_) | omega) <;> done)
      (first
        | (go_at_call_of 10 (Value.string dn2); refine (toNum_c neg2 up2 dn2 _).mono ?_; rintro e wc ⟨rfl, hb2⟩; have HBwc : Hid (Below w2.heap.size w2 wc) := bel_go (by repeat' first | exact HBwb.out | exact Below.refl _ _ | refine belA ?_ | refine bel_drew ?_) hb2; have ewc00 : wc.cell? ⟨w.heap.size, 0, none⟩ = some (.bool neg) := cell_on HBwc.out k00; have ewc01 : wc.cell? ⟨w.heap.size, 1, none⟩ = some (.string up) := cell_on HBwc.out k01; have ewc02 : wc.cell? ⟨w.heap.size, 2, none⟩ = some (.string dn) := cell_on HBwc.out k02; have ewc10 : wc.cell? ⟨w.heap.size + 1, 0, none⟩ = some (.bool neg2) := cell_on HBwc.out k10; have ewc11 : wc.cell? ⟨w.heap.size + 1, 1, none⟩ = some (.string up2) := cell_on HBwc.out k11; have ewc12 : wc.cell? ⟨w.heap.size + 1, 2, none⟩ = some (.string dn2) := cell_on HBwc.out k12; have hswc := HBwc.out.size; (try (have Bw20wc : Hid (boxAt wc (w2.heap.size) #[Value.bool false, Value.string ⟨#[]⟩, Value.string ⟨#[]⟩] 25) := by first | exact boxAt.on Bw20wb.out hb2 | exact boxAt.on (Bw20wb.out.alloc _) hb2)); (try (have cw20wc0 := Bw20wc.out.cell 0 rfl; have cw20wc1 := Bw20wc.out.cell 1 rfl; have cw20wc2 := Bw20wc.out.cell 2 rfl; have dw20wc0 := Bw20wc.out.frozen 0; have dw20wc1 := Bw20wc.out.frozen 1; have dw20wc2 := Bw20wc.out.frozen 2; have lw20wc := Bw20wc.out.lt)); (try (have Bw21wc : Hid (boxAt wc (w2.heap.size + 1) #[Value.bool false, Value.string ⟨#[]⟩, Value.string ⟨#[]⟩] 25) := by first | exact boxAt.on Bw21wb.out hb2 | exact boxAt.on (Bw21wb.out.alloc _) hb2)); (try (have cw21wc0 := Bw21wc.out.cell 0 rfl; have cw21wc1 := Bw21wc.out.cell 1 rfl; have cw21wc2 := Bw21wc.out.cell 2 rfl; have dw21wc0 := Bw21wc.out.frozen 0; have dw21wc1 := Bw21wc.out.frozen 1; have dw21wc2 := Bw21wc.out.frozen 2; have lw21wc := Bw21wc.out.lt)); (try (have nw2wc : ¬ w2.heap.size = wc.heap.size := by omega; have mw2wc : ¬ wc.heap.size = w2.heap.size := by omega)); (try (have Bwb0wc : Hid (boxAt wc (wb.heap.size) #[Value.bool false, Value.string ⟨#[]⟩, Value.string ⟨#[]⟩] 25) := by first | exact boxAt.on (nb1 wb) hb2 | exact boxAt.on (nb2 wb) hb2)); (try (have cwb0wc0 := Bwb0wc.out.cell 0 rfl; have cwb0wc1 := Bwb0wc.out.cell 1 rfl; have cwb0wc2 := Bwb0wc.out.cell 2 rfl; have dwb0wc0 := Bwb0wc.out.frozen 0; have dwb0wc1 := Bwb0wc.out.frozen 1; have dwb0wc2 := Bwb0wc.out.frozen 2; have lwb0wc := Bwb0wc.out.lt)); (try (have Bwb1wc : Hid (boxAt wc (wb.heap.size + 1) #[Value.bool false, Value.string ⟨#[]⟩, Value.string ⟨#[]⟩] 25) := by first | exact boxAt.on (nb3 wb) hb2)); (try (have cwb1wc0 := Bwb1wc.out.cell 0 rfl; have cwb1wc1 := Bwb1wc.out.cell 1 rfl; have cwb1wc2 := Bwb1wc.out.cell 2 rfl; have dwb1wc0 := Bwb1wc.out.frozen 0; have dwb1wc1 := Bwb1wc.out.frozen 1; have dwb1wc2 := Bwb1wc.out.frozen 2; have lwb1wc := Bwb1wc.out.lt)); (try (have nwbwc : ¬ wb.heap.size = wc.heap.size := by omega; have mwbwc : ¬ wc.heap.size = wb.heap.size := by omega)); clear hb2)
        | (go_at_call 10; refine (toNum_c neg up dn _).mono ?_; rintro e wb ⟨rfl, hb1⟩; have HBwb : Hid (Below w2.heap.size w2 wb) := bel_go (by repeat' first | exact HBnone.out | exact Below.refl _ _ | refine belA ?_ | refine bel_drew ?_) hb1; have ewb00 : wb.cell? ⟨w.heap.size, 0, none⟩ = some (.bool neg) := cell_on HBwb.out k00; have ewb01 : wb.cell? ⟨w.heap.size, 1, none⟩ = some (.string up) := cell_on HBwb.out k01; have ewb02 : wb.cell? ⟨w.heap.size, 2, none⟩ = some (.string dn) := cell_on HBwb.out k02; have ewb10 : wb.cell? ⟨w.heap.size + 1, 0, none⟩ = some (.bool neg2) := cell_on HBwb.out k10; have ewb11 : wb.cell? ⟨w.heap.size + 1, 1, none⟩ = some (.string up2) := cell_on HBwb.out k11; have ewb12 : wb.cell? ⟨w.heap.size + 1, 2, none⟩ = some (.string dn2) := cell_on HBwb.out k12; have hswb := HBwb.out.size; (try (have Bw20wb : Hid (boxAt wb (w2.heap.size) #[Value.bool false, Value.string ⟨#[]⟩, Value.string ⟨#[]⟩] 25) := by first | exact boxAt.on (nb1 w2) hb1 | exact boxAt.on (nb2 w2) hb1 | exact boxAt.on (nb1 w2).drew hb1 | exact boxAt.on (nb2 w2).drew hb1)); (try (have cw20wb0 := Bw20wb.out.cell 0 rfl; have cw20wb1 := Bw20wb.out.cell 1 rfl; have cw20wb2 := Bw20wb.out.cell 2 rfl; have dw20wb0 := Bw20wb.out.frozen 0; have dw20wb1 := Bw20wb.out.frozen 1; have dw20wb2 := Bw20wb.out.frozen 2; have lw20wb := Bw20wb.out.lt)); (try (have Bw21wb : Hid (boxAt wb (w2.heap.size + 1) #[Value.bool false, Value.string ⟨#[]⟩, Value.string ⟨#[]⟩] 25) := by first | exact boxAt.on (nb3 w2) hb1 | exact boxAt.on (nb3 w2).drew hb1)); (try (have cw21wb0 := Bw21wb.out.cell 0 rfl; have cw21wb1 := Bw21wb.out.cell 1 rfl; have cw21wb2 := Bw21wb.out.cell 2 rfl; have dw21wb0 := Bw21wb.out.frozen 0; have dw21wb1 := Bw21wb.out.frozen 1; have dw21wb2 := Bw21wb.out.frozen 2; have lw21wb := Bw21wb.out.lt)); (try (have nw2wb : ¬ w2.heap.size = wb.heap.size := by omega; have mw2wb : ¬ wb.heap.size = w2.heap.size := by omega)); clear hb1)
        | (go_at_call 9; refine (HS.out _).mono ?_; rintro e wd ⟨rfl, hb3⟩; have HBwd : Hid (Below w2.heap.size w2 wd) := bel_go (by repeat' first | exact HBwc.out | exact Below.refl _ _ | refine belA ?_ | refine bel_drew ?_) hb3; have ewd00 : wd.cell? ⟨w.heap.size, 0, none⟩ = some (.bool neg) := cell_on HBwd.out k00; have ewd01 : wd.cell? ⟨w.heap.size, 1, none⟩ = some (.string up) := cell_on HBwd.out k01; have ewd02 : wd.cell? ⟨w.heap.size, 2, none⟩ = some (.string dn) := cell_on HBwd.out k02; have ewd10 : wd.cell? ⟨w.heap.size + 1, 0, none⟩ = some (.bool neg2) := cell_on HBwd.out k10; have ewd11 : wd.cell? ⟨w.heap.size + 1, 1, none⟩ = some (.string up2) := cell_on HBwd.out k11; have ewd12 : wd.cell? ⟨w.heap.size + 1, 2, none⟩ = some (.string dn2) := cell_on HBwd.out k12; have hswd := HBwd.out.size; (try (have Bw20wd : Hid (boxAt wd (w2.heap.size) #[Value.bool false, Value.string ⟨#[]⟩, Value.string ⟨#[]⟩] 25) := by first | exact boxAt.on Bw20wc.out hb3 | exact boxAt.on (Bw20wc.out.alloc _) hb3)); (try (have cw20wd0 := Bw20wd.out.cell 0 rfl; have cw20wd1 := Bw20wd.out.cell 1 rfl; have cw20wd2 := Bw20wd.out.cell 2 rfl; have dw20wd0 := Bw20wd.out.frozen 0; have dw20wd1 := Bw20wd.out.frozen 1; have dw20wd2 := Bw20wd.out.frozen 2; have lw20wd := Bw20wd.out.lt)); (try (have Bw21wd : Hid (boxAt wd (w2.heap.size + 1) #[Value.bool false, Value.string ⟨#[]⟩, Value.string ⟨#[]⟩] 25) := by first | exact boxAt.on Bw21wc.out hb3 | exact boxAt.on (Bw21wc.out.alloc _) hb3)); (try (have cw21wd0 := Bw21wd.out.cell 0 rfl; have cw21wd1 := Bw21wd.out.cell 1 rfl; have cw21wd2 := Bw21wd.out.cell 2 rfl; have dw21wd0 := Bw21wd.out.frozen 0; have dw21wd1 := Bw21wd.out.frozen 1; have dw21wd2 := Bw21wd.out.frozen 2; have lw21wd := Bw21wd.out.lt)); (try (have nw2wd : ¬ w2.heap.size = wd.heap.size := by omega; have mw2wd : ¬ wd.heap.size = w2.heap.size := by omega)); (try (have Bwb0wd : Hid (boxAt wd (wb.heap.size) #[Value.bool false, Value.string ⟨#[]⟩, Value.string ⟨#[]⟩] 25) := by first | exact boxAt.on Bwb0wc.out hb3 | exact boxAt.on (Bwb0wc.out.alloc _) hb3)); (try (have cwb0wd0 := Bwb0wd.out.cell 0 rfl; have cwb0wd1 := Bwb0wd.out.cell 1 rfl; have cwb0wd2 := Bwb0wd.out.cell 2 rfl; have dwb0wd0 := Bwb0wd.out.frozen 0; have dwb0wd1 := Bwb0wd.out.frozen 1; have dwb0wd2 := Bwb0wd.out.frozen 2; have lwb0wd := Bwb0wd.out.lt)); (try (have Bwb1wd : Hid (boxAt wd (wb.heap.size + 1) #[Value.bool false, Value.string ⟨#[]⟩, Value.string ⟨#[]⟩] 25) := by first | exact boxAt.on Bwb1wc.out hb3 | exact boxAt.on (Bwb1wc.out.alloc _) hb3)); (try (have cwb1wd0 := Bwb1wd.out.cell 0 rfl; have cwb1wd1 := Bwb1wd.out.cell 1 rfl; have cwb1wd2 := Bwb1wd.out.cell 2 rfl; have dwb1wd0 := Bwb1wd.out.frozen 0; have dwb1wd1 := Bwb1wd.out.frozen 1; have dwb1wd2 := Bwb1wd.out.frozen 2; have lwb1wd := Bwb1wd.out.lt)); (try (have nwbwd : ¬ wb.heap.size = wd.heap.size := by omega; have mwbwd : ¬ wd.heap.size = wb.heap.size := by omega)); (try (have Bwc0wd : Hid (boxAt wd (wc.heap.size) #[Value.bool false, Value.string ⟨#[]⟩, Value.string ⟨#[]⟩] 25) := by first | exact boxAt.on (nb1 wc) hb3 | exact boxAt.on (nb2 wc) hb3)); (try (have cwc0wd0 := Bwc0wd.out.cell 0 rfl; have cwc0wd1 := Bwc0wd.out.cell 1 rfl; have cwc0wd2 := Bwc0wd.out.cell 2 rfl; have dwc0wd0 := Bwc0wd.out.frozen 0; have dwc0wd1 := Bwc0wd.out.frozen 1; have dwc0wd2 := Bwc0wd.out.frozen 2; have lwc0wd := Bwc0wd.out.lt)); (try (have Bwc1wd : Hid (boxAt wd (wc.heap.size + 1) #[Value.bool false, Value.string ⟨#[]⟩, Value.string ⟨#[]⟩] 25) := by first | exact boxAt.on (nb3 wc) hb3)); (try (have cwc1wd0 := Bwc1wd.out.cell 0 rfl; have cwc1wd1 := Bwc1wd.out.cell 1 rfl; have cwc1wd2 := Bwc1wd.out.cell 2 rfl; have dwc1wd0 := Bwc1wd.out.frozen 0; have dwc1wd1 := Bwc1wd.out.frozen 1; have dwc1wd2 := Bwc1wd.out.frozen 2; have lwc1wd := Bwc1wd.out.lt)); (try (have nwcwd : ¬ wc.heap.size = wd.heap.size := by omega; have mwcwd : ¬ wd.heap.size = wc.heap.size := by omega)); clear hb3))
    all_goals
      dsimp only
      unfold Behind8 numAt
      refine ⟨_, _, rfl, ⟨⟨?_, ?_, ?_⟩, ?_, ?_, ?_⟩, ?_⟩
      · first | (go_simp; done) | (refine keep_set (keep_set (keep_set ?_ (by omega)) (by omega)) (by omega); go_simp; done)
      · first | (go_simp; done) | (refine keep_set (keep_set (keep_set ?_ (by omega)) (by omega)) (by omega); go_simp; done)
      · first | (go_simp; done) | (refine keep_set (keep_set (keep_set ?_ (by omega)) (by omega)) (by omega); go_simp; done)
      · go_simp
      · go_simp
      · go_simp
      · (repeat' first | (with_reducible exact HBwd.out) | (with_reducible refine belA ?_) | exact Nat.le_refl _ | (with_reducible refine belS ?_ ?_) | (dsimp only; omega))
  intro e a wA hq
  cases e
  case normal =>
    obtain ⟨b, b2, rfl, ⟨hnb, hnb2⟩, hbA⟩ := hq
    have NB : Hid (numAt wA b C U D) := hnb
    have NB2 : Hid (numAt wA b2 C2 U2 D2) := hnb2
    have HBA : Hid (Below w.heap.size w wA) := HB2.out.trans (hbA.mono HB2.out.size)
    have HTA : Hid (TE wA) := HT.out.on HBA.out
    have k00 : wA.cell? ⟨w.heap.size, 0, none⟩ = some (.bool neg) := cell_on hbA k00
    have k01 : wA.cell? ⟨w.heap.size, 1, none⟩ = some (.string up) := cell_on hbA k01
    have k02 : wA.cell? ⟨w.heap.size, 2, none⟩ = some (.string dn) := cell_on hbA k02
    have k10 : wA.cell? ⟨w.heap.size + 1, 0, none⟩ = some (.bool neg2) := cell_on hbA k10
    have k11 : wA.cell? ⟨w.heap.size + 1, 1, none⟩ = some (.string up2) := cell_on hbA k11
    have k12 : wA.cell? ⟨w.heap.size + 1, 2, none⟩ = some (.string dn2) := cell_on hbA k12
    have hsA := hbA.size
    clear hnb hnb2 hbA HB2 HT HS
    go_wp2_with fail
    refine Go.wp_mono (Q := fun e a' w' => match e with | .normal => Behind9 neg up dn neg2 up2 dn2 z z2 w.heap.size b b2 wA C U D C2 U2 D2 K a' w' | _ => False) ?_ ?_
    · go_region_held3 (fun w' => (w'.cell? ⟨w.heap.size, 0, none⟩ = some (.bool neg) ∧ (w'.cell? ⟨w.heap.size, 1, none⟩ = some (.string up) ∧ w'.cell? ⟨w.heap.size, 2, none⟩ = some (.string dn))) ∧ (w'.cell? ⟨w.heap.size + 1, 0, none⟩ = some (.bool neg2) ∧ (w'.cell? ⟨w.heap.size + 1, 1, none⟩ = some (.string up2) ∧ w'.cell? ⟨w.heap.size + 1, 2, none⟩ = some (.string dn2))))
        ((repeat' apply And.intro) <;> (repeat' first | (with_reducible assumption) | (with_reducible refine keep_set ?_ ?_) | (with_reducible refine keep_alloc ?_) | (with_reducible refine keep_drew ?_) | omega) <;> done)
        (first
          | (go_at_call_of 10 (Value.string dn2); refine (toNum_c neg2 up2 dn2 _).mono ?_; rintro e wg ⟨rfl, hb2⟩; have HBwg : Hid (Below wA.heap.size wA wg) := bel_go (by repeat' first | exact HBwf.out | exact Below.refl _ _ | refine belA ?_ | refine bel_drew ?_) hb2; have ewg00 : wg.cell? ⟨w.heap.size, 0, none⟩ = some (.bool neg) := cell_on HBwg.out k00; have ewg01 : wg.cell? ⟨w.heap.size, 1, none⟩ = some (.string up) := cell_on HBwg.out k01; have ewg02 : wg.cell? ⟨w.heap.size, 2, none⟩ = some (.string dn) := cell_on HBwg.out k02; have ewg10 : wg.cell? ⟨w.heap.size + 1, 0, none⟩ = some (.bool neg2) := cell_on HBwg.out k10; have ewg11 : wg.cell? ⟨w.heap.size + 1, 1, none⟩ = some (.string up2) := cell_on HBwg.out k11; have ewg12 : wg.cell? ⟨w.heap.size + 1, 2, none⟩ = some (.string dn2) := cell_on HBwg.out k12; have hswg := HBwg.out.size; (try (have BwA0wg : Hid (boxAt wg (wA.heap.size) #[Value.bool false, Value.string ⟨#[]⟩, Value.string ⟨#[]⟩] 25) := by first | exact boxAt.on BwA0wf.out hb2 | exact boxAt.on (BwA0wf.out.alloc _) hb2)); (try (have cwA0wg0 := BwA0wg.out.cell 0 rfl; have cwA0wg1 := BwA0wg.out.cell 1 rfl; have cwA0wg2 := BwA0wg.out.cell 2 rfl; have dwA0wg0 := BwA0wg.out.frozen 0; have dwA0wg1 := BwA0wg.out.frozen 1; have dwA0wg2 := BwA0wg.out.frozen 2; have lwA0wg := BwA0wg.out.lt)); (try (have BwA1wg : Hid (boxAt wg (wA.heap.size + 1) #[Value.bool false, Value.string ⟨#[]⟩, Value.string ⟨#[]⟩] 25) := by first | exact boxAt.on BwA1wf.out hb2 | exact boxAt.on (BwA1wf.out.alloc _) hb2)); (try (have cwA1wg0 := BwA1wg.out.cell 0 rfl; have cwA1wg1 := BwA1wg.out.cell 1 rfl; have cwA1wg2 := BwA1wg.out.cell 2 rfl; have dwA1wg0 := BwA1wg.out.frozen 0; have dwA1wg1 := BwA1wg.out.frozen 1; have dwA1wg2 := BwA1wg.out.frozen 2; have lwA1wg := BwA1wg.out.lt)); (try (have nwAwg : ¬ wA.heap.size = wg.heap.size := by omega; have mwAwg : ¬ wg.heap.size = wA.heap.size := by omega)); (try (have Bwf0wg : Hid (boxAt wg (wf.heap.size) #[Value.bool false, Value.string ⟨#[]⟩, Value.string ⟨#[]⟩] 25) := by first | exact boxAt.on (nb1 wf) hb2 | exact boxAt.on (nb2 wf) hb2)); (try (have cwf0wg0 := Bwf0wg.out.cell 0 rfl; have cwf0wg1 := Bwf0wg.out.cell 1 rfl; have cwf0wg2 := Bwf0wg.out.cell 2 rfl; have dwf0wg0 := Bwf0wg.out.frozen 0; have dwf0wg1 := Bwf0wg.out.frozen 1; have dwf0wg2 := Bwf0wg.out.frozen 2; have lwf0wg := Bwf0wg.out.lt)); (try (have Bwf1wg : Hid (boxAt wg (wf.heap.size + 1) #[Value.bool false, Value.string ⟨#[]⟩, Value.string ⟨#[]⟩] 25) := by first | exact boxAt.on (nb3 wf) hb2)); (try (have cwf1wg0 := Bwf1wg.out.cell 0 rfl; have cwf1wg1 := Bwf1wg.out.cell 1 rfl; have cwf1wg2 := Bwf1wg.out.cell 2 rfl; have dwf1wg0 := Bwf1wg.out.frozen 0; have dwf1wg1 := Bwf1wg.out.frozen 1; have dwf1wg2 := Bwf1wg.out.frozen 2; have lwf1wg := Bwf1wg.out.lt)); (try (have nwfwg : ¬ wf.heap.size = wg.heap.size := by omega; have mwfwg : ¬ wg.heap.size = wf.heap.size := by omega)); clear hb2)
          | (go_at_call 10; refine (toNum_c neg up dn _).mono ?_; rintro e wf ⟨rfl, hb1⟩; have HBwf : Hid (Below wA.heap.size wA wf) := bel_go (by repeat' first | exact HBnone.out | exact Below.refl _ _ | refine belA ?_ | refine bel_drew ?_) hb1; have ewf00 : wf.cell? ⟨w.heap.size, 0, none⟩ = some (.bool neg) := cell_on HBwf.out k00; have ewf01 : wf.cell? ⟨w.heap.size, 1, none⟩ = some (.string up) := cell_on HBwf.out k01; have ewf02 : wf.cell? ⟨w.heap.size, 2, none⟩ = some (.string dn) := cell_on HBwf.out k02; have ewf10 : wf.cell? ⟨w.heap.size + 1, 0, none⟩ = some (.bool neg2) := cell_on HBwf.out k10; have ewf11 : wf.cell? ⟨w.heap.size + 1, 1, none⟩ = some (.string up2) := cell_on HBwf.out k11; have ewf12 : wf.cell? ⟨w.heap.size + 1, 2, none⟩ = some (.string dn2) := cell_on HBwf.out k12; have hswf := HBwf.out.size; (try (have BwA0wf : Hid (boxAt wf (wA.heap.size) #[Value.bool false, Value.string ⟨#[]⟩, Value.string ⟨#[]⟩] 25) := by first | exact boxAt.on (nb1 wA) hb1 | exact boxAt.on (nb2 wA) hb1 | exact boxAt.on (nb1 wA).drew hb1 | exact boxAt.on (nb2 wA).drew hb1)); (try (have cwA0wf0 := BwA0wf.out.cell 0 rfl; have cwA0wf1 := BwA0wf.out.cell 1 rfl; have cwA0wf2 := BwA0wf.out.cell 2 rfl; have dwA0wf0 := BwA0wf.out.frozen 0; have dwA0wf1 := BwA0wf.out.frozen 1; have dwA0wf2 := BwA0wf.out.frozen 2; have lwA0wf := BwA0wf.out.lt)); (try (have BwA1wf : Hid (boxAt wf (wA.heap.size + 1) #[Value.bool false, Value.string ⟨#[]⟩, Value.string ⟨#[]⟩] 25) := by first | exact boxAt.on (nb3 wA) hb1 | exact boxAt.on (nb3 wA).drew hb1)); (try (have cwA1wf0 := BwA1wf.out.cell 0 rfl; have cwA1wf1 := BwA1wf.out.cell 1 rfl; have cwA1wf2 := BwA1wf.out.cell 2 rfl; have dwA1wf0 := BwA1wf.out.frozen 0; have dwA1wf1 := BwA1wf.out.frozen 1; have dwA1wf2 := BwA1wf.out.frozen 2; have lwA1wf := BwA1wf.out.lt)); (try (have nwAwf : ¬ wA.heap.size = wf.heap.size := by omega; have mwAwf : ¬ wf.heap.size = wA.heap.size := by omega)); clear hb1)
          | (go_at_call 11; refine (HI.out _ (HTA.out.on (by repeat' first | exact HBwg.out | refine belA ?_ | refine bel_drew ?_))).mono ?_; rintro e wh ⟨rfl, hb3⟩; have HBwh : Hid (Below wA.heap.size wA wh) := bel_go (by repeat' first | exact HBwg.out | exact Below.refl _ _ | refine belA ?_ | refine bel_drew ?_) hb3; have ewh00 : wh.cell? ⟨w.heap.size, 0, none⟩ = some (.bool neg) := cell_on HBwh.out k00; have ewh01 : wh.cell? ⟨w.heap.size, 1, none⟩ = some (.string up) := cell_on HBwh.out k01; have ewh02 : wh.cell? ⟨w.heap.size, 2, none⟩ = some (.string dn) := cell_on HBwh.out k02; have ewh10 : wh.cell? ⟨w.heap.size + 1, 0, none⟩ = some (.bool neg2) := cell_on HBwh.out k10; have ewh11 : wh.cell? ⟨w.heap.size + 1, 1, none⟩ = some (.string up2) := cell_on HBwh.out k11; have ewh12 : wh.cell? ⟨w.heap.size + 1, 2, none⟩ = some (.string dn2) := cell_on HBwh.out k12; have hswh := HBwh.out.size; (try (have BwA0wh : Hid (boxAt wh (wA.heap.size) #[Value.bool false, Value.string ⟨#[]⟩, Value.string ⟨#[]⟩] 25) := by first | exact boxAt.on BwA0wg.out hb3 | exact boxAt.on (BwA0wg.out.alloc _) hb3)); (try (have cwA0wh0 := BwA0wh.out.cell 0 rfl; have cwA0wh1 := BwA0wh.out.cell 1 rfl; have cwA0wh2 := BwA0wh.out.cell 2 rfl; have dwA0wh0 := BwA0wh.out.frozen 0; have dwA0wh1 := BwA0wh.out.frozen 1; have dwA0wh2 := BwA0wh.out.frozen 2; have lwA0wh := BwA0wh.out.lt)); (try (have BwA1wh : Hid (boxAt wh (wA.heap.size + 1) #[Value.bool false, Value.string ⟨#[]⟩, Value.string ⟨#[]⟩] 25) := by first | exact boxAt.on BwA1wg.out hb3 | exact boxAt.on (BwA1wg.out.alloc _) hb3)); (try (have cwA1wh0 := BwA1wh.out.cell 0 rfl; have cwA1wh1 := BwA1wh.out.cell 1 rfl; have cwA1wh2 := BwA1wh.out.cell 2 rfl; have dwA1wh0 := BwA1wh.out.frozen 0; have dwA1wh1 := BwA1wh.out.frozen 1; have dwA1wh2 := BwA1wh.out.frozen 2; have lwA1wh := BwA1wh.out.lt)); (try (have nwAwh : ¬ wA.heap.size = wh.heap.size := by omega; have mwAwh : ¬ wh.heap.size = wA.heap.size := by omega)); (try (have Bwf0wh : Hid (boxAt wh (wf.heap.size) #[Value.bool false, Value.string ⟨#[]⟩, Value.string ⟨#[]⟩] 25) := by first | exact boxAt.on Bwf0wg.out hb3 | exact boxAt.on (Bwf0wg.out.alloc _) hb3)); (try (have cwf0wh0 := Bwf0wh.out.cell 0 rfl; have cwf0wh1 := Bwf0wh.out.cell 1 rfl; have cwf0wh2 := Bwf0wh.out.cell 2 rfl; have dwf0wh0 := Bwf0wh.out.frozen 0; have dwf0wh1 := Bwf0wh.out.frozen 1; have dwf0wh2 := Bwf0wh.out.frozen 2; have lwf0wh := Bwf0wh.out.lt)); (try (have Bwf1wh : Hid (boxAt wh (wf.heap.size + 1) #[Value.bool false, Value.string ⟨#[]⟩, Value.string ⟨#[]⟩] 25) := by first | exact boxAt.on Bwf1wg.out hb3 | exact boxAt.on (Bwf1wg.out.alloc _) hb3)); (try (have cwf1wh0 := Bwf1wh.out.cell 0 rfl; have cwf1wh1 := Bwf1wh.out.cell 1 rfl; have cwf1wh2 := Bwf1wh.out.cell 2 rfl; have dwf1wh0 := Bwf1wh.out.frozen 0; have dwf1wh1 := Bwf1wh.out.frozen 1; have dwf1wh2 := Bwf1wh.out.frozen 2; have lwf1wh := Bwf1wh.out.lt)); (try (have nwfwh : ¬ wf.heap.size = wh.heap.size := by omega; have mwfwh : ¬ wh.heap.size = wf.heap.size := by omega)); (try (have Bwg0wh : Hid (boxAt wh (wg.heap.size) #[Value.bool false, Value.string ⟨#[]⟩, Value.string ⟨#[]⟩] 25) := by first | exact boxAt.on (nb1 wg) hb3 | exact boxAt.on (nb2 wg) hb3)); (try (have cwg0wh0 := Bwg0wh.out.cell 0 rfl; have cwg0wh1 := Bwg0wh.out.cell 1 rfl; have cwg0wh2 := Bwg0wh.out.cell 2 rfl; have dwg0wh0 := Bwg0wh.out.frozen 0; have dwg0wh1 := Bwg0wh.out.frozen 1; have dwg0wh2 := Bwg0wh.out.frozen 2; have lwg0wh := Bwg0wh.out.lt)); (try (have Bwg1wh : Hid (boxAt wh (wg.heap.size + 1) #[Value.bool false, Value.string ⟨#[]⟩, Value.string ⟨#[]⟩] 25) := by first | exact boxAt.on (nb3 wg) hb3)); (try (have cwg1wh0 := Bwg1wh.out.cell 0 rfl; have cwg1wh1 := Bwg1wh.out.cell 1 rfl; have cwg1wh2 := Bwg1wh.out.cell 2 rfl; have dwg1wh0 := Bwg1wh.out.frozen 0; have dwg1wh1 := Bwg1wh.out.frozen 1; have dwg1wh2 := Bwg1wh.out.frozen 2; have lwg1wh := Bwg1wh.out.lt)); (try (have nwgwh : ¬ wg.heap.size = wh.heap.size := by omega; have mwgwh : ¬ wh.heap.size = wg.heap.size := by omega)); clear hb3))
      all_goals
        dsimp only
        unfold Behind9 numAt
        refine ⟨_, _, rfl, ⟨⟨?_, ?_, ?_⟩, ?_, ?_, ?_⟩, ?_⟩
        · first | (go_simp; done) | (refine keep_set (keep_set (keep_set ?_ (by omega)) (by omega)) (by omega); go_simp; done)
        · first | (go_simp; done) | (refine keep_set (keep_set (keep_set ?_ (by omega)) (by omega)) (by omega); go_simp; done)
        · first | (go_simp; done) | (refine keep_set (keep_set (keep_set ?_ (by omega)) (by omega)) (by omega); go_simp; done)
        · go_simp
        · go_simp
        · go_simp
        · (repeat' first | (with_reducible exact HBwh.out) | (with_reducible refine belA ?_) | exact Nat.le_refl _ | (with_reducible refine belS ?_ ?_) | (dsimp only; omega))
    intro e a wE hq
    cases e
    case normal =>
      obtain ⟨c, c2, rfl, ⟨⟨c0, c1, c3⟩, c4, c5, c6⟩, hbE⟩ := hq
      obtain ⟨b0, b1, b3⟩ := NB.out.on hbE
      have HBE : Hid (Below w.heap.size w wE) := HBA.out.trans (hbE.mono HBA.out.size)
      have N1 : Hid (numAt wE c2 C2 U2 D2) := ⟨c4, c5, c6⟩
      have N2 : Hid (numAt wE b2 C2 U2 D2) := NB2.out.on hbE
      clear hbE k00 k01 k02 k10 k11 k12 c4 c5 c6 NB NB2
      go_wp2_with fail
      refine (eqNum_same C U D _).mono ?_
      rintro e wF ⟨rfl, hbF⟩
      have HBF : Hid (Below w.heap.size w wF) := HBE.out.trans (hbF.mono HBE.out.size)
      obtain ⟨c4, c5, c6⟩ := N1.out.on hbF
      obtain ⟨b4, b5, b6⟩ := N2.out.on hbF
      clear hbF c0 c1 c3 b0 b1 b3 N1 N2
      go_wp2_with fail
      refine (eqNum_same C2 U2 D2 _).mono ?_
      rintro e wG ⟨rfl, hbG⟩
      have HBG : Hid (Below w.heap.size w wG) := HBF.out.trans (hbG.mono HBF.out.size)
      clear hbG
      go_wp2
      go_ret
      exact ⟨rfl, HBG.out⟩
    all_goals exact hq.elim
  all_goals exact hq.elim

end Go.Proofs.YtaggfbffdbompaaDoor
