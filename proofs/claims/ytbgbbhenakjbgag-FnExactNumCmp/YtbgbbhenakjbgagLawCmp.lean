/-
  The law: the program's NumCmp and the specification's answer alike.
-/
import Derived.Test.YtbgbbhenakjbgagLaw0
import Derived.Test.YtbgbbhenakjbgagSpecCmp
namespace Go.Proofs.Ytbgbbhenakjbgag
set_option maxRecDepth 100000
set_option linter.unusedVariables false
set_option linter.unusedSimpArgs false
open Go.RowKit
attribute [local go_sem ↓] Go.wp_at_zero Go.wp_at_succ

set_option maxHeartbeats 2000000 in
theorem lawCmp_any (neg : Bool) (up dn : ByteArray) (neg2 : Bool) (up2 dn2 : ByteArray) (w : World) (hu : up.size ≤ maxLen) (hd : dn.size ≤ maxLen) (hu2 : up2.size ≤ maxLen) (hd2 : dn2.size ≤ maxLen) :
    Calls Try.prog 6 #[.agg #[.bool neg, .string up, .string dn], .agg #[.bool neg2, .string up2, .string dn2]] w fun e w' => e = .returned (.bool true) ∧ Below w.heap.size w w' := by
  go_enter Try.func6, Try.ntmps6
  go_wp2_with fail
  obtain ⟨W, hW, hBW, x0, x1⟩ := boxes2 w #[Value.bool neg, Value.string up, Value.string dn] #[Value.bool neg2, Value.string up2, Value.string dn2] 31 31
  rw [← hW]
  have HBW : Hid (Below w.heap.size w W) := hBW
  have X0 : Hid (boxAt W _ _ _) := x0
  have X1 : Hid (boxAt W _ _ _) := x1
  clear hW hBW x0 x1
  refine (szNum_c neg up dn 1048576 _ (by omega) (by omega) hu hd).mono ?_
  rintro e w1 ⟨⟨z, rfl, hzl, _⟩, hb1⟩
  have HB1 : Hid (Below w.heap.size w w1) := HBW.out.trans (hb1.mono HBW.out.size)
  have Y0 : Hid (boxAt w1 _ _ _) := X0.out.on hb1
  have Y1 : Hid (boxAt w1 _ _ _) := X1.out.on hb1
  clear hb1 X0 X1 HBW
  have k10 := Y1.out.cell 0 rfl
  have k11 := Y1.out.cell 1 rfl
  have k12 := Y1.out.cell 2 rfl
  by_cases h0 : z < 0
  · go_wp2
    go_ret
    exact ⟨rfl, HB1.out⟩
  go_wp2_with fail
  refine (szNum_c neg2 up2 dn2 z _ (by omega) (by omega) hu2 hd2).mono ?_
  rintro e w2 ⟨⟨z2, rfl, hzl2, _⟩, hb2⟩
  have HB2 : Hid (Below w.heap.size w w2) := HB1.out.trans (hb2.mono HB1.out.size)
  have X0 : Hid (boxAt w2 _ _ _) := Y0.out.on hb2
  have X1 : Hid (boxAt w2 _ _ _) := Y1.out.on hb2
  clear hb2 Y0 Y1 HB1 k10 k11 k12
  by_cases h1 : z2 < 0
  · go_wp2
    go_ret
    exact ⟨rfl, HB2.out⟩
  have k00 := X0.out.cell 0 rfl
  have k01 := X0.out.cell 1 rfl
  have k02 := X0.out.cell 2 rfl
  have k10 := X1.out.cell 0 rfl
  have k11 := X1.out.cell 1 rfl
  have k12 := X1.out.cell 2 rfl
  go_wp2_with fail
  go_region_held3 (fun w' => (w'.cell? ⟨w.heap.size, 0, none⟩ = some (.bool neg) ∧ (w'.cell? ⟨w.heap.size, 1, none⟩ = some (.string up) ∧ w'.cell? ⟨w.heap.size, 2, none⟩ = some (.string dn))) ∧ (w'.cell? ⟨w.heap.size + 1, 0, none⟩ = some (.bool neg2) ∧ (w'.cell? ⟨w.heap.size + 1, 1, none⟩ = some (.string up2) ∧ w'.cell? ⟨w.heap.size + 1, 2, none⟩ = some (.string dn2))))
    ((repeat' apply And.intro) <;> first | assumption | (go_keep; done))
    (first
      | (go_at_call_of 18 (Value.string up); refine (toNum_c neg up dn _).mono ?_; rintro e w3 ⟨rfl, hb3⟩; have HB3 : Hid (Below w.heap.size w w3) := (HB2.out.trans ((below_drew w2).mono HB2.out.size)).trans (hb3.mono HB2.out.size)
         have X03 : Hid (boxAt w3 _ _ _) := X0.out.drew.on hb3; have X13 : Hid (boxAt w3 _ _ _) := X1.out.drew.on hb3
         have p30 := X03.out.cell 0 rfl; have p31 := X03.out.cell 1 rfl; have p32 := X03.out.cell 2 rfl; have q30 := X13.out.cell 0 rfl; have q31 := X13.out.cell 1 rfl; have q32 := X13.out.cell 2 rfl; clear hb3)
      | (go_at_call_of 18 (Value.string up2); refine (toNum_c neg2 up2 dn2 _).mono ?_; rintro e w4 ⟨rfl, hb4⟩; have HB4 : Hid (Below w.heap.size w w4) := HB3.out.trans (hb4.mono HB3.out.size)
         have X04 : Hid (boxAt w4 _ _ _) := X03.out.on hb4; have X14 : Hid (boxAt w4 _ _ _) := X13.out.on hb4
         have p40 := X04.out.cell 0 rfl; have p41 := X04.out.cell 1 rfl; have p42 := X04.out.cell 2 rfl; have q40 := X14.out.cell 0 rfl; have q41 := X14.out.cell 1 rfl; have q42 := X14.out.cell 2 rfl; clear hb4)
      | (go_at_call 20; refine (specCmp_any neg up dn neg2 up2 dn2 _ hu hd hu2 hd2).mono ?_; rintro e w5 ⟨rfl, hb5⟩; have HB5 : Hid (Below w.heap.size w w5) := HB4.out.trans (hb5.mono HB4.out.size)
         have X05 : Hid (boxAt w5 _ _ _) := X04.out.on hb5; have X15 : Hid (boxAt w5 _ _ _) := X14.out.on hb5
         have p50 := X05.out.cell 0 rfl; have p51 := X05.out.cell 1 rfl; have p52 := X05.out.cell 2 rfl; have q50 := X15.out.cell 0 rfl; have q51 := X15.out.cell 1 rfl; have q52 := X15.out.cell 2 rfl; clear hb5))
  clear p30 p31 p32 q30 q31 q32 p40 p41 p42 q40 q41 q42 k00 k01 k02 k10 k11 k12
  go_wp2_with fail
  go_region_held3 (fun w' => (w'.cell? ⟨w.heap.size, 0, none⟩ = some (.bool neg) ∧ (w'.cell? ⟨w.heap.size, 1, none⟩ = some (.string up) ∧ w'.cell? ⟨w.heap.size, 2, none⟩ = some (.string dn))) ∧ (w'.cell? ⟨w.heap.size + 1, 0, none⟩ = some (.bool neg2) ∧ (w'.cell? ⟨w.heap.size + 1, 1, none⟩ = some (.string up2) ∧ w'.cell? ⟨w.heap.size + 1, 2, none⟩ = some (.string dn2))))
    ((repeat' apply And.intro) <;> first | assumption | (go_keep; done))
    (first
      | (go_at_call_of 18 (Value.string up); refine (toNum_c neg up dn _).mono ?_; rintro e w6 ⟨rfl, hb6⟩; have HB6 : Hid (Below w.heap.size w w6) := (HB5.out.trans ((below_drew w5).mono HB5.out.size)).trans (hb6.mono HB5.out.size)
         have X06 : Hid (boxAt w6 _ _ _) := X05.out.drew.on hb6; have X16 : Hid (boxAt w6 _ _ _) := X15.out.drew.on hb6
         have p60 := X06.out.cell 0 rfl; have p61 := X06.out.cell 1 rfl; have p62 := X06.out.cell 2 rfl; have q60 := X16.out.cell 0 rfl; have q61 := X16.out.cell 1 rfl; have q62 := X16.out.cell 2 rfl; clear hb6)
      | (go_at_call_of 18 (Value.string up2); refine (toNum_c neg2 up2 dn2 _).mono ?_; rintro e w7 ⟨rfl, hb7⟩; have HB7 : Hid (Below w.heap.size w w7) := HB6.out.trans (hb7.mono HB6.out.size)
         have X07 : Hid (boxAt w7 _ _ _) := X06.out.on hb7; have X17 : Hid (boxAt w7 _ _ _) := X16.out.on hb7
         have p70 := X07.out.cell 0 rfl; have p71 := X07.out.cell 1 rfl; have p72 := X07.out.cell 2 rfl; have q70 := X17.out.cell 0 rfl; have q71 := X17.out.cell 1 rfl; have q72 := X17.out.cell 2 rfl; clear hb7)
      | (go_at_call 21; refine (implCmp_any neg up dn neg2 up2 dn2 _ hu hd hu2 hd2).mono ?_; rintro e w8 ⟨rfl, hb8⟩; have HB8 : Hid (Below w.heap.size w w8) := HB7.out.trans (hb8.mono HB7.out.size)
         have X08 : Hid (boxAt w8 _ _ _) := X07.out.on hb8; have X18 : Hid (boxAt w8 _ _ _) := X17.out.on hb8
         have p80 := X08.out.cell 0 rfl; have p81 := X08.out.cell 1 rfl; have p82 := X08.out.cell 2 rfl; have q80 := X18.out.cell 0 rfl; have q81 := X18.out.cell 1 rfl; have q82 := X18.out.cell 2 rfl; clear hb8))
  go_wp2
  go_ret
  exact ⟨rfl, HB8.out⟩

end Go.Proofs.Ytbgbbhenakjbgag
