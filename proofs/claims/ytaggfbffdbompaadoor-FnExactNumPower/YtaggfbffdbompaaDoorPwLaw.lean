/-
  The law: the program's NumPower and the specification's answer alike.
-/
import Derived.Test.YtaggfbffdbompaaDoorPwBoth
namespace Go.Proofs.YtaggfbffdbompaaDoor
set_option maxRecDepth 100000
set_option linter.unusedVariables false
set_option linter.unusedSimpArgs false
open Go.RowKit
attribute [local go_sem ↓] Go.wp_at_zero Go.wp_at_succ

set_option maxHeartbeats 4000000 in
theorem lawNumPower (neg : Bool) (up dn : ByteArray) (k : Int) (w : World) (hu : up.size ≤ maxLen) (hd : dn.size ≤ maxLen) (htab : TE w) :
    Calls Tryd.prog 6 #[.agg #[.bool neg, .string up, .string dn], .int .i64 k] w fun e w' => e = .returned (.bool true) ∧ Below w.heap.size w w' := by
  obtain ⟨C, U, D, K, hI, hS⟩ := bothNumPower neg up dn k hu hd
  unfold Ans at hI hS
  have HI : Hid _ := hI
  have HS : Hid _ := hS
  have HT : Hid (TE w) := htab
  clear hI hS htab
  go_enter Tryd.func6, Tryd.ntmps6
  go_wp2_with fail
  obtain ⟨W, hW, hBW, x0⟩ := box1 w #[Value.bool neg, Value.string up, Value.string dn] 23
  rw [← hW]
  have HBW : Hid (Below w.heap.size w W) := hBW
  have X0 : Hid (boxAt W _ _ _) := x0
  clear hW hBW x0
  refine (szNum_c neg up dn 1048576 _ (by omega) (by omega) hu hd).mono ?_
  rintro e w1 ⟨⟨z, rfl, hzl, _⟩, hb1⟩
  have HB1 : Hid (Below w.heap.size w w1) := HBW.out.trans (hb1.mono HBW.out.size)
  have Y0 : Hid (boxAt w1 _ _ _) := X0.out.on hb1
  clear hb1 X0 HBW
  have k10 := Y0.out.cell 0 rfl
  have k11 := Y0.out.cell 1 rfl
  have k12 := Y0.out.cell 2 rfl
  by_cases h0 : z < 0
  · go_wp2
    go_ret
    exact ⟨rfl, HB1.out⟩
  go_wp2_with fail
  refine (toNum_c neg up dn _).mono ?_
  rintro e w2 ⟨rfl, hb2⟩
  have HB2 : Hid (Below w.heap.size w w2) := HB1.out.trans (hb2.mono HB1.out.size)
  have Z0 : Hid (boxAt w2 _ _ _) := Y0.out.on hb2
  clear hb2 Y0 HB1 k10 k11 k12
  go_wp2_with fail
  refine (HS.out _).mono ?_
  rintro e w3 ⟨rfl, hb3⟩
  have HB3 : Hid (Below w.heap.size w w3) := HB2.out.trans (hb3.mono HB2.out.size)
  have V0 : Hid (boxAt w3 _ _ _) := Z0.out.on hb3
  have hlt3 := V0.out.lt
  clear hb3 Z0 HB2 HS
  have k10 := V0.out.cell 0 rfl
  have k11 := V0.out.cell 1 rfl
  have k12 := V0.out.cell 2 rfl
  have hltA : w.heap.size < w3.heap.size + 1 := by omega
  go_wp2_with fail
  obtain ⟨X, hX, hBX, x1⟩ := box1 w3 #[Value.bool C, Value.string U, Value.string D] 25
  rw [← hX]
  have HB4 : Hid (Below w.heap.size w X) := HB3.out.trans (hBX.mono HB3.out.size)
  have U0 : Hid (boxAt X _ _ _) := V0.out.on hBX
  have P1 : Hid (boxAt X _ _ _) := x1
  clear hX hBX x1 V0 HB3 k10 k11 k12
  refine (toNum_c neg up dn _).mono ?_
  rintro e w5 ⟨rfl, hb5⟩
  have HB5 : Hid (Below w.heap.size w w5) := HB4.out.trans (hb5.mono HB4.out.size)
  have Q1 : Hid (boxAt w5 _ _ _) := P1.out.on hb5
  clear hb5 U0 P1 HB4
  go_wp2_with fail
  refine (HI.out _ (HT.out.on HB5.out)).mono ?_
  rintro e w6 ⟨rfl, hb6⟩
  have HB6 : Hid (Below w.heap.size w w6) := HB5.out.trans (hb6.mono HB5.out.size)
  have R1 : Hid (boxAt w6 _ _ _) := Q1.out.on hb6
  clear hb6 Q1 HB5 HI HT
  have k10 := R1.out.cell 0 rfl
  have k11 := R1.out.cell 1 rfl
  have k12 := R1.out.cell 2 rfl
  have hltB := R1.out.lt
  have hltC : w3.heap.size < w6.heap.size := by omega
  go_wp2_with fail
  obtain ⟨Y, hY, hBY, x1⟩ := box1 w6 #[Value.bool C, Value.string U, Value.string D] 25
  rw [← hY]
  have HB7 : Hid (Below w.heap.size w Y) := HB6.out.trans (hBY.mono HB6.out.size)
  clear hY hBY x1 R1 HB6 k10 k11 k12
  refine (eqNum_same C U D _).mono ?_
  rintro e w8 ⟨rfl, hb8⟩
  have HB8 : Hid (Below w.heap.size w w8) := HB7.out.trans (hb8.mono HB7.out.size)
  clear hb8
  go_wp2
  go_ret
  exact ⟨rfl, HB8.out⟩

end Go.Proofs.YtaggfbffdbompaaDoor
