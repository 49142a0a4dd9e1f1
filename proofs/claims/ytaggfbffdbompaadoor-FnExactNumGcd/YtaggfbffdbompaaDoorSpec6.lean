/-
  Contracts of the specification's reading of two whole numbers, and of a whole number of a sign.
-/
import Derived.Test.YtaggfbffdbompaaDoorNumOf
import Derived.Test.YtaggfbffdbompaaDoorImplCmp
import Derived.Test.YtaggfbffdbompaaDoorSpecOk
import Derived.Test.YtaggfbffdbompaaDoorSpec5
namespace Go.Proofs.YtaggfbffdbompaaDoor
set_option maxRecDepth 100000
set_option linter.unusedVariables false
set_option linter.unusedSimpArgs false
open Go.RowKit
attribute [local go_sem ↓] Go.wp_at_zero Go.wp_at_succ

theorem specOk_c (neg : Bool) (up dn : ByteArray) (w : World) (b : Bool) (hu : up.size ≤ maxLen) (hd : dn.size ≤ maxLen) (h : okN neg up.data.toList dn.data.toList = b) :
    Calls Tryd.prog 34 #[.agg #[.bool neg, .string up, .string dn]] w fun e w' => e = .returned (.bool b) ∧ Below w.heap.size w w' := by
  rw [← h]; exact specNumOk_any neg up dn w hu hd

/-- The code of two numbers that ought to be whole, and the second one not nought. -/
def SCode (neg : Bool) (up dn : ByteArray) (neg2 : Bool) (up2 dn2 : ByteArray) (c : Int) : Prop :=
  ∀ w : World, Calls Tryd.prog 21 #[.agg #[.bool neg, .string up, .string dn], .agg #[.bool neg2, .string up2, .string dn2]] w fun e w' => e = .returned (.int .i64 c) ∧ Below w.heap.size w w'

set_option maxHeartbeats 1600000 in
theorem sCode_no1 (neg : Bool) (up dn : ByteArray) (neg2 : Bool) (up2 dn2 : ByteArray) (hu : up.size ≤ maxLen) (hd : dn.size ≤ maxLen) (hu2 : up2.size ≤ maxLen) (hd2 : dn2.size ≤ maxLen) (H1 : Hid (okN neg up.data.toList dn.data.toList = false)) : SCode neg up dn neg2 up2 dn2 1 := by
  intro w
  go_enter Tryd.func21, Tryd.ntmps21
  go_wp2_with fail
  obtain ⟨W, hW, hBW, x0, x1⟩ := boxes2 w #[Value.bool neg, Value.string up, Value.string dn] #[Value.bool neg2, Value.string up2, Value.string dn2] 25 25
  rw [← hW]
  have HBW : Hid (Below w.heap.size w W) := hBW
  have X0 : Hid (boxAt W _ _ _) := x0
  have X1 : Hid (boxAt W _ _ _) := x1
  clear hW hBW x0 x1
  refine (specOk_c neg up dn _ _ hu hd H1.out).mono ?_
  rintro e w3 ⟨rfl, hb3⟩
  have HB9 : Hid (Below w.heap.size w w3) := HBW.out.trans (hb3.mono HBW.out.size)
  have Y0 : Hid (boxAt w3 _ _ _) := X0.out.on hb3
  have Y1 : Hid (boxAt w3 _ _ _) := X1.out.on hb3
  clear hb3 X0 X1 HBW
  go_wp2
  go_ret
  exact ⟨rfl, HB9.out⟩

set_option maxHeartbeats 1600000 in
theorem sCode_no2 (neg : Bool) (up dn : ByteArray) (neg2 : Bool) (up2 dn2 : ByteArray) (hu : up.size ≤ maxLen) (hd : dn.size ≤ maxLen) (hu2 : up2.size ≤ maxLen) (hd2 : dn2.size ≤ maxLen) (H1 : Hid (okN neg up.data.toList dn.data.toList = true)) (H2 : Hid (okN neg2 up2.data.toList dn2.data.toList = false)) : SCode neg up dn neg2 up2 dn2 1 := by
  intro w
  go_enter Tryd.func21, Tryd.ntmps21
  go_wp2_with fail
  obtain ⟨W, hW, hBW, x0, x1⟩ := boxes2 w #[Value.bool neg, Value.string up, Value.string dn] #[Value.bool neg2, Value.string up2, Value.string dn2] 25 25
  rw [← hW]
  have HBW : Hid (Below w.heap.size w W) := hBW
  have X0 : Hid (boxAt W _ _ _) := x0
  have X1 : Hid (boxAt W _ _ _) := x1
  clear hW hBW x0 x1
  refine (specOk_c neg up dn _ _ hu hd H1.out).mono ?_
  rintro e w3 ⟨rfl, hb3⟩
  have HB9 : Hid (Below w.heap.size w w3) := HBW.out.trans (hb3.mono HBW.out.size)
  have Y0 : Hid (boxAt w3 _ _ _) := X0.out.on hb3
  have Y1 : Hid (boxAt w3 _ _ _) := X1.out.on hb3
  clear hb3 X0 X1 HBW
  have k10 := Y1.out.cell 0 rfl
  have k11 := Y1.out.cell 1 rfl
  have k12 := Y1.out.cell 2 rfl
  go_wp2_with fail
  refine (specOk_c neg2 up2 dn2 _ _ hu2 hd2 H2.out).mono ?_
  rintro e w4 ⟨rfl, hb4⟩
  have HB4 : Hid (Below w.heap.size w w4) := HB9.out.trans (hb4.mono HB9.out.size)
  have V0 : Hid (boxAt w4 _ _ _) := Y0.out.on hb4
  have V1 : Hid (boxAt w4 _ _ _) := Y1.out.on hb4
  clear hb4 k10 k11 k12 Y0 Y1 HB9
  have HB9 := HB4
  have k02 := V0.out.cell 2 rfl
  have k11 := V1.out.cell 1 rfl
  have k12 := V1.out.cell 2 rfl
  go_wp2
  go_ret
  exact ⟨rfl, HB9.out⟩

set_option maxHeartbeats 1600000 in
theorem sCode_nw1 (neg : Bool) (up dn : ByteArray) (neg2 : Bool) (up2 dn2 : ByteArray) (hu : up.size ≤ maxLen) (hd : dn.size ≤ maxLen) (hu2 : up2.size ≤ maxLen) (hd2 : dn2.size ≤ maxLen) (H1 : Hid (okN neg up.data.toList dn.data.toList = true)) (H2 : Hid (okN neg2 up2.data.toList dn2.data.toList = true)) (e1 : (dn.toList == [49]) = false) : SCode neg up dn neg2 up2 dn2 4 := by
  intro w
  go_enter Tryd.func21, Tryd.ntmps21
  go_wp2_with fail
  obtain ⟨W, hW, hBW, x0, x1⟩ := boxes2 w #[Value.bool neg, Value.string up, Value.string dn] #[Value.bool neg2, Value.string up2, Value.string dn2] 25 25
  rw [← hW]
  have HBW : Hid (Below w.heap.size w W) := hBW
  have X0 : Hid (boxAt W _ _ _) := x0
  have X1 : Hid (boxAt W _ _ _) := x1
  clear hW hBW x0 x1
  refine (specOk_c neg up dn _ _ hu hd H1.out).mono ?_
  rintro e w3 ⟨rfl, hb3⟩
  have HB9 : Hid (Below w.heap.size w w3) := HBW.out.trans (hb3.mono HBW.out.size)
  have Y0 : Hid (boxAt w3 _ _ _) := X0.out.on hb3
  have Y1 : Hid (boxAt w3 _ _ _) := X1.out.on hb3
  clear hb3 X0 X1 HBW
  have k10 := Y1.out.cell 0 rfl
  have k11 := Y1.out.cell 1 rfl
  have k12 := Y1.out.cell 2 rfl
  go_wp2_with fail
  refine (specOk_c neg2 up2 dn2 _ _ hu2 hd2 H2.out).mono ?_
  rintro e w4 ⟨rfl, hb4⟩
  have HB4 : Hid (Below w.heap.size w w4) := HB9.out.trans (hb4.mono HB9.out.size)
  have V0 : Hid (boxAt w4 _ _ _) := Y0.out.on hb4
  have V1 : Hid (boxAt w4 _ _ _) := Y1.out.on hb4
  clear hb4 k10 k11 k12 Y0 Y1 HB9
  have HB9 := HB4
  have k02 := V0.out.cell 2 rfl
  have k11 := V1.out.cell 1 rfl
  have k12 := V1.out.cell 2 rfl
  go_wp2
  go_ret
  exact ⟨rfl, HB9.out⟩

set_option maxHeartbeats 1600000 in
theorem sCode_nw2 (neg : Bool) (up dn : ByteArray) (neg2 : Bool) (up2 dn2 : ByteArray) (hu : up.size ≤ maxLen) (hd : dn.size ≤ maxLen) (hu2 : up2.size ≤ maxLen) (hd2 : dn2.size ≤ maxLen) (H1 : Hid (okN neg up.data.toList dn.data.toList = true)) (H2 : Hid (okN neg2 up2.data.toList dn2.data.toList = true)) (e1 : (dn.toList == [49]) = true) (e2 : (dn2.toList == [49]) = false) : SCode neg up dn neg2 up2 dn2 4 := by
  intro w
  go_enter Tryd.func21, Tryd.ntmps21
  go_wp2_with fail
  obtain ⟨W, hW, hBW, x0, x1⟩ := boxes2 w #[Value.bool neg, Value.string up, Value.string dn] #[Value.bool neg2, Value.string up2, Value.string dn2] 25 25
  rw [← hW]
  have HBW : Hid (Below w.heap.size w W) := hBW
  have X0 : Hid (boxAt W _ _ _) := x0
  have X1 : Hid (boxAt W _ _ _) := x1
  clear hW hBW x0 x1
  refine (specOk_c neg up dn _ _ hu hd H1.out).mono ?_
  rintro e w3 ⟨rfl, hb3⟩
  have HB9 : Hid (Below w.heap.size w w3) := HBW.out.trans (hb3.mono HBW.out.size)
  have Y0 : Hid (boxAt w3 _ _ _) := X0.out.on hb3
  have Y1 : Hid (boxAt w3 _ _ _) := X1.out.on hb3
  clear hb3 X0 X1 HBW
  have k10 := Y1.out.cell 0 rfl
  have k11 := Y1.out.cell 1 rfl
  have k12 := Y1.out.cell 2 rfl
  go_wp2_with fail
  refine (specOk_c neg2 up2 dn2 _ _ hu2 hd2 H2.out).mono ?_
  rintro e w4 ⟨rfl, hb4⟩
  have HB4 : Hid (Below w.heap.size w w4) := HB9.out.trans (hb4.mono HB9.out.size)
  have V0 : Hid (boxAt w4 _ _ _) := Y0.out.on hb4
  have V1 : Hid (boxAt w4 _ _ _) := Y1.out.on hb4
  clear hb4 k10 k11 k12 Y0 Y1 HB9
  have HB9 := HB4
  have k02 := V0.out.cell 2 rfl
  have k11 := V1.out.cell 1 rfl
  have k12 := V1.out.cell 2 rfl
  go_wp2
  go_ret
  exact ⟨rfl, HB9.out⟩

set_option maxHeartbeats 1600000 in
theorem sCode_nought (neg : Bool) (up dn : ByteArray) (neg2 : Bool) (up2 dn2 : ByteArray) (hu : up.size ≤ maxLen) (hd : dn.size ≤ maxLen) (hu2 : up2.size ≤ maxLen) (hd2 : dn2.size ≤ maxLen) (H1 : Hid (okN neg up.data.toList dn.data.toList = true)) (H2 : Hid (okN neg2 up2.data.toList dn2.data.toList = true)) (e1 : (dn.toList == [49]) = true) (e2 : (dn2.toList == [49]) = true) (e3 : (up2.toList == [48]) = true) : SCode neg up dn neg2 up2 dn2 2 := by
  intro w
  go_enter Tryd.func21, Tryd.ntmps21
  go_wp2_with fail
  obtain ⟨W, hW, hBW, x0, x1⟩ := boxes2 w #[Value.bool neg, Value.string up, Value.string dn] #[Value.bool neg2, Value.string up2, Value.string dn2] 25 25
  rw [← hW]
  have HBW : Hid (Below w.heap.size w W) := hBW
  have X0 : Hid (boxAt W _ _ _) := x0
  have X1 : Hid (boxAt W _ _ _) := x1
  clear hW hBW x0 x1
  refine (specOk_c neg up dn _ _ hu hd H1.out).mono ?_
  rintro e w3 ⟨rfl, hb3⟩
  have HB9 : Hid (Below w.heap.size w w3) := HBW.out.trans (hb3.mono HBW.out.size)
  have Y0 : Hid (boxAt w3 _ _ _) := X0.out.on hb3
  have Y1 : Hid (boxAt w3 _ _ _) := X1.out.on hb3
  clear hb3 X0 X1 HBW
  have k10 := Y1.out.cell 0 rfl
  have k11 := Y1.out.cell 1 rfl
  have k12 := Y1.out.cell 2 rfl
  go_wp2_with fail
  refine (specOk_c neg2 up2 dn2 _ _ hu2 hd2 H2.out).mono ?_
  rintro e w4 ⟨rfl, hb4⟩
  have HB4 : Hid (Below w.heap.size w w4) := HB9.out.trans (hb4.mono HB9.out.size)
  have V0 : Hid (boxAt w4 _ _ _) := Y0.out.on hb4
  have V1 : Hid (boxAt w4 _ _ _) := Y1.out.on hb4
  clear hb4 k10 k11 k12 Y0 Y1 HB9
  have HB9 := HB4
  have k02 := V0.out.cell 2 rfl
  have k11 := V1.out.cell 1 rfl
  have k12 := V1.out.cell 2 rfl
  go_wp2
  go_ret
  exact ⟨rfl, HB9.out⟩

set_option maxHeartbeats 1600000 in
theorem sCode_yes (neg : Bool) (up dn : ByteArray) (neg2 : Bool) (up2 dn2 : ByteArray) (hu : up.size ≤ maxLen) (hd : dn.size ≤ maxLen) (hu2 : up2.size ≤ maxLen) (hd2 : dn2.size ≤ maxLen) (H1 : Hid (okN neg up.data.toList dn.data.toList = true)) (H2 : Hid (okN neg2 up2.data.toList dn2.data.toList = true)) (e1 : (dn.toList == [49]) = true) (e2 : (dn2.toList == [49]) = true) (e3 : (up2.toList == [48]) = false) : SCode neg up dn neg2 up2 dn2 0 := by
  intro w
  go_enter Tryd.func21, Tryd.ntmps21
  go_wp2_with fail
  obtain ⟨W, hW, hBW, x0, x1⟩ := boxes2 w #[Value.bool neg, Value.string up, Value.string dn] #[Value.bool neg2, Value.string up2, Value.string dn2] 25 25
  rw [← hW]
  have HBW : Hid (Below w.heap.size w W) := hBW
  have X0 : Hid (boxAt W _ _ _) := x0
  have X1 : Hid (boxAt W _ _ _) := x1
  clear hW hBW x0 x1
  refine (specOk_c neg up dn _ _ hu hd H1.out).mono ?_
  rintro e w3 ⟨rfl, hb3⟩
  have HB9 : Hid (Below w.heap.size w w3) := HBW.out.trans (hb3.mono HBW.out.size)
  have Y0 : Hid (boxAt w3 _ _ _) := X0.out.on hb3
  have Y1 : Hid (boxAt w3 _ _ _) := X1.out.on hb3
  clear hb3 X0 X1 HBW
  have k10 := Y1.out.cell 0 rfl
  have k11 := Y1.out.cell 1 rfl
  have k12 := Y1.out.cell 2 rfl
  go_wp2_with fail
  refine (specOk_c neg2 up2 dn2 _ _ hu2 hd2 H2.out).mono ?_
  rintro e w4 ⟨rfl, hb4⟩
  have HB4 : Hid (Below w.heap.size w w4) := HB9.out.trans (hb4.mono HB9.out.size)
  have V0 : Hid (boxAt w4 _ _ _) := Y0.out.on hb4
  have V1 : Hid (boxAt w4 _ _ _) := Y1.out.on hb4
  clear hb4 k10 k11 k12 Y0 Y1 HB9
  have HB9 := HB4
  have k02 := V0.out.cell 2 rfl
  have k11 := V1.out.cell 1 rfl
  have k12 := V1.out.cell 2 rfl
  go_wp2
  go_ret
  exact ⟨rfl, HB9.out⟩

set_option maxHeartbeats 1600000 in
theorem l4Sign_any (neg : Bool) (up : ByteArray) (z : Bool) (w : World) (hz : (up.toList == [48]) = z) :
    Calls Tryd.prog 23 #[.bool neg, .string up] w fun e w' => e = .returned (.agg #[.bool (neg && !z), .string up, .string ⟨#[49]⟩]) ∧ Below w.heap.size w w' := by
  cases neg
  all_goals
    go_enter Tryd.func23, Tryd.ntmps23
    go_wp2
    simp only [bodyPost]
    refine ⟨trivial, _, ?_, rfl, ?_⟩
    · simp [results, Tryd.results23, go_sem]
    · exact (Below.refl _ _).alloc (Nat.le_refl _) _

end Go.Proofs.YtaggfbffdbompaaDoor
