/-
  The law: the program's NumParse and the specification's answer alike.
-/
import Derived.Test.YtgckhkddjckfaagDoorPa9
namespace Go.Proofs.YtgckhkddjckfaagDoor
set_option maxRecDepth 100000
set_option linter.unusedVariables false
set_option linter.unusedSimpArgs false
open Go.RowKit
attribute [local go_sem ↓] Go.wp_at_zero Go.wp_at_succ

set_option maxHeartbeats 1000000 in
theorem eqNum_p (C : Bool) (U D : ByteArray) (w : World) :
    Calls Tryd.prog 6 #[.agg #[.bool C, .string U, .string D], .agg #[.bool C, .string U, .string D]] w fun e w' => e = .returned (.bool true) ∧ Below w.heap.size w w' := by
  go_enter Tryd.func6, Tryd.ntmps6
  go_wp2
  go_ret
  exact ⟨rfl, belA3 (belA3 (Below.refl _ _))⟩

set_option maxHeartbeats 1600000 in
theorem lawNumParse (text : ByteArray) (r : Int) (w : World) (htab : TB w) :
    Calls Tryd.prog 3 #[.string text, .int .i64 r] w fun e w' => e = .returned (.bool true) ∧ Below w.heap.size w w' := by
  obtain ⟨C, U, D, B, hI, hS⟩ := bothParse text r
  unfold AnsB at hI hS
  have HI : Hid _ := hI
  have HS : Hid _ := hS
  have HT : Hid (TB w) := htab
  clear hI hS htab
  by_cases hz : (1048576 : Int) < (text.size : Int)
  · clear HI HS HT
    go_enter Tryd.func3, Tryd.ntmps3
    go_wp2
    go_ret
    exact ⟨rfl, Below.refl _ _⟩
  go_enter Tryd.func3, Tryd.ntmps3
  go_wp2_with fail
  refine (HS.out _).mono ?_
  rintro e w1 ⟨rfl, hb1⟩
  have HB1 : Hid (Below w.heap.size w w1) := hb1
  clear hb1 HS
  go_wp2_with fail
  obtain ⟨X, hX, hBX, x0⟩ := boxN w1 #[Value.bool C, Value.string U, Value.string D] 23
  rw [← hX]
  have HB2 : Hid (Below w.heap.size w X) := HB1.out.trans (hBX.mono HB1.out.size)
  have X0 : Hid (boxAt X _ _ _) := x0
  clear hX hBX x0 HB1
  refine (HI.out _ (HT.out.on HB2.out)).mono ?_
  rintro e w3 ⟨rfl, hb3⟩
  have HB3 : Hid (Below w.heap.size w w3) := HB2.out.trans (hb3.mono HB2.out.size)
  have Y0 : Hid (boxAt w3 _ _ _) := X0.out.on hb3
  clear hb3 X0 HB2 HI HT
  have k0 := Y0.out.cell 0 rfl
  have k1 := Y0.out.cell 1 rfl
  have k2 := Y0.out.cell 2 rfl
  have hlt := Y0.out.lt
  go_wp2_with fail
  refine (eqNum_p C U D _).mono ?_
  rintro e w4 ⟨rfl, hb4⟩
  have hb5 : Below w.heap.size w w4 := (belA3 HB3.out).trans (hb4.mono (belA3 HB3.out).size)
  have HB4 : Hid (Below w.heap.size w w4) := hb5
  clear hb4 hb5
  go_wp2
  go_ret
  exact ⟨rfl, HB4.out⟩

end Go.Proofs.YtgckhkddjckfaagDoor
