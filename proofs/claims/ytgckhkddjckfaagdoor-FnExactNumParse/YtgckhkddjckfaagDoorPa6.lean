/-
  Contracts of the program's digits in a radix, and of reading them.
-/
import Derived.Test.YtgckhkddjckfaagDoorPa3
import Derived.Lib.OthersKept
namespace Go.Proofs.YtgckhkddjckfaagDoor
set_option maxRecDepth 100000
set_option linter.unusedVariables false
set_option linter.unusedSimpArgs false
open Go.RowKit Go.Lib
attribute [local go_sem ↓] Go.wp_at_zero Go.wp_at_succ

/-- A rune's value as a digit. -/
def dgN (n : Nat) : Nat := if 48 ≤ n ∧ n ≤ 57 then n - 48 else if 97 ≤ n ∧ n ≤ 102 then n - 87 else 99

/-- What a digit tells. -/
def DigRet (r n : Nat) (e : Ending) : Prop := ∃ (v : Int) (ok : Bool), e = .returned (.tuple #[.int .u64 v, .bool ok]) ∧ Hid (ok = decide (dgN n < r)) ∧ Hid (ok = true → v = (dgN n : Int))

set_option maxHeartbeats 800000 in
theorem digit_any (r n : Nat) (w : World) (hr : 2 ≤ r) (hr2 : r ≤ 16) (hn : n ≤ 2147483647) :
    Calls Tryd.prog 39 #[.int .i64 r, .int .i32 n] w fun e w' => DigRet r n e ∧ w' = w := by
  have hrw : IntKind.u64.wrap (r : Int) = (r : Int) := by rw [IntKind.wrap_u64]; omega
  have fin : ∀ (v : Nat) (b : Bool), dgN n = v → decide ((v : Int) < (r : Int)) = b → Hid (b = decide (dgN n < r)) := by
    intro v b h1 h2
    show _ = _
    rw [h1, ← h2]
    by_cases h : v < r
    · rw [decide_eq_true h, decide_eq_true (by omega : (v : Int) < (r : Int))]
    · rw [decide_eq_false h, decide_eq_false (by omega : ¬ (v : Int) < (r : Int))]
  have FIN : Hid _ := fin
  clear fin
  by_cases h1 : 48 ≤ n ∧ n ≤ 57
  · obtain ⟨v, hv⟩ : ∃ v, v = n - 48 := ⟨_, rfl⟩
    have e1 : dgN n = v := by unfold dgN; rw [if_pos h1]; exact hv.symm
    have E1 : Hid (dgN n = v) := e1
    have g1 : (48 : Int) ≤ (n : Int) := by omega
    have g2 : (n : Int) ≤ 57 := by omega
    have g3 : (n : Int) - 48 = (v : Int) := by omega
    have hw1 : IntKind.i32.wrap ((n : Int) - 48) = (v : Int) := by simp [IntKind.wrap, IntKind.bits, IntKind.signed]; omega
    have hw2 : IntKind.u64.wrap (v : Int) = (v : Int) := by rw [IntKind.wrap_u64]; omega
    clear e1 hv h1
    go_enter Tryd.func39, Tryd.ntmps39
    go_wp2
    simp only [bodyPost]
    refine ⟨trivial, _, ?_, ⟨(v : Int), decide ((v : Int) < (r : Int)), rfl, FIN.out v _ E1.out rfl, fun _ => by rw [E1.out]⟩, by first | rfl | trivial⟩
    simp [results, Tryd.results39, go_sem]
  by_cases h2 : 97 ≤ n ∧ n ≤ 102
  · obtain ⟨v, hv⟩ : ∃ v, v = n - 87 := ⟨_, rfl⟩
    obtain ⟨v0, hv0⟩ : ∃ v0, v0 = n - 97 := ⟨_, rfl⟩
    have e1 : dgN n = v := by unfold dgN; rw [if_neg h1, if_pos h2]; exact hv.symm
    have E1 : Hid (dgN n = v) := e1
    have g1 : (48 : Int) ≤ (n : Int) := by omega
    have g2 : ¬ (n : Int) ≤ 57 := by omega
    have g4 : (97 : Int) ≤ (n : Int) := by omega
    have g5 : (n : Int) ≤ 102 := by omega
    have g3 : (n : Int) - 97 = (v0 : Int) := by omega
    have g6 : (v0 : Int) + 10 = (v : Int) := by omega
    have hw1 : IntKind.i32.wrap ((n : Int) - 97) = (v0 : Int) := by simp [IntKind.wrap, IntKind.bits, IntKind.signed]; omega
    have hw2 : IntKind.u64.wrap (v0 : Int) = (v0 : Int) := by rw [IntKind.wrap_u64]; omega
    have hw3 : IntKind.u64.wrap ((v0 : Int) + 10) = (v : Int) := by rw [IntKind.wrap_u64]; omega
    clear e1 hv hv0 h1 h2
    go_enter Tryd.func39, Tryd.ntmps39
    go_wp2
    simp only [bodyPost]
    refine ⟨trivial, _, ?_, ⟨(v : Int), decide ((v : Int) < (r : Int)), rfl, FIN.out v _ E1.out rfl, fun _ => by rw [E1.out]⟩, by first | rfl | trivial⟩
    simp [results, Tryd.results39, go_sem]
  have e1 : dgN n = 99 := by unfold dgN; rw [if_neg h1, if_neg h2]
  have E1 : Hid (false = decide (dgN n < r)) := by show _ = _; rw [e1, decide_eq_false (by omega)]
  clear e1
  by_cases g1 : (48 : Int) ≤ (n : Int)
  · have g2 : ¬ (n : Int) ≤ 57 := by omega
    by_cases g3 : (97 : Int) ≤ (n : Int)
    · have g4 : ¬ (n : Int) ≤ 102 := by omega
      clear h1 h2
      go_enter Tryd.func39, Tryd.ntmps39
      go_wp2
      simp only [bodyPost]
      refine ⟨trivial, _, ?_, ⟨0, false, rfl, E1, fun h => by cases h⟩, by first | rfl | trivial⟩
      simp [results, Tryd.results39, go_sem]
    · clear h1 h2
      go_enter Tryd.func39, Tryd.ntmps39
      go_wp2
      simp only [bodyPost]
      refine ⟨trivial, _, ?_, ⟨0, false, rfl, E1, fun h => by cases h⟩, by first | rfl | trivial⟩
      simp [results, Tryd.results39, go_sem]
  · have g3 : ¬ (97 : Int) ≤ (n : Int) := by omega
    clear h1 h2
    go_enter Tryd.func39, Tryd.ntmps39
    go_wp2
    simp only [bodyPost]
    refine ⟨trivial, _, ?_, ⟨0, false, rfl, E1, fun h => by cases h⟩, by first | rfl | trivial⟩
    simp [results, Tryd.results39, go_sem]

end Go.Proofs.YtgckhkddjckfaagDoor
