/-
  What the laws on numbers share: their sizes and their copies.
-/
import Derived.Test.YtaggfbffdbompaaDoorSigned
namespace Go.Proofs.YtaggfbffdbompaaDoor
set_option maxRecDepth 100000
set_option linter.unusedVariables false
set_option linter.unusedSimpArgs false
open Go.RowKit

set_option maxHeartbeats 2000000 in
theorem toNum_c (neg : Bool) (up dn : ByteArray) (w : World) :
    Calls Tryd.prog 10 #[.agg #[.bool neg, .string up, .string dn]] w fun e w' => e = .returned (.agg #[.bool neg, .string up, .string dn]) ∧ Below w.heap.size w w' := by
  have hB : ∀ o, Below w.heap.size w (w.alloc o) := fun o => (Below.refl _ _).alloc (Nat.le_refl _) _
  go_enter Tryd.func10, Tryd.ntmps10
  go_wp2
  simp only [bodyPost]
  refine ⟨trivial, _, ?_, rfl, ?_⟩
  · simp [results, Tryd.results10, go_sem]
  · exact ((hB _).alloc (by show _ ≤ (w.heap.push _).size; simp) _).alloc (by show _ ≤ ((w.heap.push _).push _).size; simp; omega) _

set_option maxHeartbeats 2000000 in
theorem szNum_c (neg : Bool) (up dn : ByteArray) (l : Int) (w : World) (hl : 0 ≤ l) (hl2 : l ≤ 1048576) (hu : up.size ≤ maxLen) (hd : dn.size ≤ maxLen) :
    Calls Tryd.prog 8 #[.agg #[.bool neg, .string up, .string dn], .int .i64 l] w fun e w' => (∃ z : Int, e = .returned (.int .i64 z) ∧ z ≤ l ∧ (0 ≤ z → (up.size : Int) ≤ l ∧ (dn.size : Int) ≤ l)) ∧ Below w.heap.size w w' := by
  have hB : ∀ o, Below w.heap.size w (w.alloc o) := fun o => (Below.refl _ _).alloc (Nat.le_refl _) _
  have hm : (maxLen : Int) ≤ 9223372036854775807 := by decide
  have hw1 : wrap64 (l - up.size) = l - up.size := by (unfold wrap64; omega)
  by_cases h1 : l - up.size < 0
  · go_enter Tryd.func8, Tryd.ntmps8
    go_wp2
    go_ret
    exact ⟨⟨-1, rfl, by omega, by intro h; omega⟩, (hB _)⟩
  · have hw2 : wrap64 (l - up.size - dn.size) = l - up.size - dn.size := by (unfold wrap64; omega)
    by_cases h2 : l - up.size - dn.size < 0
    · go_enter Tryd.func8, Tryd.ntmps8
      go_wp2
      go_ret
      exact ⟨⟨-1, rfl, by omega, by intro h; omega⟩, (hB _)⟩
    · go_enter Tryd.func8, Tryd.ntmps8
      go_wp2
      go_ret
      exact ⟨⟨_, rfl, by omega, by intro h; omega⟩, (hB _)⟩

end Go.Proofs.YtaggfbffdbompaaDoor
