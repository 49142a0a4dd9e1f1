/-
  Contracts of the program's whole numbers: adding, multiplying.
-/
import Derived.Test.YtgckhkddjckfaagDoorImpl3
import Derived.Test.YtgckhkddjckfaagDoorMathT
namespace Go.Proofs.YtgckhkddjckfaagDoor
set_option maxRecDepth 100000
set_option linter.unusedVariables false
set_option linter.unusedSimpArgs false
open Go.RowKit

theorem rowN_cellD {w : World} {ao : Option Addr} {cap n i : Nat} {xs : List Nat} (h : rowN w (.slice ao n cap) xs) (hn : n = xs.length) (hi : i < xs.length) :
    ∃ g, ao = some ⟨g, 0, none⟩ ∧ w.cell? ⟨g, i, none⟩ = some (.int .u64 (xs.getD i 0 : Nat)) := by
  rcases rowN_shape h with ⟨e, rfl⟩ | ⟨g, cap', e, hg, _⟩
  · simp at hi
  · cases e
    refine ⟨g, rfl, ?_⟩
    have h1 := rowN_cell h rfl i hi
    have e2 : xs.getD i 0 = xs[i] := by simp [List.getD, hi]
    rw [e2]; exact h1

end Go.Proofs.YtgckhkddjckfaagDoor
