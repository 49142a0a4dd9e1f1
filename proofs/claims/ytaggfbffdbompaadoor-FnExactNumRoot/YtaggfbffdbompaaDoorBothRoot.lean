/-
  The program's NumRoot and the specification's are the same.
-/
import Derived.Test.YtaggfbffdbompaaDoorWRoot3
import Derived.Test.YtaggfbffdbompaaDoorWLaw0
namespace Go.Proofs.YtaggfbffdbompaaDoor
set_option maxRecDepth 100000
set_option linter.unusedVariables false
set_option linter.unusedSimpArgs false
open Go.RowKit

/-- One answer of two numbers, of the program and of the specification. -/
def Both2 (f g : Nat) (args : Array Value) : Prop :=
  ∃ C U D C2 U2 D2 K, (∀ w : World, TE w → Calls Tryd.prog f args w fun e w' => e = twoNums C U D C2 U2 D2 K ∧ Below w.heap.size w w') ∧ (∀ w : World, Calls Tryd.prog g args w fun e w' => e = twoNums C U D C2 U2 D2 K ∧ Below w.heap.size w w')

theorem root_ex (u : Nat) : ∃ s, Dm.isRoot u s := by
  induction u with
  | zero => exact ⟨0, by simp [Dm.isRoot]⟩
  | succ n ih =>
    obtain ⟨s, h1, h2⟩ := ih
    rcases Nat.lt_or_ge (n + 1) ((s + 1) * (s + 1)) with h | h
    · exact ⟨s, by omega, h⟩
    · refine ⟨s + 1, h, ?_⟩
      have : (s + 1) * (s + 1) < (s + 1 + 1) * (s + 1 + 1) := Nat.mul_lt_mul_of_lt_of_lt (by omega) (by omega)
      omega

theorem bothNumRoot (neg : Bool) (up dn : ByteArray) (hu : up.size ≤ maxLen) (hd : dn.size ≤ maxLen) : Both2 20 19 #[.agg #[.bool neg, .string up, .string dn]] := by
  cases h1 : okN neg up.data.toList dn.data.toList
  · exact ⟨_, _, _, _, _, _, _, fun w ht => iNumRoot_err neg up dn 1 w (rootedOf_no neg up dn hu hd h1) ht.err, fun w => sNumRoot_no neg up dn w hu hd h1⟩
  cases e1 : (dn.toList == [49])
  · exact ⟨_, _, _, _, _, _, _, fun w ht => iNumRoot_err neg up dn 4 w (rootedOf_nw1 neg up dn hu hd h1 e1) ht.err, fun w => sNumRoot_nw neg up dn w hu hd h1 e1⟩
  cases neg
  · obtain ⟨z1, z2, d1, d2, n1, m1, _⟩ := okN_facts _ _ _ h1
    have s1 : up.size ≤ 60 := by have e : up.data.toList.length = up.size := Array.length_toList; omega
    have f1 := fits60d _ _ d1 z1
    obtain ⟨s, hs⟩ := root_ex (Dm.val up.data.toList)
    exact ⟨_, _, _, _, _, _, _, fun w ht => iNumRoot_yes false up dn _ s w (rootedOf_yes up dn _ hu hd h1 e1 s1 d1) hs f1 s1 ht.tab, fun w => sNumRoot_yes up dn _ s w hu hd h1 e1 s1 d1 hs⟩
  · exact ⟨_, _, _, _, _, _, _, fun w ht => iNumRoot_err true up dn 4 w (rootedOf_neg up dn hu hd h1 e1) ht.err, fun w => sNumRoot_neg up dn w hu hd h1 e1⟩

end Go.Proofs.YtaggfbffdbompaaDoor
