/-
  The program's sums, differences, products and quotients, and the specification's, are the same.
-/
import Derived.Test.YtbgbbhenakjbgahDoorNum3
import Derived.Test.YtbgbbhenakjbgahDoorNum5
import Derived.Test.YtbgbbhenakjbgahDoorLaw0
namespace Go.Proofs.YtbgbbhenakjbgahDoor
set_option maxRecDepth 100000
set_option linter.unusedVariables false
set_option linter.unusedSimpArgs false
open Go.RowKit

/-- One answer of a call. -/
def Ans (f : Nat) (args : Array Value) (w : World) (C : Bool) (U D : ByteArray) (K : Int) : Prop :=
  Calls Tryd.prog f args w fun e w' => e = .returned (.tuple #[.agg #[.bool C, .string U, .string D], .int .i64 K]) ∧ Below w.heap.size w w'

/-- One answer of the program and of the specification. -/
def Both (f g : Nat) (args : Array Value) : Prop :=
  ∃ C U D K, (∀ w : World, TB w → Ans f args w C U D K) ∧ (∀ w : World, Ans g args w C U D K)

theorem rYes (neg : Bool) (up dn : ByteArray) (neg2 : Bool) (up2 dn2 : ByteArray) (hu : up.size ≤ maxLen) (hd : dn.size ≤ maxLen) (hu2 : up2.size ≤ maxLen) (hd2 : dn2.size ≤ maxLen) (h1 : okN neg up.data.toList dn.data.toList = true) (h2 : okN neg2 up2.data.toList dn2.data.toList = true) :
    RYes neg up dn neg2 up2 dn2 (Dm.val up.data.toList) (Dm.val dn.data.toList) (Dm.val up2.data.toList) (Dm.val dn2.data.toList) := fun W => ratiosOf_yes neg up dn neg2 up2 dn2 W hu hd hu2 hd2 h1 h2
theorem rNo1 (neg : Bool) (up dn : ByteArray) (neg2 : Bool) (up2 dn2 : ByteArray) (hu : up.size ≤ maxLen) (hd : dn.size ≤ maxLen) (hu2 : up2.size ≤ maxLen) (hd2 : dn2.size ≤ maxLen) (h1 : okN neg up.data.toList dn.data.toList = false) :
    RNo neg up dn neg2 up2 dn2 := fun W => ratiosOf_no1 neg up dn neg2 up2 dn2 W hu hd hu2 hd2 h1
theorem rNo2 (neg : Bool) (up dn : ByteArray) (neg2 : Bool) (up2 dn2 : ByteArray) (hu : up.size ≤ maxLen) (hd : dn.size ≤ maxLen) (hu2 : up2.size ≤ maxLen) (hd2 : dn2.size ≤ maxLen) (h1 : okN neg up.data.toList dn.data.toList = true) (h2 : okN neg2 up2.data.toList dn2.data.toList = false) :
    RNo neg up dn neg2 up2 dn2 := fun W => ratiosOf_no2 neg up dn neg2 up2 dn2 W hu hd hu2 hd2 h1 h2

theorem addB_0 (b : Bool) (n : Nat) (b2 : Bool) : addB b n b2 0 = b := by unfold addB; split <;> (try split) <;> first | rfl | omega
theorem addN_0 (b : Bool) (n : Nat) (b2 : Bool) : addN b n b2 0 = n := by unfold addN; split <;> (try split) <;> omega

theorem bothNumAdd (neg : Bool) (up dn : ByteArray) (neg2 : Bool) (up2 dn2 : ByteArray) (hu : up.size ≤ maxLen) (hd : dn.size ≤ maxLen) (hu2 : up2.size ≤ maxLen) (hd2 : dn2.size ≤ maxLen) : Both 10 8 #[.agg #[.bool neg, .string up, .string dn], .agg #[.bool neg2, .string up2, .string dn2]] := by
  cases h1 : okN neg up.data.toList dn.data.toList
  · exact ⟨_, _, _, _, fun w _ => iNumAdd_no neg up dn neg2 up2 dn2 w (rNo1 neg up dn neg2 up2 dn2 hu hd hu2 hd2 h1), fun w => sNumAdd_no1 neg up dn neg2 up2 dn2 w hu hd hu2 hd2 h1⟩
  cases h2 : okN neg2 up2.data.toList dn2.data.toList
  · exact ⟨_, _, _, _, fun w _ => iNumAdd_no neg up dn neg2 up2 dn2 w (rNo2 neg up dn neg2 up2 dn2 hu hd hu2 hd2 h1 h2), fun w => sNumAdd_no2 neg up dn neg2 up2 dn2 w hu hd hu2 hd2 h1 h2⟩
  have hR := rYes neg up dn neg2 up2 dn2 hu hd hu2 hd2 h1 h2
  obtain ⟨z1, z2, d1, d2, n1, m1, _⟩ := okN_facts _ _ _ h1
  obtain ⟨z3, z4, d3, d4, n2, m2, _⟩ := okN_facts _ _ _ h2
  have e1 := fits60s _ _ d1 z1
  have e2 := fits60s _ _ d2 z2
  have e3 := fits60s _ _ d3 z3
  have e4 := fits60s _ _ d4 z4
  have y2 := isDec_n0 d2 n1
  have y4 := isDec_n0 d4 n2
  have m2' : neg2 = true → Dm.val up2.data.toList ≠ 0 := fun e => isDec_n0 d3 (m2 e)
  have s1 : up.size ≤ 60 := by have e : up.data.toList.length = up.size := Array.length_toList; omega
  have s2 : dn.size ≤ 60 := by have e : dn.data.toList.length = dn.size := Array.length_toList; omega
  have s3 : up2.size ≤ 60 := by have e : up2.data.toList.length = up2.size := Array.length_toList; omega
  have s4 : dn2.size ≤ 60 := by have e : dn2.data.toList.length = dn2.size := Array.length_toList; omega
  generalize Dm.val up.data.toList = u at *
  generalize Dm.val dn.data.toList = d at *
  generalize Dm.val up2.data.toList = u2 at *
  generalize Dm.val dn2.data.toList = d2v at *
  exact ⟨_, _, _, _, fun w ht => iNumAdd_yes neg up dn neg2 up2 dn2 u d u2 d2v w hR e1 e2 e3 e4 y2 y4 ht, fun w => sNumAdd_yes neg up dn neg2 up2 dn2 _ _ _ _ w hu hd hu2 hd2 h1 h2 (fun W => l3Add_any neg up dn neg2 up2 dn2 u d u2 d2v W d1 d2 d3 d4 e1 e2 e3 e4 y2 y4)⟩

theorem bothNumSub (neg : Bool) (up dn : ByteArray) (neg2 : Bool) (up2 dn2 : ByteArray) (hu : up.size ≤ maxLen) (hd : dn.size ≤ maxLen) (hu2 : up2.size ≤ maxLen) (hd2 : dn2.size ≤ maxLen) : Both 13 12 #[.agg #[.bool neg, .string up, .string dn], .agg #[.bool neg2, .string up2, .string dn2]] := by
  cases h1 : okN neg up.data.toList dn.data.toList
  · exact ⟨_, _, _, _, fun w _ => iNumSub_no neg up dn neg2 up2 dn2 w (rNo1 neg up dn neg2 up2 dn2 hu hd hu2 hd2 h1), fun w => sNumSub_no1 neg up dn neg2 up2 dn2 w hu hd hu2 hd2 h1⟩
  cases h2 : okN neg2 up2.data.toList dn2.data.toList
  · exact ⟨_, _, _, _, fun w _ => iNumSub_no neg up dn neg2 up2 dn2 w (rNo2 neg up dn neg2 up2 dn2 hu hd hu2 hd2 h1 h2), fun w => sNumSub_no2 neg up dn neg2 up2 dn2 w hu hd hu2 hd2 h1 h2⟩
  have hR := rYes neg up dn neg2 up2 dn2 hu hd hu2 hd2 h1 h2
  obtain ⟨z1, z2, d1, d2, n1, m1, _⟩ := okN_facts _ _ _ h1
  obtain ⟨z3, z4, d3, d4, n2, m2, _⟩ := okN_facts _ _ _ h2
  have e1 := fits60s _ _ d1 z1
  have e2 := fits60s _ _ d2 z2
  have e3 := fits60s _ _ d3 z3
  have e4 := fits60s _ _ d4 z4
  have y2 := isDec_n0 d2 n1
  have y4 := isDec_n0 d4 n2
  have m2' : neg2 = true → Dm.val up2.data.toList ≠ 0 := fun e => isDec_n0 d3 (m2 e)
  have s1 : up.size ≤ 60 := by have e : up.data.toList.length = up.size := Array.length_toList; omega
  have s2 : dn.size ≤ 60 := by have e : dn.data.toList.length = dn.size := Array.length_toList; omega
  have s3 : up2.size ≤ 60 := by have e : up2.data.toList.length = up2.size := Array.length_toList; omega
  have s4 : dn2.size ≤ 60 := by have e : dn2.data.toList.length = dn2.size := Array.length_toList; omega
  generalize Dm.val up.data.toList = u at *
  generalize Dm.val dn.data.toList = d at *
  generalize Dm.val up2.data.toList = u2 at *
  generalize Dm.val dn2.data.toList = d2v at *
  obtain ⟨b, hb⟩ : ∃ b, b = (!neg2 && decide (u2 ≠ 0)) := ⟨_, rfl⟩
  have hB : addB neg (u * d2v) b (u2 * d) = addB neg (u * d2v) (!neg2) (u2 * d) := by
    by_cases h0 : u2 = 0
    · rw [h0, Nat.zero_mul, addB_0, addB_0]
    · rw [hb]; simp [h0]
  have hN : addN neg (u * d2v) b (u2 * d) = addN neg (u * d2v) (!neg2) (u2 * d) := by
    by_cases h0 : u2 = 0
    · rw [h0, Nat.zero_mul, addN_0, addN_0]
    · rw [hb]; simp [h0]
  refine ⟨_, _, _, _, fun w ht => iNumSub_yes neg up dn neg2 up2 dn2 u d u2 d2v w hR e1 e2 e3 e4 y2 y4 ht, fun w => sNumSub_yes neg up dn neg2 up2 dn2 b _ _ _ _ w hu hd hu2 hd2 h1 h2 (fun W => l3Neg_v neg2 up2 dn2 u2 b W d3 hb) (fun W => ?_)⟩
  rw [← hB, ← hN]
  exact l3Add_any neg up dn b up2 dn2 u d u2 d2v W d1 d2 d3 d4 e1 e2 e3 e4 y2 y4

theorem bothNumMul (neg : Bool) (up dn : ByteArray) (neg2 : Bool) (up2 dn2 : ByteArray) (hu : up.size ≤ maxLen) (hd : dn.size ≤ maxLen) (hu2 : up2.size ≤ maxLen) (hd2 : dn2.size ≤ maxLen) : Both 15 14 #[.agg #[.bool neg, .string up, .string dn], .agg #[.bool neg2, .string up2, .string dn2]] := by
  cases h1 : okN neg up.data.toList dn.data.toList
  · exact ⟨_, _, _, _, fun w _ => iNumMul_no neg up dn neg2 up2 dn2 w (rNo1 neg up dn neg2 up2 dn2 hu hd hu2 hd2 h1), fun w => sNumMul_no1 neg up dn neg2 up2 dn2 w hu hd hu2 hd2 h1⟩
  cases h2 : okN neg2 up2.data.toList dn2.data.toList
  · exact ⟨_, _, _, _, fun w _ => iNumMul_no neg up dn neg2 up2 dn2 w (rNo2 neg up dn neg2 up2 dn2 hu hd hu2 hd2 h1 h2), fun w => sNumMul_no2 neg up dn neg2 up2 dn2 w hu hd hu2 hd2 h1 h2⟩
  have hR := rYes neg up dn neg2 up2 dn2 hu hd hu2 hd2 h1 h2
  obtain ⟨z1, z2, d1, d2, n1, m1, _⟩ := okN_facts _ _ _ h1
  obtain ⟨z3, z4, d3, d4, n2, m2, _⟩ := okN_facts _ _ _ h2
  have e1 := fits60s _ _ d1 z1
  have e2 := fits60s _ _ d2 z2
  have e3 := fits60s _ _ d3 z3
  have e4 := fits60s _ _ d4 z4
  have y2 := isDec_n0 d2 n1
  have y4 := isDec_n0 d4 n2
  have m2' : neg2 = true → Dm.val up2.data.toList ≠ 0 := fun e => isDec_n0 d3 (m2 e)
  have s1 : up.size ≤ 60 := by have e : up.data.toList.length = up.size := Array.length_toList; omega
  have s2 : dn.size ≤ 60 := by have e : dn.data.toList.length = dn.size := Array.length_toList; omega
  have s3 : up2.size ≤ 60 := by have e : up2.data.toList.length = up2.size := Array.length_toList; omega
  have s4 : dn2.size ≤ 60 := by have e : dn2.data.toList.length = dn2.size := Array.length_toList; omega
  generalize Dm.val up.data.toList = u at *
  generalize Dm.val dn.data.toList = d at *
  generalize Dm.val up2.data.toList = u2 at *
  generalize Dm.val dn2.data.toList = d2v at *
  refine ⟨_, _, _, _, fun w ht => iNumMul_yes neg up dn neg2 up2 dn2 u d u2 d2v w hR e1 e2 e3 e4 y2 y4 ht, fun w => sNumMul_yes neg up dn neg2 up2 dn2 u d u2 d2v _ _ _ _ w hu hd hu2 hd2 h1 h2 d1 d2 d3 d4 s1 s2 s3 s4 (fun x t1 t2 W hx k1 k2 => ?_)⟩
  rw [← hx]
  exact l3Answer_any x t1 t2 _ _ W k1.out k2.out (Nat.mul_ne_zero y2 y4) ((fits_mul0 e1 e3).mono (Nat.le_refl _) (by omega)) ((fits_mul0 e2 e4).mono (Nat.le_refl _) (by omega))

theorem bothNumDiv (neg : Bool) (up dn : ByteArray) (neg2 : Bool) (up2 dn2 : ByteArray) (hu : up.size ≤ maxLen) (hd : dn.size ≤ maxLen) (hu2 : up2.size ≤ maxLen) (hd2 : dn2.size ≤ maxLen) : Both 17 16 #[.agg #[.bool neg, .string up, .string dn], .agg #[.bool neg2, .string up2, .string dn2]] := by
  cases h1 : okN neg up.data.toList dn.data.toList
  · exact ⟨_, _, _, _, fun w _ => iNumDiv_no neg up dn neg2 up2 dn2 w (rNo1 neg up dn neg2 up2 dn2 hu hd hu2 hd2 h1), fun w => sNumDiv_no1 neg up dn neg2 up2 dn2 w hu hd hu2 hd2 h1⟩
  cases h2 : okN neg2 up2.data.toList dn2.data.toList
  · exact ⟨_, _, _, _, fun w _ => iNumDiv_no neg up dn neg2 up2 dn2 w (rNo2 neg up dn neg2 up2 dn2 hu hd hu2 hd2 h1 h2), fun w => sNumDiv_no2 neg up dn neg2 up2 dn2 w hu hd hu2 hd2 h1 h2⟩
  have hR := rYes neg up dn neg2 up2 dn2 hu hd hu2 hd2 h1 h2
  obtain ⟨z1, z2, d1, d2, n1, m1, _⟩ := okN_facts _ _ _ h1
  obtain ⟨z3, z4, d3, d4, n2, m2, _⟩ := okN_facts _ _ _ h2
  have e1 := fits60s _ _ d1 z1
  have e2 := fits60s _ _ d2 z2
  have e3 := fits60s _ _ d3 z3
  have e4 := fits60s _ _ d4 z4
  have y2 := isDec_n0 d2 n1
  have y4 := isDec_n0 d4 n2
  have m2' : neg2 = true → Dm.val up2.data.toList ≠ 0 := fun e => isDec_n0 d3 (m2 e)
  have s1 : up.size ≤ 60 := by have e : up.data.toList.length = up.size := Array.length_toList; omega
  have s2 : dn.size ≤ 60 := by have e : dn.data.toList.length = dn.size := Array.length_toList; omega
  have s3 : up2.size ≤ 60 := by have e : up2.data.toList.length = up2.size := Array.length_toList; omega
  have s4 : dn2.size ≤ 60 := by have e : dn2.data.toList.length = dn2.size := Array.length_toList; omega
  generalize Dm.val up.data.toList = u at *
  generalize Dm.val dn.data.toList = d at *
  generalize Dm.val up2.data.toList = u2 at *
  generalize Dm.val dn2.data.toList = d2v at *
  by_cases h0 : u2 = 0
  · subst h0
    exact ⟨_, _, _, _, fun w ht => iNumDiv_nought neg up dn neg2 up2 dn2 u d d2v w hR, fun w => sNumDiv_nought neg up dn neg2 up2 dn2 w hu hd hu2 hd2 h1 h2 (by rw [isDec_48 up2 0 d3]; rfl)⟩
  refine ⟨_, _, _, _, fun w ht => iNumDiv_yes neg up dn neg2 up2 dn2 u d u2 d2v w hR e1 e2 e3 e4 y2 h0 ht, fun w => sNumDiv_yes neg up dn neg2 up2 dn2 u d u2 d2v _ _ _ _ w hu hd hu2 hd2 h1 h2 (by rw [isDec_48 up2 u2 d3]; exact decide_eq_false h0) d1 d2 d3 d4 s1 s2 s3 s4 (fun x t1 t2 W hx k1 k2 => ?_)⟩
  rw [← hx]
  exact l3Answer_any x t1 t2 _ _ W k1.out k2.out (Nat.mul_ne_zero y2 h0) ((fits_mul0 e1 e4).mono (Nat.le_refl _) (by omega)) ((fits_mul0 e2 e3).mono (Nat.le_refl _) (by omega))

attribute [local go_sem ↓] Go.wp_at_zero Go.wp_at_succ
set_option maxHeartbeats 1600000 in
theorem eqNum_same (C : Bool) (U D : ByteArray) (w : World) :
    Calls Tryd.prog 11 #[.agg #[.bool C, .string U, .string D], .agg #[.bool C, .string U, .string D]] w fun e w' => e = .returned (.bool true) ∧ Below w.heap.size w w' := by
  go_enter Tryd.func11, Tryd.ntmps11
  go_wp2
  go_ret
  exact ⟨rfl, bel_alloc (bel_alloc (Below.refl _ _))⟩

end Go.Proofs.YtbgbbhenakjbgahDoor
