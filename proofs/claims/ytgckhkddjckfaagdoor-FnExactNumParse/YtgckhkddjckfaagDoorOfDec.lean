/-
  The contract of reading decimal digits as groups.
-/
import Derived.Test.YtgckhkddjckfaagDoorGcd
import Derived.Deep.RegionWith
namespace Go.Proofs.YtgckhkddjckfaagDoor
set_option maxRecDepth 100000
set_option linter.unusedVariables false
set_option linter.unusedSimpArgs false
open Go.RowKit

/-- Ten to a power. -/
def pw (p : Nat) : Nat := 10 ^ p

theorem pow10_any (p : Nat) (w : World) (hp : p ≤ 9) :
    Calls Tryd.prog 41 #[.int .i64 p] w fun e w' => e = .returned (.int .u64 (pw p)) ∧ w' = w :=
  (powerOfTen_any p w hp).mono fun _ _ h => by obtain ⟨⟨q, h1, h2, _⟩, h3⟩ := h; exact ⟨by rw [h1, h2.out]; rfl, h3⟩

theorem base_pow (g : Nat) : (1000000000 : Nat) ^ g = 10 ^ (9 * g) := by
  rw [show (1000000000 : Nat) = 10 ^ 9 from by decide, ← Nat.pow_mul]

theorem pow_le9 (m : Nat) (hm : m < 9) : 10 ^ (m + 1) * 10 ^ (8 - m) = 1000000000 := by
  rw [← Nat.pow_add, show m + 1 + (8 - m) = 9 from by omega]

theorem nd_small (y m d : Nat) (hm : m < 9) (hd : d < 10) (hy : y < 1000000000) (h0 : y % 10 ^ (m + 1) = 0) : y + d * 10 ^ m < 1000000000 ∧ (y + d * 10 ^ m) % 10 ^ m = 0 := by
  have h1 := pow_le9 m hm
  obtain ⟨k, hk⟩ := Nat.dvd_of_mod_eq_zero h0
  have hlt : k < 10 ^ (8 - m) := by
    rw [hk, ← h1] at hy
    exact Nat.lt_of_mul_lt_mul_left hy
  have h2 : 10 ^ (m + 1) * (k + 1) ≤ 10 ^ (m + 1) * 10 ^ (8 - m) := Nat.mul_le_mul_left _ hlt
  rw [h1, Nat.mul_add, Nat.mul_one, ← hk] at h2
  have h3 : d * 10 ^ m ≤ 9 * 10 ^ m := Nat.mul_le_mul_right _ (by omega)
  have h4 : 10 ^ (m + 1) = 10 * 10 ^ m := by rw [Nat.pow_succ, Nat.mul_comm]
  have hp : 0 < 10 ^ m := Nat.pow_pos (by omega)
  refine ⟨by omega, ?_⟩
  rw [hk, h4, Nat.mul_comm 10, Nat.mul_assoc, Nat.mul_comm d, ← Nat.mul_add, Nat.mul_mod_right]

theorem nd_step (ys : List Nat) (p g m d : Nat) (hg : g < ys.length) (hp : p = 9 * g + m) (hm : m < 9) (hd : d < 10)
    (hI : ∀ j (h : j < ys.length), ys[j] < 1000000000 ∧ ys[j] % 10 ^ (min 9 (p + 1 - 9 * j)) = 0) :
    ys[g] + d * 10 ^ m < 1000000000 ∧ (∀ j (h : j < (ys.set g (ys[g] + d * 10 ^ m)).length), (ys.set g (ys[g] + d * 10 ^ m))[j] < 1000000000 ∧ (ys.set g (ys[g] + d * 10 ^ m))[j] % 10 ^ (min 9 (p - 9 * j)) = 0) ∧
    Lm.lval (ys.set g (ys[g] + d * 10 ^ m)) = Lm.lval ys + d * 10 ^ p := by
  have hgI := hI g hg
  rw [show min 9 (p + 1 - 9 * g) = m + 1 from by omega] at hgI
  obtain ⟨h1, h2⟩ := nd_small ys[g] m d hm hd hgI.1 hgI.2
  refine ⟨h1, ?_, ?_⟩
  · intro j hj
    rw [List.getElem_set]
    by_cases e : g = j
    · subst e
      rw [if_pos rfl, show min 9 (p - 9 * g) = m from by omega]
      exact ⟨h1, h2⟩
    · rw [if_neg e]
      have hj2 : j < ys.length := by simpa using hj
      have h3 := hI j hj2
      refine ⟨h3.1, ?_⟩
      rcases Nat.lt_or_ge j g with h | h
      · rw [show min 9 (p - 9 * j) = 9 from by omega]
        rw [show min 9 (p + 1 - 9 * j) = 9 from by omega] at h3
        exact h3.2
      · rw [show min 9 (p - 9 * j) = 0 from by omega]
        exact Nat.mod_one _
  · have h3 := Lm.lval_set ys g hg (ys[g] + d * 10 ^ m)
    rw [Nat.mul_add] at h3
    have h4 : d * 10 ^ p = 1000000000 ^ g * (d * 10 ^ m) := by
      rw [base_pow, hp, Nat.pow_add, ← Nat.mul_assoc, Nat.mul_comm d, Nat.mul_assoc]
    omega

end Go.Proofs.YtgckhkddjckfaagDoor
