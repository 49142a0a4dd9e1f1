/-
  Roots of whole numbers: what is half way goes nearer; one digit after the other.
-/
import Derived.Test.YtaggfbffdbompaaDoorMathD
set_option linter.unusedVariables false
namespace Go.Proofs.YtaggfbffdbompaaDoor
namespace Dm
/-- The root of a number: the greatest whole number whose square is not above it. -/
def isRoot (n s : Nat) : Prop := s * s ≤ n ∧ n < (s + 1) * (s + 1)

theorem isRoot_unique {n s t : Nat} (h : isRoot n s) (k : isRoot n t) : s = t := by
  rcases Nat.lt_trichotomy s t with h1 | h1 | h1
  · have h2 : (s + 1) * (s + 1) ≤ t * t := Nat.mul_le_mul h1 h1
    have := h.2; have := k.1; omega
  · exact h1
  · have h2 : (t + 1) * (t + 1) ≤ s * s := Nat.mul_le_mul h1 h1
    have := k.2; have := h.1; omega

theorem sq_gap (r s : Nat) : 2 * (s * r) ≤ s * s + r * r := by
  rcases Nat.le_total r s with h | h
  · obtain ⟨d, rfl⟩ := Nat.exists_eq_add_of_le h
    have e1 : (r + d) * (r + d) = r * r + 2 * (d * r) + d * d := by
      simp only [Nat.add_mul, Nat.mul_add, Nat.mul_comm r d]; omega
    have e2 : (r + d) * r = r * r + d * r := Nat.add_mul r d r
    rw [e1, e2]; have := Nat.zero_le (d * d); omega
  · obtain ⟨d, rfl⟩ := Nat.exists_eq_add_of_le h
    have e1 : (s + d) * (s + d) = s * s + 2 * (s * d) + d * d := by
      simp only [Nat.add_mul, Nat.mul_add, Nat.mul_comm d s]; omega
    have e2 : s * (s + d) = s * s + s * d := Nat.mul_add s s d
    rw [e1, e2]; have := Nat.zero_le (d * d); omega

/-- What is half way is never below the root. -/

theorem nearer_ge {n s r : Nat} (h : isRoot n s) (hr : 0 < r) : s ≤ (r + n / r) / 2 := by
  rcases Nat.lt_or_ge ((r + n / r) / 2) s with h1 | h1
  · exfalso
    have h2 : r + n / r + 1 ≤ 2 * s := by omega
    have h3 : n < (n / r + 1) * r := by
      have := Nat.div_add_mod n r
      have h4 := Nat.mod_lt n hr
      rw [Nat.add_mul, Nat.one_mul, Nat.mul_comm (n / r) r]; omega
    have h4 : (n / r + 1) * r + r * r ≤ 2 * (s * r) := by
      have h5 : (n / r + 1 + r) * r ≤ (2 * s) * r := Nat.mul_le_mul_right _ (by omega)
      rw [Nat.add_mul (n / r + 1) r r, Nat.mul_assoc] at h5; exact h5
    have h6 := sq_gap r s
    have := h.1
    omega
  · exact h1

/-- Where it becomes no less, it is the root. -/

theorem nearer_stop {n s r : Nat} (h : isRoot n s) (hr : 0 < r) (hs : s ≤ r) (hn : r ≤ (r + n / r) / 2) : r = s := by
  have h1 : r ≤ n / r := by omega
  have h2 : r * r ≤ n := by
    have h3 : r * r ≤ r * (n / r) := Nat.mul_le_mul_left _ h1
    have := Nat.mul_div_le n r
    omega
  rcases Nat.lt_or_ge s r with h3 | h3
  · have h4 : (s + 1) * (s + 1) ≤ r * r := Nat.mul_le_mul h3 h3
    have := h.2; omega
  · omega

/-- A place further: the digit before which it would be too much. -/

theorem root_place {n s P : Nat} (h : n < ((s + 1) * (10 * P)) * ((s + 1) * (10 * P))) : n < ((10 * s + 9 + 1) * P) * ((10 * s + 9 + 1) * P) := by
  have e : (10 * s + 9 + 1) * P = (s + 1) * (10 * P) := by
    rw [show 10 * s + 9 + 1 = (s + 1) * 10 from by omega, Nat.mul_assoc]
  rw [e]; exact h

theorem root_next {n s P : Nat} (h : (s * (10 * P)) * (s * (10 * P)) ≤ n) : ((10 * s) * P) * ((10 * s) * P) ≤ n := by
  have e : (10 * s) * P = s * (10 * P) := by rw [Nat.mul_comm 10 s, Nat.mul_assoc]
  rw [e]; exact h

end Dm
end Go.Proofs.YtaggfbffdbompaaDoor
