/-
  Plain mathematics on writing groups as decimal digits: nothing here names the program.
-/
import Derived.Test.YtaggfbffdbompaaDoorMathT
import Derived.Lib.ItoaNum
namespace Go.Proofs.YtaggfbffdbompaaDoor
open Go
namespace Dm

theorem sg_eq (d : Nat) : UInt8.ofNat (48 + d) = sg d := rfl

/-- The library's numeral is the number's digits, without noughts ahead. -/

theorem decDigits_dec (u : Nat) : isDec (Lib.decDigits u) u := by
  induction u using Nat.strongRecOn with
  | _ u ih =>
    by_cases h : u < 10
    · rw [Lib.decDigits_one h, sg_eq]
      refine ⟨by simp, ?_, ?_, by simp⟩
      · intro c hc; simp at hc; rw [hc]; exact sg_dig u h
      · show val ([] ++ [sg u]) = u
        rw [val_snoc, sg_toNat u h]; simp [val]
    · obtain ⟨h1, h2, h3, h4⟩ := ih (u / 10) (by omega)
      rw [Lib.decDigits, dif_neg h, sg_eq]
      refine ⟨by simp, ?_, ?_, ?_⟩
      · intro c hc
        rcases List.mem_append.1 hc with g | g
        · exact h2 c g
        · simp at g; rw [g]; exact sg_dig _ (by omega)
      · rw [val_snoc, h3, sg_toNat _ (by omega)]; omega
      · intro _
        have hp : (Lib.decDigits (u / 10) ++ [sg (u % 10)]).head? = (Lib.decDigits (u / 10)).head? := by
          cases hd : Lib.decDigits (u / 10) with
          | nil => exact absurd hd h1
          | cons c l => rfl
        rw [hp]
        by_cases g : 1 < (Lib.decDigits (u / 10)).length
        · exact h4 g
        · have hl : (Lib.decDigits (u / 10)).length = 1 := by
            have := List.length_pos_iff.2 h1
            omega
          match hd : Lib.decDigits (u / 10), hl with
          | [c], _ =>
            intro e
            simp at e
            rw [hd, e] at h3
            simp [val] at h3
            omega

theorem decDigits_len (u : Nat) (h : u < 1000000000) : (Lib.decDigits u).length ≤ 9 := by
  rcases Nat.lt_or_ge 9 (Lib.decDigits u).length with h1 | h1
  · have h2 := isDec_low _ u (decDigits_dec u) (by omega)
    have h3 : 10 ^ 9 ≤ 10 ^ ((Lib.decDigits u).length - 1) := Nat.pow_le_pow_right (by omega) (by omega)
    have h4 : (10 : Nat) ^ 9 = 1000000000 := by decide
    omega
  · exact h1

/-- The first k of a group's nine digits. -/
def pd (g k : Nat) : List UInt8 := (List.range k).map fun j => sg (g / 10 ^ (8 - j) % 10)

theorem pd_zero (g : Nat) : pd g 0 = [] := rfl

theorem pd_succ (g k : Nat) : pd g (k + 1) = pd g k ++ [sg (g / 10 ^ (8 - k) % 10)] := by simp [pd, List.range_succ]

theorem pd_length (g k : Nat) : (pd g k).length = k := by simp [pd]

theorem pd_dig (g k : Nat) : ∀ c ∈ pd g k, isDig c := by
  intro c hc
  simp only [pd, List.mem_map] at hc
  obtain ⟨j, _, rfl⟩ := hc
  exact sg_dig _ (Nat.mod_lt _ (by decide))

theorem pd_val (g : Nat) (hg : g < 1000000000) : ∀ k, k ≤ 9 → val (pd g k) = g / 10 ^ (9 - k)
  | 0, _ => by
    rw [pd_zero]
    show 0 = _
    rw [Nat.div_eq_of_lt (by have : (10 : Nat) ^ (9 - 0) = 1000000000 := by decide
                             omega)]
  | k + 1, hk => by
    rw [pd_succ, val_snoc, pd_val g hg k (by omega), sg_toNat _ (Nat.mod_lt _ (by decide))]
    rw [show 9 - k = (8 - k) + 1 from by omega, show 9 - (k + 1) = 8 - k from by omega, Nat.pow_succ, ← Nat.div_div_eq_div_mul]
    generalize g / 10 ^ (8 - k) = q
    omega

theorem pd_all (g : Nat) (hg : g < 1000000000) : val (pd g 9) = g := by
  have := pd_val g hg 9 (Nat.le_refl _)
  rw [this]; simp

/-- A group more, behind what is written. -/

theorem val_group (l : List UInt8) (g : Nat) (hg : g < 1000000000) : val (l ++ pd g 9) = val l * 1000000000 + g := by
  rw [val_append, pd_all g hg, pd_length]

/-- A list of digits whose first one is no nought. -/
def good (l : List UInt8) : Prop := l ≠ [] ∧ (∀ c ∈ l, isDig c) ∧ l.head? ≠ some 48

theorem good_app {l m : List UInt8} (h : good l) (hm : ∀ c ∈ m, isDig c) : good (l ++ m) := by
  obtain ⟨h1, h2, h3⟩ := h
  refine ⟨by simp [h1], ?_, ?_⟩
  · intro c hc
    rcases List.mem_append.1 hc with g | g
    · exact h2 c g
    · exact hm c g
  · cases l with
    | nil => exact absurd rfl h1
    | cons c l => exact h3

theorem good_dec {l : List UInt8} {n : Nat} (h : good l) (hv : val l = n) : isDec l n := ⟨h.1, h.2.1, hv, fun _ => h.2.2⟩

theorem decDigits_good (u : Nat) (h : u ≠ 0) : good (Lib.decDigits u) := by
  obtain ⟨h1, h2, h3, h4⟩ := decDigits_dec u
  refine ⟨h1, h2, ?_⟩
  by_cases g : 1 < (Lib.decDigits u).length
  · exact h4 g
  · have hl : (Lib.decDigits u).length = 1 := by
      have := List.length_pos_iff.2 h1
      omega
    match hd : Lib.decDigits u, hl with
    | [c], _ =>
      intro e
      simp at e
      rw [hd, e] at h3
      simp [val] at h3
      omega

theorem dec_zero : isDec [48] 0 := by
  refine ⟨by simp, ?_, rfl, by simp⟩
  intro c hc; simp at hc; subst hc; exact ⟨by decide, by decide⟩

end Dm
end Go.Proofs.YtaggfbffdbompaaDoor
