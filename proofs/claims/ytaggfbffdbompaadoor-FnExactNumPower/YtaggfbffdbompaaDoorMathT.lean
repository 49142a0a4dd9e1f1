/-
  Plain mathematics on adding and multiplying, of groups of nine digits and of digits: nothing here names the program.
-/
import Derived.Test.YtaggfbffdbompaaDoorMathL
import Derived.Test.YtaggfbffdbompaaDoorMathD
namespace Go.Proofs.YtaggfbffdbompaaDoor
namespace Lm

theorem small_set {P : List Nat} (h : small P) (k v : Nat) (hv : v < 1000000000) : small (P.set k v) := by
  intro x hx
  rcases List.mem_or_eq_of_mem_set hx with h1 | h1
  · exact h x h1
  · omega

theorem take_getD (zs : List Nat) (i : Nat) : lval (zs.take (i + 1)) = lval (zs.take i) + 1000000000 ^ i * zs.getD i 0 := by
  rcases Nat.lt_or_ge i zs.length with h1 | h1
  · rw [List.take_succ_eq_append_getElem h1, lval_snoc, List.length_take, Nat.min_eq_left (Nat.le_of_lt h1)]
    simp [List.getD, h1]
  · rw [List.take_of_length_le h1, List.take_of_length_le (by omega)]
    simp [List.getD, h1]

/-- A round of adding. -/

theorem plus_step (xs zs ys : List Nat) (i c x z : Nat) (hl : ys.length = i) (hx : x = xs.getD i 0) (hz : z = zs.getD i 0) (h : lval ys + 1000000000 ^ i * c = lval (xs.take i) + lval (zs.take i)) :
    lval (ys ++ [(c + x + z) % 1000000000]) + 1000000000 ^ (i + 1) * ((c + x + z) / 1000000000) = lval (xs.take (i + 1)) + lval (zs.take (i + 1)) := by
  rw [take_getD, take_getD, ← hx, ← hz, lval_snoc, hl, Nat.pow_succ]
  have e := Nat.div_add_mod (c + x + z) 1000000000
  have e2 : 1000000000 ^ i * (c + x + z) = 1000000000 ^ i * 1000000000 * ((c + x + z) / 1000000000) + 1000000000 ^ i * ((c + x + z) % 1000000000) := by
    rw [Nat.mul_assoc, ← Nat.mul_add, e]
  rw [Nat.mul_add, Nat.mul_add] at e2
  omega

theorem plus_end (xs zs ys : List Nat) (L c : Nat) (hx : small xs) (hz : small zs) (hl : ys.length = L) (h1 : xs.length < L) (h2 : zs.length < L)
    (h : lval ys + 1000000000 ^ L * c = lval (xs.take L) + lval (zs.take L)) : lval ys = lval xs + lval zs := by
  rw [List.take_of_length_le (by omega), List.take_of_length_le (by omega)] at h
  have g1 := lval_lt xs hx
  have g2 := lval_lt zs hz
  have p1 : 1000000000 ^ xs.length ≤ 1000000000 ^ (L - 1) := Nat.pow_le_pow_right (by omega) (by omega)
  have p2 : 1000000000 ^ zs.length ≤ 1000000000 ^ (L - 1) := Nat.pow_le_pow_right (by omega) (by omega)
  have e : 1000000000 ^ L = 1000000000 ^ (L - 1) * 1000000000 := by rw [← Nat.pow_succ]; congr 1; omega
  have hc : c = 0 := by
    match c with
    | 0 => rfl
    | c + 1 =>
      rw [Nat.mul_add] at h
      omega
  subst hc
  omega

/-- A round within of multiplying: the group at place i + j is p, what comes is t. -/

theorem mul_step (P zs : List Nat) (i j c x V p z t : Nat) (hk : i + j < P.length) (hj : j < zs.length) (hp : p = P[i + j]) (hz : z = zs[j]) (ht : t = c + (p + x * z))
    (h : lval P + 1000000000 ^ (i + j) * c = V + 1000000000 ^ i * (x * lval (zs.take j))) :
    lval (P.set (i + j) (t % 1000000000)) + 1000000000 ^ (i + (j + 1)) * (t / 1000000000) = V + 1000000000 ^ i * (x * lval (zs.take (j + 1))) := by
  have hs := lval_set P (i + j) hk (t % 1000000000)
  rw [← hp] at hs
  rw [List.take_succ_eq_append_getElem hj, lval_snoc, List.length_take, Nat.min_eq_left (Nat.le_of_lt hj), ← hz]
  have e := Nat.div_add_mod t 1000000000
  have e2 : 1000000000 ^ (i + j) * t = 1000000000 ^ (i + (j + 1)) * (t / 1000000000) + 1000000000 ^ (i + j) * (t % 1000000000) := by
    rw [show i + (j + 1) = (i + j) + 1 from by omega, Nat.pow_succ, Nat.mul_assoc, ← Nat.mul_add, e]
  have e3 : 1000000000 ^ i * (x * (lval (zs.take j) + 1000000000 ^ j * z)) = 1000000000 ^ i * (x * lval (zs.take j)) + 1000000000 ^ (i + j) * (x * z) := by
    rw [Nat.mul_add, Nat.mul_add, Nat.pow_add]
    congr 1
    rw [Nat.mul_left_comm x, ← Nat.mul_assoc]
  have e4 : 1000000000 ^ (i + j) * t = 1000000000 ^ (i + j) * c + 1000000000 ^ (i + j) * p + 1000000000 ^ (i + j) * (x * z) := by
    rw [ht, Nat.mul_add, Nat.mul_add]; omega
  rw [e3]
  omega

theorem mul_word (c p x z : Nat) (hc : c < 1000000000) (hp : p < 1000000000) (hx : x < 1000000000) (hz : z < 1000000000) : c + (p + x * z) < 1000000000 * 1000000000 := by
  have : x * z ≤ 999999999 * 999999999 := Nat.mul_le_mul (by omega) (by omega)
  omega

/-- The end of a round of multiplying: the group at place i + the other's length is nought, and is c then. -/

theorem mul_round (P xs zs : List Nat) (i c : Nat) (hi : i < xs.length) (hk : i + zs.length < P.length) (hp : P[i + zs.length] = 0)
    (h : lval P + 1000000000 ^ (i + zs.length) * c = lval (xs.take i) * lval zs + 1000000000 ^ i * (xs[i] * lval zs)) :
    lval (P.set (i + zs.length) c) = lval (xs.take (i + 1)) * lval zs := by
  have hs := lval_set P (i + zs.length) hk c
  rw [hp] at hs
  rw [List.take_succ_eq_append_getElem hi, lval_snoc, List.length_take, Nat.min_eq_left (Nat.le_of_lt hi), Nat.add_mul, Nat.mul_assoc]
  omega

/-- All groups from a place on are nought. -/
def tail0 (P : List Nat) (b : Nat) : Prop := ∀ k (h : k < P.length), b ≤ k → P[k] = 0

theorem tail0_set {P : List Nat} {b : Nat} (h : tail0 P b) (a v : Nat) (ha : a < b) : tail0 (P.set a v) b := by
  intro k hk hb
  rw [List.getElem_set_ne (by omega)]
  exact h k (by simpa using hk) hb

theorem tail0_mono {P : List Nat} {b b' : Nat} (h : tail0 P b) (hb : b ≤ b') : tail0 P b' := fun k hk hb' => h k hk (by omega)

theorem tail0_zeros (n b : Nat) : tail0 (List.replicate n 0) b := fun k hk _ => by simp

theorem small_zeros (n : Nat) : small (List.replicate n 0) := by
  intro x hx; simp at hx; omega
end Lm
namespace Dm

theorem lv_set (xs : List Nat) (k : Nat) (hk : k < xs.length) (v : Nat) : lv (xs.set k v) + 10 ^ k * xs[k] = lv xs + 10 ^ k * v := by
  induction xs generalizing k with
  | nil => simp at hk
  | cons x l ih =>
    match k with
    | 0 => simp [lv]; omega
    | k + 1 =>
      simp only [List.length_cons, Nat.add_lt_add_iff_right] at hk
      have := ih k hk
      simp only [List.set_cons_succ, lv, List.getElem_cons_succ, Nat.pow_succ]
      have e1 : ∀ t, 10 ^ k * 10 * t = 10 * (10 ^ k * t) := by
        intro t; rw [Nat.mul_comm (10 ^ k), Nat.mul_assoc]
      rw [e1, e1]
      omega

theorem lv_zeros (n : Nat) : lv (List.replicate n 0) = 0 := by
  induction n with
  | zero => rfl
  | succ n ih => simp [List.replicate_succ, lv, ih]

theorem lv_get_le (xs : List Nat) (k : Nat) (hk : k < xs.length) : 10 ^ k * xs[k] ≤ lv xs := by
  have := lv_set xs k hk 0
  omega

/-- What a round within adds. -/

theorem mul_add (P : List Nat) (i k d Y V : Nat) (hk : i + k < P.length) (h : lv P = V + 10 ^ i * (d * (Y % 10 ^ k))) :
    lv (P.set (i + k) (P[i + k] + d * (Y / 10 ^ k % 10))) = V + 10 ^ i * (d * (Y % 10 ^ (k + 1))) := by
  have hs := lv_set P (i + k) hk (P[i + k] + d * (Y / 10 ^ k % 10))
  rw [mod_succ]
  have e3 : 10 ^ i * (d * (Y % 10 ^ k + 10 ^ k * (Y / 10 ^ k % 10))) = 10 ^ i * (d * (Y % 10 ^ k)) + 10 ^ (i + k) * (d * (Y / 10 ^ k % 10)) := by
    rw [Nat.mul_add, Nat.mul_add, Nat.pow_add]
    congr 1
    rw [Nat.mul_left_comm d, ← Nat.mul_assoc]
  rw [e3]
  rw [Nat.mul_add] at hs
  omega

theorem mul_next (x y i : Nat) : x % 10 ^ i * y + 10 ^ i * (x / 10 ^ i % 10 * y) = x % 10 ^ (i + 1) * y := by
  rw [mod_succ, Nat.add_mul, Nat.mul_assoc]

/-- What is carried from a place to the next one. -/

theorem carry_lv (P : List Nat) (j : Nat) (hj : j + 1 < P.length) :
    lv ((P.set (j + 1) (P[j + 1] + P[j] / 10)).set j (P[j] % 10)) = lv P := by
  have h1 := lv_set P (j + 1) hj (P[j + 1] + P[j] / 10)
  have h2 := lv_set (P.set (j + 1) (P[j + 1] + P[j] / 10)) j (by simp; omega) (P[j] % 10)
  rw [List.getElem_set_ne (by omega)] at h2
  have e := Nat.div_add_mod P[j] 10
  have e2 : 10 ^ j * P[j] = 10 ^ (j + 1) * (P[j] / 10) + 10 ^ j * (P[j] % 10) := by
    rw [Nat.pow_succ, Nat.mul_assoc, ← Nat.mul_add, e]
  rw [Nat.mul_add] at h1
  omega

/-- All places below a bound. -/
def allBelow (P : List Nat) (b : Nat) : Prop := ∀ k (h : k < P.length), P[k] < b

theorem top_lt (P : List Nat) (L : Nat) (hl : P.length = L) (hL : 0 < L) (hv : lv P < 10 ^ L) : P[L - 1] < 10 := by
  have h := lv_get_le P (L - 1) (by omega)
  have e : 10 ^ L = 10 ^ (L - 1) * 10 := by rw [← Nat.pow_succ]; congr 1; omega
  rw [e] at hv
  exact Nat.lt_of_mul_lt_mul_left (Nat.lt_of_le_of_lt h hv)

end Dm
end Go.Proofs.YtaggfbffdbompaaDoor
