/-
  Plain mathematics on lists of groups of nine digits: nothing here names the program.
-/
namespace Go.Proofs.YtaggfbffdbompaaDoor
namespace Lm

/-- The number that a list of groups stands for, the lowest first. -/
def lval : List Nat → Nat
  | [] => 0
  | x :: l => x + 1000000000 * lval l

def small (xs : List Nat) : Prop := ∀ x ∈ xs, x < 1000000000

theorem lval_append (a b : List Nat) : lval (a ++ b) = lval a + 1000000000 ^ a.length * lval b := by
  induction a with
  | nil => simp [lval]
  | cons x a ih =>
    simp only [List.cons_append, lval, ih, List.length_cons, Nat.pow_succ]
    have e : 1000000000 ^ a.length * 1000000000 * lval b = 1000000000 * (1000000000 ^ a.length * lval b) := by
      rw [Nat.mul_comm (1000000000 ^ a.length), Nat.mul_assoc]
    rw [e, Nat.mul_add]; omega

theorem lval_snoc (a : List Nat) (x : Nat) : lval (a ++ [x]) = lval a + 1000000000 ^ a.length * x := by
  rw [lval_append]; simp [lval]

theorem lval_lt (xs : List Nat) (h : small xs) : lval xs < 1000000000 ^ xs.length := by
  induction xs with
  | nil => simp [lval]
  | cons x l ih =>
    have h1 := ih (fun y hy => h y (List.mem_cons_of_mem _ hy))
    have h2 := h x (List.mem_cons_self ..)
    simp only [lval, List.length_cons, Nat.pow_succ]
    omega

theorem small_append {a b : List Nat} (ha : small a) (hb : small b) : small (a ++ b) := by
  intro x hx; rcases List.mem_append.1 hx with h | h
  · exact ha x h
  · exact hb x h

theorem small_take {a : List Nat} (ha : small a) (k : Nat) : small (a.take k) := fun x hx => ha x (List.mem_of_mem_take hx)

theorem small_drop {a : List Nat} (ha : small a) (k : Nat) : small (a.drop k) := fun x hx => ha x (List.mem_of_mem_drop hx)

theorem small_one {x : Nat} (h : x < 1000000000) : small [x] := by intro y hy; simp at hy; omega

theorem small_nil : small [] := by intro y hy; simp at hy

/-- Groups without noughts at the top, that stand for n. -/
def isNat (xs : List Nat) (n : Nat) : Prop := lval xs = n ∧ small xs ∧ xs.getLast? ≠ some 0

theorem isNat_nil : isNat [] 0 := ⟨rfl, small_nil, by simp⟩

theorem lval_inj (a b : List Nat) (ha : small a) (hb : small b) (hl : a.length = b.length) (hv : lval a = lval b) : a = b := by
  induction a generalizing b with
  | nil => exact (List.length_eq_zero_iff.1 hl.symm).symm
  | cons x a ih =>
    match b, hl with
    | y :: b, hl =>
      simp only [lval] at hv
      have h1 := ha x (List.mem_cons_self ..)
      have h2 := hb y (List.mem_cons_self ..)
      simp only [List.length_cons, Nat.add_right_cancel_iff] at hl
      have : x = y := by omega
      have h3 := ih b (fun c hc => ha c (List.mem_cons_of_mem _ hc)) (fun c hc => hb c (List.mem_cons_of_mem _ hc)) hl (by omega)
      rw [this, h3]

theorem isNat_low (xs : List Nat) (n : Nat) (h : isNat xs n) (h0 : xs ≠ []) : 1000000000 ^ (xs.length - 1) ≤ n := by
  obtain ⟨hv, hs, hz⟩ := h
  have e := List.dropLast_concat_getLast h0
  rw [← hv, ← e, lval_snoc]
  rw [List.getLast?_eq_some_getLast h0] at hz
  have hz' : xs.getLast h0 ≠ 0 := fun h => hz (by rw [h])
  simp only [List.length_append, List.length_dropLast, List.length_cons, List.length_nil]
  have : 1000000000 ^ (xs.length - 1) * 1 ≤ 1000000000 ^ (xs.length - 1) * xs.getLast h0 := Nat.mul_le_mul_left _ (by omega)
  rw [show xs.length - 1 + (0 + 1) - 1 = xs.length - 1 from by omega]
  omega

theorem isNat_high (xs : List Nat) (n : Nat) (h : isNat xs n) : n < 1000000000 ^ xs.length := by rw [← h.1]; exact lval_lt xs h.2.1

theorem isNat_len_lt (a b : List Nat) (x y : Nat) (ha : isNat a x) (hb : isNat b y) (h : a.length < b.length) : x < y := by
  have h1 := isNat_high a x ha
  have h2 := isNat_low b y hb (by intro e; rw [e] at h; simp at h)
  have h3 : 1000000000 ^ a.length ≤ 1000000000 ^ (b.length - 1) := Nat.pow_le_pow_right (by omega) (by omega)
  omega

theorem isNat_unique (a b : List Nat) (n : Nat) (ha : isNat a n) (hb : isNat b n) : a = b := by
  have hl : a.length = b.length := by
    rcases Nat.lt_trichotomy a.length b.length with h | h | h
    · have := isNat_len_lt a b n n ha hb h; omega
    · exact h
    · have := isNat_len_lt b a n n hb ha h; omega
  exact lval_inj a b ha.2.1 hb.2.1 hl (by rw [ha.1, hb.1])

theorem isNat_zero (xs : List Nat) (h : isNat xs 0) : xs = [] := isNat_unique xs [] 0 h isNat_nil

theorem isNat_pos_ne (xs : List Nat) (n : Nat) (h : isNat xs n) (hn : n ≠ 0) : xs ≠ [] := by
  intro e; rw [e] at h; exact hn (h.1.symm.trans rfl)

theorem isNat_length (xs : List Nat) (n L : Nat) (h : isNat xs n) (hn : n < 1000000000 ^ L) : xs.length ≤ L := by
  rcases Nat.lt_or_ge L xs.length with h1 | h1
  · have h2 := isNat_low xs n h (by intro e; rw [e] at h1; simp at h1)
    have h3 : 1000000000 ^ L ≤ 1000000000 ^ (xs.length - 1) := Nat.pow_le_pow_right (by omega) (by omega)
    omega
  · exact h1

/-- The lowest groups and the others. -/

theorem lval_take_drop (xs : List Nat) (k : Nat) (hk : k ≤ xs.length) : lval xs = lval (xs.take k) + 1000000000 ^ k * lval (xs.drop k) := by
  have h := lval_append (xs.take k) (xs.drop k)
  rw [List.take_append_drop] at h
  rw [h]; simp [Nat.min_eq_left hk]

theorem lval_set (xs : List Nat) (k : Nat) (hk : k < xs.length) (v : Nat) : lval (xs.set k v) + 1000000000 ^ k * xs[k] = lval xs + 1000000000 ^ k * v := by
  induction xs generalizing k with
  | nil => simp at hk
  | cons x l ih =>
    match k with
    | 0 => simp [lval]; omega
    | k + 1 =>
      simp only [List.length_cons, Nat.add_lt_add_iff_right] at hk
      have := ih k hk
      simp only [List.set_cons_succ, lval, List.getElem_cons_succ, Nat.pow_succ]
      have e1 : ∀ t, 1000000000 ^ k * 1000000000 * t = 1000000000 * (1000000000 ^ k * t) := by
        intro t; rw [Nat.mul_comm (1000000000 ^ k), Nat.mul_assoc]
      rw [e1, e1]
      omega

theorem lval_zeros (n : Nat) : lval (List.replicate n 0) = 0 := by
  induction n with
  | zero => rfl
  | succ n ih => simp [List.replicate_succ, lval, ih]

/-- The groups without the noughts at the top. -/

theorem lval_drop_zero (xs : List Nat) (h : xs.getLast? = some 0) : lval (xs.take (xs.length - 1)) = lval xs := by
  have h0 : xs ≠ [] := by intro e; rw [e] at h; simp at h
  have e := List.dropLast_concat_getLast h0
  rw [List.getLast?_eq_some_getLast h0] at h
  have hz : xs.getLast h0 = 0 := by simpa using h
  rw [← List.dropLast_eq_take]
  have := congrArg lval e
  rw [lval_snoc, hz] at this
  simpa using this

/-- Compared from the top. -/

theorem lval_lt_of_top (a b : List Nat) (ha : small a) (k : Nat) (hk : k < a.length) (hl : a.length = b.length)
    (htop : a.drop (k + 1) = b.drop (k + 1)) (h : a[k] < b[k]) : lval a < lval b := by
  rw [lval_take_drop a k (by omega), lval_take_drop b k (by omega), List.drop_eq_getElem_cons hk, List.drop_eq_getElem_cons (l := b) (by omega), htop]
  have h1 := lval_lt (a.take k) (small_take ha k)
  simp only [List.length_take, Nat.min_eq_left (Nat.le_of_lt hk)] at h1
  simp only [lval]
  have : 1000000000 ^ k * (a[k] + 1) ≤ 1000000000 ^ k * b[k] := Nat.mul_le_mul_left _ h
  rw [Nat.mul_add, Nat.mul_add] 
  rw [Nat.mul_add] at this
  omega

end Lm
end Go.Proofs.YtaggfbffdbompaaDoor
