/-
  Plain mathematics on lists of digits: nothing here names the program.
-/
namespace Go.Proofs.YtaggfbffdbompaaDoor
namespace Dm

/-- The number that a list of digits stands for. -/
def val (l : List UInt8) : Nat := l.foldl (fun v c => v * 10 + (c.toNat - 48)) 0

def isDig (c : UInt8) : Prop := 48 ≤ c.toNat ∧ c.toNat ≤ 57

theorem foldl_val (l : List UInt8) (a : Nat) : l.foldl (fun v c => v * 10 + (c.toNat - 48)) a = a * 10 ^ l.length + val l := by
  induction l generalizing a with
  | nil => simp [val]
  | cons c l ih =>
    simp only [val, List.foldl_cons, List.length_cons]
    rw [ih, ih (0 * 10 + (c.toNat - 48))]
    rw [Nat.pow_succ, Nat.add_mul, Nat.zero_mul, Nat.zero_add, Nat.mul_comm (10 ^ l.length) 10, Nat.mul_assoc, Nat.add_assoc]

theorem val_nil : val [] = 0 := rfl

theorem val_cons (c : UInt8) (l : List UInt8) : val (c :: l) = (c.toNat - 48) * 10 ^ l.length + val l := by
  have := foldl_val l (0 * 10 + (c.toNat - 48))
  simpa [val] using this

theorem val_append (a b : List UInt8) : val (a ++ b) = val a * 10 ^ b.length + val b := by
  unfold val
  rw [List.foldl_append]
  exact foldl_val b _

theorem val_snoc (a : List UInt8) (c : UInt8) : val (a ++ [c]) = val a * 10 + (c.toNat - 48) := by
  rw [val_append]; simp [val]

theorem val_lt (l : List UInt8) (h : ∀ c ∈ l, isDig c) : val l < 10 ^ l.length := by
  induction l with
  | nil => simp [val]
  | cons c l ih =>
    rw [val_cons, List.length_cons, Nat.pow_succ]
    have h1 := ih (fun c hc => h c (List.mem_cons_of_mem _ hc))
    have h2 := (h c (List.mem_cons_self ..)).2
    have : (c.toNat - 48) * 10 ^ l.length ≤ 9 * 10 ^ l.length := Nat.mul_le_mul_right _ (by omega)
    omega

/-- A list of digits without needless noughts, that stands for n. -/
def isDec (l : List UInt8) (n : Nat) : Prop :=
  l ≠ [] ∧ (∀ c ∈ l, isDig c) ∧ val l = n ∧ (1 < l.length → l.head? ≠ some 48)

theorem uint8_ext (a b : UInt8) (h : a.toNat = b.toNat) : a = b := UInt8.toNat_inj.1 h

theorem isDec_low (l : List UInt8) (n : Nat) (h : isDec l n) (h1 : 1 < l.length) : 10 ^ (l.length - 1) ≤ n := by
  obtain ⟨h0, hd, hv, hz⟩ := h
  match l, h1 with
  | c :: l, h1 =>
    rw [val_cons] at hv
    have hc := hd c (List.mem_cons_self ..)
    have hne : c.toNat ≠ 48 := by
      intro e
      have : c = 48 := uint8_ext _ _ e
      exact hz h1 (by rw [this]; rfl)
    have : 1 * 10 ^ l.length ≤ (c.toNat - 48) * 10 ^ l.length := Nat.mul_le_mul_right _ (by have := hc.1; omega)
    simp only [List.length_cons, Nat.add_sub_cancel]
    omega

theorem isDec_high (l : List UInt8) (n : Nat) (h : isDec l n) : n < 10 ^ l.length := by
  obtain ⟨_, hd, hv, _⟩ := h; rw [← hv]; exact val_lt l hd

theorem isDec_len_lt (a b : List UInt8) (x y : Nat) (ha : isDec a x) (hb : isDec b y) (h : a.length < b.length) : x < y := by
  have h1 := isDec_high a x ha
  have : 1 < b.length := by
    have := List.length_pos_iff.2 ha.1
    omega
  have h2 := isDec_low b y hb this
  have h3 : 10 ^ a.length ≤ 10 ^ (b.length - 1) := Nat.pow_le_pow_right (by omega) (by omega)
  omega

theorem val_inj (a b : List UInt8) (ha : ∀ c ∈ a, isDig c) (hb : ∀ c ∈ b, isDig c) (hl : a.length = b.length) (hv : val a = val b) : a = b := by
  induction a generalizing b with
  | nil => exact (List.length_eq_zero_iff.1 hl.symm).symm
  | cons c a ih =>
    match b, hl with
    | d :: b, hl =>
      simp only [List.length_cons, Nat.add_right_cancel_iff] at hl
      rw [val_cons, val_cons, hl] at hv
      have h1 := val_lt a (fun c hc => ha c (List.mem_cons_of_mem _ hc))
      have h2 := val_lt b (fun c hc => hb c (List.mem_cons_of_mem _ hc))
      rw [hl] at h1
      have e1 := congrArg (· / 10 ^ b.length) hv
      have e2 := congrArg (· % 10 ^ b.length) hv
      simp only [Nat.mul_add_mod_self_right, Nat.mod_eq_of_lt h1, Nat.mod_eq_of_lt h2] at e2
      have hp : 0 < 10 ^ b.length := Nat.pow_pos (by omega)
      simp only [Nat.add_comm _ (val a), Nat.add_comm _ (val b), Nat.add_mul_div_right _ _ hp, Nat.div_eq_of_lt h1, Nat.div_eq_of_lt h2] at e1
      have hc := ha c (List.mem_cons_self ..)
      have hd := hb d (List.mem_cons_self ..)
      have : c = d := uint8_ext _ _ (by have := hc.1; have := hd.1; omega)
      rw [this, ih b (fun c hc => ha c (List.mem_cons_of_mem _ hc)) (fun c hc => hb c (List.mem_cons_of_mem _ hc)) hl e2]

theorem isDec_unique (a b : List UInt8) (n : Nat) (ha : isDec a n) (hb : isDec b n) : a = b := by
  have hl : a.length = b.length := by
    rcases Nat.lt_trichotomy a.length b.length with h | h | h
    · have := isDec_len_lt a b n n ha hb h; omega
    · exact h
    · have := isDec_len_lt b a n n hb ha h; omega
  exact val_inj a b ha.2.1 hb.2.1 hl (by rw [ha.2.2.1, hb.2.2.1])

theorem isDec_inj (a : List UInt8) (n m : Nat) (ha : isDec a n) (hb : isDec a m) : n = m := by rw [← ha.2.2.1, ← hb.2.2.1]

/-- The list without noughts ahead, the last one left. -/
def trimZ : List UInt8 → List UInt8
  | [] => []
  | [c] => [c]
  | c :: d :: l => if c = 48 then trimZ (d :: l) else c :: d :: l

theorem trimZ_sub (l : List UInt8) : ∀ c ∈ trimZ l, c ∈ l := by
  induction l with
  | nil => simp [trimZ]
  | cons c l ih =>
    match l, ih with
    | [], _ => simp [trimZ]
    | d :: l, ih =>
      unfold trimZ
      split
      · intro x hx; exact List.mem_cons_of_mem _ (ih x hx)
      · intro x hx; exact hx

theorem trimZ_val (l : List UInt8) : val (trimZ l) = val l := by
  induction l with
  | nil => rfl
  | cons c l ih =>
    match l, ih with
    | [], _ => rfl
    | d :: l, ih =>
      unfold trimZ
      split
      · next h => rw [ih, val_cons c (d :: l), h]; simp
      · rfl

theorem trimZ_dec (l : List UInt8) (h0 : l ≠ []) (hd : ∀ c ∈ l, isDig c) : isDec (trimZ l) (val l) := by
  refine ⟨?_, fun c hc => hd c (trimZ_sub l c hc), trimZ_val l, ?_⟩
  · induction l with
    | nil => exact absurd rfl h0
    | cons c l ih =>
      match l, ih with
      | [], _ => simp [trimZ]
      | d :: l, ih =>
        unfold trimZ
        split
        · exact ih (by simp) (fun c hc => hd c (List.mem_cons_of_mem _ hc))
        · simp
  · clear h0 hd
    induction l with
    | nil => simp [trimZ]
    | cons c l ih =>
      match l, ih with
      | [], _ => simp [trimZ]
      | d :: l, ih =>
        unfold trimZ
        split
        · exact ih
        · next h => intro _; simpa using h

/-- The digit k from the right. -/

theorem val_digit (l : List UInt8) (hd : ∀ c ∈ l, isDig c) (k : Nat) (hk : k < l.length) :
    val l / 10 ^ k % 10 = (l[l.length - 1 - k]'(by omega)).toNat - 48 := by
  have e : l = l.take (l.length - 1 - k) ++ l[l.length - 1 - k]'(by omega) :: l.drop (l.length - k) := by
    have h1 := List.take_append_drop (l.length - 1 - k) l
    have h2 := List.drop_eq_getElem_cons (l := l) (i := l.length - 1 - k) (by omega)
    rw [show l.length - 1 - k + 1 = l.length - k from by omega] at h2
    rw [← h2, h1]
  have hlen : (l.drop (l.length - k)).length = k := by simp; omega
  have hv : val l = val (l.take (l.length - 1 - k)) * 10 ^ (k + 1) + ((l[l.length - 1 - k]'(by omega)).toNat - 48) * 10 ^ k + val (l.drop (l.length - k)) := by
    have h3 := congrArg val e
    rw [val_append, val_cons, List.length_cons, hlen] at h3
    rw [h3, Nat.add_assoc]
  have hlt := val_lt (l.drop (l.length - k)) (fun c hc => hd c (List.mem_of_mem_drop hc))
  rw [hlen] at hlt
  have hc := hd (l[l.length - 1 - k]'(by omega)) (List.getElem_mem _)
  have hp : 0 < 10 ^ k := Nat.pow_pos (by omega)
  have h1 := hc.1
  have h2 := hc.2
  generalize (l[l.length - 1 - k]'(by omega)).toNat = d at *
  rw [hv, Nat.pow_succ, Nat.mul_comm (10 ^ k) 10, ← Nat.mul_assoc, ← Nat.add_mul, Nat.add_comm (_ * 10 ^ k), Nat.add_mul_div_right _ _ hp, Nat.div_eq_of_lt hlt]
  omega

theorem val_digit_past (l : List UInt8) (hd : ∀ c ∈ l, isDig c) (k : Nat) (hk : l.length ≤ k) : val l / 10 ^ k = 0 := by
  have := val_lt l hd
  have h2 : 10 ^ l.length ≤ 10 ^ k := Nat.pow_le_pow_right (by omega) hk
  exact Nat.div_eq_of_lt (by omega)


/-- The number that digits stand for, the lowest first. -/
def lv : List Nat → Nat
  | [] => 0
  | x :: l => x + 10 * lv l

theorem lv_snoc (a : List Nat) (x : Nat) : lv (a ++ [x]) = lv a + 10 ^ a.length * x := by
  induction a with
  | nil => simp [lv]
  | cons y a ih =>
    simp only [List.cons_append, lv, ih, List.length_cons, Nat.pow_succ]
    have e : 10 ^ a.length * 10 * x = 10 * (10 ^ a.length * x) := by rw [Nat.mul_comm (10 ^ a.length), Nat.mul_assoc]
    rw [e, Nat.mul_add]; omega

/-- A digit's sign. -/
def sg (d : Nat) : UInt8 := UInt8.ofNat (48 + d)

theorem sg_toNat (d : Nat) (h : d < 10) : (sg d).toNat = 48 + d := by
  simp [sg, UInt8.toNat_ofNat']; omega

theorem sg_dig (d : Nat) (h : d < 10) : isDig (sg d) := by
  unfold isDig; rw [sg_toNat d h]; omega

theorem val_rev (ds : List Nat) (h : ∀ d ∈ ds, d < 10) : val ((ds.map sg).reverse) = lv ds := by
  induction ds with
  | nil => rfl
  | cons d l ih =>
    simp only [List.map_cons, List.reverse_cons, val_snoc, lv]
    rw [ih (fun x hx => h x (List.mem_cons_of_mem _ hx)), sg_toNat d (h d (List.mem_cons_self ..))]
    omega

theorem rev_dig (ds : List Nat) (h : ∀ d ∈ ds, d < 10) : ∀ c ∈ (ds.map sg).reverse, isDig c := by
  intro c hc
  simp only [List.mem_reverse, List.mem_map] at hc
  obtain ⟨d, hd, rfl⟩ := hc
  exact sg_dig d (h d hd)

/-- What l1Text makes of digits. -/

theorem text_dec (ds : List Nat) (h0 : ds ≠ []) (h : ∀ d ∈ ds, d < 10) : isDec (trimZ ((ds.map sg).reverse)) (lv ds) := by
  have := trimZ_dec ((ds.map sg).reverse) (by simpa using h0) (rev_dig ds h)
  rwa [val_rev ds h] at this

/-- The digit k from the right, as l1At has it. -/
def at_ (l : List UInt8) (k : Nat) : Nat := if h : k < l.length then (l[l.length - 1 - k]'(by omega)).toNat - 48 else 0

theorem at_eq (l : List UInt8) (x : Nat) (hl : isDec l x) (k : Nat) : at_ l k = x / 10 ^ k % 10 := by
  unfold at_
  split
  · next h => rw [← hl.2.2.1, val_digit l hl.2.1 k h]
  · next h => rw [← hl.2.2.1, val_digit_past l hl.2.1 k (by omega)]

theorem at_lt (l : List UInt8) (x : Nat) (hl : isDec l x) (k : Nat) : at_ l k < 10 := by rw [at_eq l x hl]; omega

theorem mod_succ (x k : Nat) : x % 10 ^ (k + 1) = x % 10 ^ k + 10 ^ k * (x / 10 ^ k % 10) := by
  rw [Nat.pow_succ, Nat.mod_mul]

/-- A round of l1Add. -/

theorem add_step (x y k c : Nat) (ds : List Nat) (hl : ds.length = k) (hv : lv ds + 10 ^ k * c = x % 10 ^ k + y % 10 ^ k)  :
    lv (ds ++ [(x / 10 ^ k % 10 + y / 10 ^ k % 10 + c) % 10]) + 10 ^ (k + 1) * ((x / 10 ^ k % 10 + y / 10 ^ k % 10 + c) / 10) = x % 10 ^ (k + 1) + y % 10 ^ (k + 1) := by
  rw [lv_snoc, hl, mod_succ, mod_succ, Nat.pow_succ]
  generalize x / 10 ^ k % 10 = a at *
  generalize y / 10 ^ k % 10 = b at *
  have e : a + b + c = 10 * ((a + b + c) / 10) + (a + b + c) % 10 := by omega
  have e2 : 10 ^ k * (a + b + c) = 10 ^ k * 10 * ((a + b + c) / 10) + 10 ^ k * ((a + b + c) % 10) := by
    rw [Nat.mul_assoc, ← Nat.mul_add, ← e]
  rw [Nat.mul_add, Nat.mul_add] at e2
  omega

/-- A round of l1Sub: what is borrowed is c, what comes is d, what is borrowed then is c'. -/

theorem sub_step (x y k c d c' : Nat) (ds : List Nat) (hl : ds.length = k) (hv : lv ds + y % 10 ^ k = x % 10 ^ k + 10 ^ k * c)
    (hd : d + (y / 10 ^ k % 10 + c) = x / 10 ^ k % 10 + 10 * c') :
    lv (ds ++ [d]) + y % 10 ^ (k + 1) = x % 10 ^ (k + 1) + 10 ^ (k + 1) * c' := by
  rw [lv_snoc, hl, mod_succ, mod_succ, Nat.pow_succ]
  generalize x / 10 ^ k % 10 = a at *
  generalize y / 10 ^ k % 10 = b at *
  have e2 := congrArg (10 ^ k * ·) hd
  simp only [Nat.mul_add] at e2
  have e3 : 10 ^ k * (10 * c') = 10 ^ k * 10 * c' := by rw [Nat.mul_assoc]
  omega

theorem sub_end (x y k c : Nat) (ds : List Nat) (hx : x < 10 ^ k) (hy : y ≤ x) (hds : lv ds < 10 ^ k) (hv : lv ds + y % 10 ^ k = x % 10 ^ k + 10 ^ k * c) : lv ds = x - y := by
  rw [Nat.mod_eq_of_lt hx, Nat.mod_eq_of_lt (by omega)] at hv
  have hc : c = 0 := by
    match c with
    | 0 => rfl
    | c + 1 =>
      rw [Nat.mul_add] at hv
      omega
  subst hc
  omega

theorem lv_lt (ds : List Nat) (h : ∀ d ∈ ds, d < 10) : lv ds < 10 ^ ds.length := by
  induction ds with
  | nil => simp [lv]
  | cons d l ih =>
    have h1 := ih (fun x hx => h x (List.mem_cons_of_mem _ hx))
    have h2 := h d (List.mem_cons_self ..)
    simp only [lv, List.length_cons, Nat.pow_succ]
    omega

/-- A digit more, as l1Div reads: the list without noughts ahead. -/

theorem div_read (l : List UInt8) (r : Nat) (c : UInt8) (hl : isDec l r) (hc : isDig c) : isDec (trimZ (l ++ [c])) (r * 10 + (c.toNat - 48)) := by
  have := trimZ_dec (l ++ [c]) (by simp) (by
    intro d hd
    rcases List.mem_append.1 hd with h | h
    · exact hl.2.1 d h
    · simp at h; rw [h]; exact hc)
  rwa [val_snoc, hl.2.2.1] at this

end Dm
end Go.Proofs.YtaggfbffdbompaaDoor
