/-
  What a digit is in a radix; the specification's small numbers, digits and reading of digits.
-/
import Derived.Test.YtgckhkddjckfaagDoorPr1
import Derived.Test.YtgckhkddjckfaagDoorSpec3
import Derived.Test.YtgckhkddjckfaagDoorSpec5
import Derived.Deep.RegionWith
import Derived.Deep.RegionHeld3
import Derived.Deep.DrawnRows
namespace Go.Proofs.YtgckhkddjckfaagDoor
set_option maxRecDepth 100000
set_option linter.unusedVariables false
set_option linter.unusedSimpArgs false
open Go.RowKit
attribute [local go_sem ↓] Go.wp_at_zero Go.wp_at_succ

/-- What a sign stands for as a digit, 99 if it is none. -/
def dgV (c : UInt8) : Nat := if 48 ≤ c.toNat ∧ c.toNat ≤ 57 then c.toNat - 48 else if 97 ≤ c.toNat ∧ c.toNat ≤ 102 then c.toNat - 87 else 99
/-- The number that digits stand for in a radix. -/
def rv (r : Nat) (l : List UInt8) : Nat := l.foldl (fun v c => v * r + dgV c) 0

theorem rv_snoc (r : Nat) (l : List UInt8) (c : UInt8) : rv r (l ++ [c]) = rv r l * r + dgV c := by simp [rv]
/-- Digits of a radix, one at least. -/
def okR (r : Nat) (l : List UInt8) : Bool := !l.isEmpty && l.all (fun c => decide (dgV c < r))

theorem rv_lt (r : Nat) (l : List UInt8) (hr : 1 ≤ r) (h : ∀ c ∈ l, dgV c < r) : rv r l < r ^ l.length := by
  have key : ∀ (l : List UInt8) (v : Nat), (∀ c ∈ l, dgV c < r) → l.foldl (fun v c => v * r + dgV c) v < (v + 1) * r ^ l.length := by
    intro l
    induction l with
    | nil => intro v _; simp
    | cons c t ih =>
      intro v h
      have h1 := ih (v * r + dgV c) (fun x hx => h x (List.mem_cons_of_mem _ hx))
      have h2 := h c (List.mem_cons_self ..)
      simp only [List.foldl_cons, List.length_cons]
      refine Nat.lt_of_lt_of_le h1 ?_
      rw [Nat.pow_succ, Nat.mul_comm (r ^ t.length) r, ← Nat.mul_assoc]
      refine Nat.mul_le_mul_right _ ?_
      rw [Nat.add_mul, Nat.one_mul]; omega
  have := key l 0 h
  simpa [rv] using this

set_option maxHeartbeats 1600000 in
theorem l1Small_10 (w : World) : Calls Tryd.prog 20 #[.int .i64 10] w fun e w' => (∃ t : ByteArray, e = .returned (.string t) ∧ Hid (t = ⟨#[49, 48]⟩)) ∧ Below w.heap.size w w' := by
  have hcv := string_at (w.alloc (Obj.cells #[.int .u8 48] 5)).drew w.heap.size 48 48 rfl (new_row w _)
  have hw1 : IntKind.i64.wrap 1 = 1 := by decide
  have hw2 : IntKind.i64.wrap 48 = 48 := by decide
  have hw3 : IntKind.u8.wrap 48 = 48 := by decide
  have hr : (w.alloc (Obj.cells #[.int .u8 48] 5)).drew.heap[w.heap.size]? = some (Obj.cells #[.int .u8 48] 5) := new_row w _
  go_enter Tryd.func20, Tryd.ntmps20
  go_wp2_with fail
  go_region_with (first
 | (go_at_call 20; refine (l1Small_one 1 _ (by omega)).mono ?_; rintro e w1 ⟨⟨t, rfl, ht⟩, hb1⟩
    have HB : Hid (Below w.heap.size w w1) := bel_step (by repeat' first | exact Below.refl _ _ | refine bel_new ?_ | refine bel_draw ?_) hb1
    (try (have hcv1 := string_at w1 w.heap.size 48 48 rfl (row_on hr hb1)))
    have hcv2 := string_at (w1.alloc (Obj.cells #[.int .u8 48] 5)) w1.heap.size 48 48 rfl (new_row w1 _)
    have ht' : t = ⟨#[49]⟩ := ht.out
    clear hb1 ht
    subst ht'))
  all_goals
    go_wp2
    go_ret
    refine ⟨⟨_, rfl, ?_⟩, ?_⟩
    · show _ = _
      rfl
    · first | exact HB.out | exact bel_new HB.out

set_option maxHeartbeats 1600000 in
theorem l1Small_11 (w : World) : Calls Tryd.prog 20 #[.int .i64 11] w fun e w' => (∃ t : ByteArray, e = .returned (.string t) ∧ Hid (t = ⟨#[49, 49]⟩)) ∧ Below w.heap.size w w' := by
  have hcv := string_at (w.alloc (Obj.cells #[.int .u8 49] 5)).drew w.heap.size 49 49 rfl (new_row w _)
  have hw1 : IntKind.i64.wrap 1 = 1 := by decide
  have hw2 : IntKind.i64.wrap 49 = 49 := by decide
  have hw3 : IntKind.u8.wrap 49 = 49 := by decide
  have hr : (w.alloc (Obj.cells #[.int .u8 49] 5)).drew.heap[w.heap.size]? = some (Obj.cells #[.int .u8 49] 5) := new_row w _
  go_enter Tryd.func20, Tryd.ntmps20
  go_wp2_with fail
  go_region_with (first
 | (go_at_call 20; refine (l1Small_one 1 _ (by omega)).mono ?_; rintro e w1 ⟨⟨t, rfl, ht⟩, hb1⟩
    have HB : Hid (Below w.heap.size w w1) := bel_step (by repeat' first | exact Below.refl _ _ | refine bel_new ?_ | refine bel_draw ?_) hb1
    (try (have hcv1 := string_at w1 w.heap.size 49 49 rfl (row_on hr hb1)))
    have hcv2 := string_at (w1.alloc (Obj.cells #[.int .u8 49] 5)) w1.heap.size 49 49 rfl (new_row w1 _)
    have ht' : t = ⟨#[49]⟩ := ht.out
    clear hb1 ht
    subst ht'))
  all_goals
    go_wp2
    go_ret
    refine ⟨⟨_, rfl, ?_⟩, ?_⟩
    · show _ = _
      rfl
    · first | exact HB.out | exact bel_new HB.out

set_option maxHeartbeats 1600000 in
theorem l1Small_12 (w : World) : Calls Tryd.prog 20 #[.int .i64 12] w fun e w' => (∃ t : ByteArray, e = .returned (.string t) ∧ Hid (t = ⟨#[49, 50]⟩)) ∧ Below w.heap.size w w' := by
  have hcv := string_at (w.alloc (Obj.cells #[.int .u8 50] 5)).drew w.heap.size 50 50 rfl (new_row w _)
  have hw1 : IntKind.i64.wrap 1 = 1 := by decide
  have hw2 : IntKind.i64.wrap 50 = 50 := by decide
  have hw3 : IntKind.u8.wrap 50 = 50 := by decide
  have hr : (w.alloc (Obj.cells #[.int .u8 50] 5)).drew.heap[w.heap.size]? = some (Obj.cells #[.int .u8 50] 5) := new_row w _
  go_enter Tryd.func20, Tryd.ntmps20
  go_wp2_with fail
  go_region_with (first
 | (go_at_call 20; refine (l1Small_one 1 _ (by omega)).mono ?_; rintro e w1 ⟨⟨t, rfl, ht⟩, hb1⟩
    have HB : Hid (Below w.heap.size w w1) := bel_step (by repeat' first | exact Below.refl _ _ | refine bel_new ?_ | refine bel_draw ?_) hb1
    (try (have hcv1 := string_at w1 w.heap.size 50 50 rfl (row_on hr hb1)))
    have hcv2 := string_at (w1.alloc (Obj.cells #[.int .u8 50] 5)) w1.heap.size 50 50 rfl (new_row w1 _)
    have ht' : t = ⟨#[49]⟩ := ht.out
    clear hb1 ht
    subst ht'))
  all_goals
    go_wp2
    go_ret
    refine ⟨⟨_, rfl, ?_⟩, ?_⟩
    · show _ = _
      rfl
    · first | exact HB.out | exact bel_new HB.out

set_option maxHeartbeats 1600000 in
theorem l1Small_13 (w : World) : Calls Tryd.prog 20 #[.int .i64 13] w fun e w' => (∃ t : ByteArray, e = .returned (.string t) ∧ Hid (t = ⟨#[49, 51]⟩)) ∧ Below w.heap.size w w' := by
  have hcv := string_at (w.alloc (Obj.cells #[.int .u8 51] 5)).drew w.heap.size 51 51 rfl (new_row w _)
  have hw1 : IntKind.i64.wrap 1 = 1 := by decide
  have hw2 : IntKind.i64.wrap 51 = 51 := by decide
  have hw3 : IntKind.u8.wrap 51 = 51 := by decide
  have hr : (w.alloc (Obj.cells #[.int .u8 51] 5)).drew.heap[w.heap.size]? = some (Obj.cells #[.int .u8 51] 5) := new_row w _
  go_enter Tryd.func20, Tryd.ntmps20
  go_wp2_with fail
  go_region_with (first
 | (go_at_call 20; refine (l1Small_one 1 _ (by omega)).mono ?_; rintro e w1 ⟨⟨t, rfl, ht⟩, hb1⟩
    have HB : Hid (Below w.heap.size w w1) := bel_step (by repeat' first | exact Below.refl _ _ | refine bel_new ?_ | refine bel_draw ?_) hb1
    (try (have hcv1 := string_at w1 w.heap.size 51 51 rfl (row_on hr hb1)))
    have hcv2 := string_at (w1.alloc (Obj.cells #[.int .u8 51] 5)) w1.heap.size 51 51 rfl (new_row w1 _)
    have ht' : t = ⟨#[49]⟩ := ht.out
    clear hb1 ht
    subst ht'))
  all_goals
    go_wp2
    go_ret
    refine ⟨⟨_, rfl, ?_⟩, ?_⟩
    · show _ = _
      rfl
    · first | exact HB.out | exact bel_new HB.out

set_option maxHeartbeats 1600000 in
theorem l1Small_14 (w : World) : Calls Tryd.prog 20 #[.int .i64 14] w fun e w' => (∃ t : ByteArray, e = .returned (.string t) ∧ Hid (t = ⟨#[49, 52]⟩)) ∧ Below w.heap.size w w' := by
  have hcv := string_at (w.alloc (Obj.cells #[.int .u8 52] 5)).drew w.heap.size 52 52 rfl (new_row w _)
  have hw1 : IntKind.i64.wrap 1 = 1 := by decide
  have hw2 : IntKind.i64.wrap 52 = 52 := by decide
  have hw3 : IntKind.u8.wrap 52 = 52 := by decide
  have hr : (w.alloc (Obj.cells #[.int .u8 52] 5)).drew.heap[w.heap.size]? = some (Obj.cells #[.int .u8 52] 5) := new_row w _
  go_enter Tryd.func20, Tryd.ntmps20
  go_wp2_with fail
  go_region_with (first
 | (go_at_call 20; refine (l1Small_one 1 _ (by omega)).mono ?_; rintro e w1 ⟨⟨t, rfl, ht⟩, hb1⟩
    have HB : Hid (Below w.heap.size w w1) := bel_step (by repeat' first | exact Below.refl _ _ | refine bel_new ?_ | refine bel_draw ?_) hb1
    (try (have hcv1 := string_at w1 w.heap.size 52 52 rfl (row_on hr hb1)))
    have hcv2 := string_at (w1.alloc (Obj.cells #[.int .u8 52] 5)) w1.heap.size 52 52 rfl (new_row w1 _)
    have ht' : t = ⟨#[49]⟩ := ht.out
    clear hb1 ht
    subst ht'))
  all_goals
    go_wp2
    go_ret
    refine ⟨⟨_, rfl, ?_⟩, ?_⟩
    · show _ = _
      rfl
    · first | exact HB.out | exact bel_new HB.out

set_option maxHeartbeats 1600000 in
theorem l1Small_15 (w : World) : Calls Tryd.prog 20 #[.int .i64 15] w fun e w' => (∃ t : ByteArray, e = .returned (.string t) ∧ Hid (t = ⟨#[49, 53]⟩)) ∧ Below w.heap.size w w' := by
  have hcv := string_at (w.alloc (Obj.cells #[.int .u8 53] 5)).drew w.heap.size 53 53 rfl (new_row w _)
  have hw1 : IntKind.i64.wrap 1 = 1 := by decide
  have hw2 : IntKind.i64.wrap 53 = 53 := by decide
  have hw3 : IntKind.u8.wrap 53 = 53 := by decide
  have hr : (w.alloc (Obj.cells #[.int .u8 53] 5)).drew.heap[w.heap.size]? = some (Obj.cells #[.int .u8 53] 5) := new_row w _
  go_enter Tryd.func20, Tryd.ntmps20
  go_wp2_with fail
  go_region_with (first
 | (go_at_call 20; refine (l1Small_one 1 _ (by omega)).mono ?_; rintro e w1 ⟨⟨t, rfl, ht⟩, hb1⟩
    have HB : Hid (Below w.heap.size w w1) := bel_step (by repeat' first | exact Below.refl _ _ | refine bel_new ?_ | refine bel_draw ?_) hb1
    (try (have hcv1 := string_at w1 w.heap.size 53 53 rfl (row_on hr hb1)))
    have hcv2 := string_at (w1.alloc (Obj.cells #[.int .u8 53] 5)) w1.heap.size 53 53 rfl (new_row w1 _)
    have ht' : t = ⟨#[49]⟩ := ht.out
    clear hb1 ht
    subst ht'))
  all_goals
    go_wp2
    go_ret
    refine ⟨⟨_, rfl, ?_⟩, ?_⟩
    · show _ = _
      rfl
    · first | exact HB.out | exact bel_new HB.out

set_option maxHeartbeats 1600000 in
theorem l1Small_16 (w : World) : Calls Tryd.prog 20 #[.int .i64 16] w fun e w' => (∃ t : ByteArray, e = .returned (.string t) ∧ Hid (t = ⟨#[49, 54]⟩)) ∧ Below w.heap.size w w' := by
  have hcv := string_at (w.alloc (Obj.cells #[.int .u8 54] 5)).drew w.heap.size 54 54 rfl (new_row w _)
  have hw1 : IntKind.i64.wrap 1 = 1 := by decide
  have hw2 : IntKind.i64.wrap 54 = 54 := by decide
  have hw3 : IntKind.u8.wrap 54 = 54 := by decide
  have hr : (w.alloc (Obj.cells #[.int .u8 54] 5)).drew.heap[w.heap.size]? = some (Obj.cells #[.int .u8 54] 5) := new_row w _
  go_enter Tryd.func20, Tryd.ntmps20
  go_wp2_with fail
  go_region_with (first
 | (go_at_call 20; refine (l1Small_one 1 _ (by omega)).mono ?_; rintro e w1 ⟨⟨t, rfl, ht⟩, hb1⟩
    have HB : Hid (Below w.heap.size w w1) := bel_step (by repeat' first | exact Below.refl _ _ | refine bel_new ?_ | refine bel_draw ?_) hb1
    (try (have hcv1 := string_at w1 w.heap.size 54 54 rfl (row_on hr hb1)))
    have hcv2 := string_at (w1.alloc (Obj.cells #[.int .u8 54] 5)) w1.heap.size 54 54 rfl (new_row w1 _)
    have ht' : t = ⟨#[49]⟩ := ht.out
    clear hb1 ht
    subst ht'))
  all_goals
    go_wp2
    go_ret
    refine ⟨⟨_, rfl, ?_⟩, ?_⟩
    · show _ = _
      rfl
    · first | exact HB.out | exact bel_new HB.out

theorem isDec_small2 (d : UInt8) (h1 : 48 ≤ d.toNat) (h2 : d.toNat ≤ 54) : Dm.isDec [49, d] (d.toNat - 38) := by
  refine ⟨by simp, ?_, ?_, ?_⟩
  · intro c hc
    simp only [List.mem_cons, List.not_mem_nil, or_false] at hc
    rcases hc with rfl | rfl
    · exact ⟨by decide, by decide⟩
    · exact ⟨h1, by omega⟩
  · show (0 * 10 + ((49 : UInt8).toNat - 48)) * 10 + (d.toNat - 48) = d.toNat - 38
    have : (49 : UInt8).toNat = 49 := rfl
    omega
  · intro _ h; simp at h

/-- A number up to 16 as digits. -/

theorem l1Small_any (n : Nat) (w : World) (hn : n ≤ 16) : Calls Tryd.prog 20 #[.int .i64 n] w fun e w' => (∃ t : ByteArray, e = .returned (.string t) ∧ Dm.isDec t.data.toList n ∧ t.size ≤ 2) ∧ Below w.heap.size w w' := by
  by_cases h : n < 10
  · refine (l1Small_one n w h).mono ?_
    rintro e w' ⟨⟨t, rfl, ht⟩, hb⟩
    have e1 := ht.out
    subst e1
    exact ⟨⟨_, rfl, isDec_dig n h, by show 1 ≤ 2; omega⟩, hb⟩
  obtain ⟨k, rfl⟩ : ∃ k, n = 10 + k := ⟨n - 10, by omega⟩
  have hk : k ≤ 6 := by omega
  match k, hk with
  | 0, _ =>
    refine (l1Small_10 w).mono ?_
    rintro e w' ⟨⟨t, rfl, ht⟩, hb⟩
    have e1 := ht.out
    subst e1
    exact ⟨⟨_, rfl, isDec_small2 48 (by decide) (by decide), by show 2 ≤ 2; omega⟩, hb⟩
  | 1, _ =>
    refine (l1Small_11 w).mono ?_
    rintro e w' ⟨⟨t, rfl, ht⟩, hb⟩
    have e1 := ht.out
    subst e1
    exact ⟨⟨_, rfl, isDec_small2 49 (by decide) (by decide), by show 2 ≤ 2; omega⟩, hb⟩
  | 2, _ =>
    refine (l1Small_12 w).mono ?_
    rintro e w' ⟨⟨t, rfl, ht⟩, hb⟩
    have e1 := ht.out
    subst e1
    exact ⟨⟨_, rfl, isDec_small2 50 (by decide) (by decide), by show 2 ≤ 2; omega⟩, hb⟩
  | 3, _ =>
    refine (l1Small_13 w).mono ?_
    rintro e w' ⟨⟨t, rfl, ht⟩, hb⟩
    have e1 := ht.out
    subst e1
    exact ⟨⟨_, rfl, isDec_small2 51 (by decide) (by decide), by show 2 ≤ 2; omega⟩, hb⟩
  | 4, _ =>
    refine (l1Small_14 w).mono ?_
    rintro e w' ⟨⟨t, rfl, ht⟩, hb⟩
    have e1 := ht.out
    subst e1
    exact ⟨⟨_, rfl, isDec_small2 52 (by decide) (by decide), by show 2 ≤ 2; omega⟩, hb⟩
  | 5, _ =>
    refine (l1Small_15 w).mono ?_
    rintro e w' ⟨⟨t, rfl, ht⟩, hb⟩
    have e1 := ht.out
    subst e1
    exact ⟨⟨_, rfl, isDec_small2 53 (by decide) (by decide), by show 2 ≤ 2; omega⟩, hb⟩
  | 6, _ =>
    refine (l1Small_16 w).mono ?_
    rintro e w' ⟨⟨t, rfl, ht⟩, hb⟩
    have e1 := ht.out
    subst e1
    exact ⟨⟨_, rfl, isDec_small2 54 (by decide) (by decide), by show 2 ≤ 2; omega⟩, hb⟩

set_option maxHeartbeats 800000 in
theorem l2Digit_any (c : UInt8) (w : World) : Calls Tryd.prog 17 #[.int .u8 c.toNat] w fun e w' => (∃ d : Nat, e = .returned (.int .i64 d) ∧ Hid (d = dgV c)) ∧ w' = w := by
  have hc := c.toNat_lt
  obtain ⟨n, hn⟩ : ∃ n, n = c.toNat := ⟨_, rfl⟩
  have HV : Hid (dgV c = if 48 ≤ n ∧ n ≤ 57 then n - 48 else if 97 ≤ n ∧ n ≤ 102 then n - 87 else 99) := by show _ = _; rw [hn]; rfl
  rw [← hn] at hc ⊢
  clear hn
  by_cases h1 : 48 ≤ n
  · by_cases h2 : n ≤ 57
    · have g1 : (48 : Int) ≤ (n : Int) := by omega
      have g2 : (n : Int) ≤ 57 := by omega
      have hw1 : IntKind.u8.wrap ((n : Int) - 48) = (n : Int) - 48 := by rw [IntKind.wrap_u8]; omega
      have HE : Hid (((n - 48 : Nat) : Int) = (n : Int) - 48) := by show _ = _; omega
      go_enter Tryd.func17, Tryd.ntmps17
      go_wp2
      go_ret
      exact ⟨⟨n - 48, ret_int HE.out.symm, by show _ = _; rw [HV.out, if_pos ⟨h1, h2⟩]⟩, rfl⟩
    · have g1 : (48 : Int) ≤ (n : Int) := by omega
      have g2 : ¬ (n : Int) ≤ 57 := by omega
      by_cases h3 : 97 ≤ n
      · by_cases h4 : n ≤ 102
        · have g3 : (97 : Int) ≤ (n : Int) := by omega
          have g4 : (n : Int) ≤ 102 := by omega
          have hw1 : IntKind.u8.wrap ((n : Int) - 97) = (n : Int) - 97 := by rw [IntKind.wrap_u8]; omega
          have HE : Hid (((n - 87 : Nat) : Int) = (n : Int) - 97 + 10) := by show _ = _; omega
          go_enter Tryd.func17, Tryd.ntmps17
          go_wp2
          go_ret
          exact ⟨⟨n - 87, ret_int HE.out.symm, by show _ = _; rw [HV.out, if_neg (by omega), if_pos ⟨h3, h4⟩]⟩, rfl⟩
        · have g3 : (97 : Int) ≤ (n : Int) := by omega
          have g4 : ¬ (n : Int) ≤ 102 := by omega
          go_enter Tryd.func17, Tryd.ntmps17
          go_wp2
          go_ret
          exact ⟨⟨99, rfl, by show _ = _; rw [HV.out, if_neg (by omega), if_neg (by omega)]⟩, rfl⟩
      · have g3 : ¬ (97 : Int) ≤ (n : Int) := by omega
        go_enter Tryd.func17, Tryd.ntmps17
        go_wp2
        go_ret
        exact ⟨⟨99, rfl, by show _ = _; rw [HV.out, if_neg (by omega), if_neg (by omega)]⟩, rfl⟩
  · have g1 : ¬ (48 : Int) ≤ (n : Int) := by omega
    have g3 : ¬ (97 : Int) ≤ (n : Int) := by omega
    go_enter Tryd.func17, Tryd.ntmps17
    go_wp2
    go_ret
    exact ⟨⟨99, rfl, by show _ = _; rw [HV.out, if_neg (by omega), if_neg (by omega)]⟩, rfl⟩

end Go.Proofs.YtgckhkddjckfaagDoor
