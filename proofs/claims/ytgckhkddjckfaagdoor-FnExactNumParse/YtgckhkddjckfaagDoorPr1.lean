/-
  Writing in a radix: the digits; the radix; small numbers.
-/
import Derived.Test.YtgckhkddjckfaagDoorSpec3
import Derived.Deep.RegionWith
import Derived.Deep.RegionHeld3
namespace Go.Proofs.YtgckhkddjckfaagDoor
set_option maxRecDepth 100000
set_option linter.unusedVariables false
set_option linter.unusedSimpArgs false
open Go.RowKit

namespace Rm
/-- The signs of the digits. -/
def sgs : List UInt8 := [48, 49, 50, 51, 52, 53, 54, 55, 56, 57, 97, 98, 99, 100, 101, 102]
def sg (d : Nat) : UInt8 := sgs.getD d 0

/-- The digits of n in radix r, the last one first. -/
def low (r : Nat) : Nat → Nat → List UInt8
  | 0, _ => []
  | k + 1, n => if n = 0 then [] else sg (n % r) :: low r k (n / r)

/-- Enough steps are enough. -/

theorem low_more (r : Nat) (hr : 2 ≤ r) : ∀ k j n : Nat, n ≤ k → n ≤ j → low r k n = low r j n
  | 0, j, n, hk, _ => by
    have h0 : n = 0 := by omega
    subst h0
    cases j with
    | zero => rfl
    | succ j => simp [low]
  | k + 1, 0, n, _, hj => by
    have h0 : n = 0 := by omega
    subst h0
    simp [low]
  | k + 1, j + 1, n, hk, hj => by
    by_cases h0 : n = 0
    · simp [low, h0]
    · have hd : n / r < n := Nat.div_lt_self (by omega) (by omega)
      simp only [low, if_neg h0]
      rw [low_more r hr k j (n / r) (by omega) (by omega)]

/-- The digits of n in radix r, the last one first. -/
def lows (r n : Nat) : List UInt8 := low r n n

theorem lows_zero (r : Nat) : lows r 0 = [] := rfl

theorem lows_pos (r n : Nat) (hr : 2 ≤ r) (h : n ≠ 0) : lows r n = sg (n % r) :: lows r (n / r) := by
  unfold lows
  obtain ⟨k, rfl⟩ : ∃ k, n = k + 1 := ⟨n - 1, by omega⟩
  have hd : (k + 1) / r < k + 1 := Nat.div_lt_self (by omega) (by omega)
  have e : low r (k + 1) (k + 1) = sg ((k + 1) % r) :: low r k ((k + 1) / r) := by simp [low]
  rw [e, low_more r hr k ((k + 1) / r) ((k + 1) / r) (by omega) (by omega)]

/-- A whole number written in radix r. -/
def rad (r n : Nat) : List UInt8 := if n = 0 then [sg 0] else (lows r n).reverse

theorem rad_pos (r n : Nat) (h : n ≠ 0) : rad r n = (lows r n).reverse := by rw [rad, if_neg h]

theorem rad_last (r n : Nat) (hr : 2 ≤ r) (h : n / r = 0) : rad r n = [sg (n % r)] := by
  by_cases h0 : n = 0
  · subst h0; rw [rad, if_pos rfl, Nat.zero_mod]
  · rw [rad_pos r n h0, lows_pos r n hr h0, h, lows_zero]; rfl

theorem rad_step (r n : Nat) (hr : 2 ≤ r) (h : n / r ≠ 0) : rad r n = rad r (n / r) ++ [sg (n % r)] := by
  have h0 : n ≠ 0 := by intro e; rw [e, Nat.zero_div] at h; exact h rfl
  rw [rad_pos r n h0, lows_pos r n hr h0, rad_pos r _ h, List.reverse_cons]

theorem low_len (r : Nat) (hr : 2 ≤ r) : ∀ (L k n : Nat), n < 2 ^ L → (low r k n).length ≤ L
  | _, 0, _, _ => by simp [low]
  | L, k + 1, n, h => by
    by_cases h0 : n = 0
    · simp [low, h0]
    · cases L with
      | zero => omega
      | succ L =>
        have h1 : n / r ≤ n / 2 := Nat.div_le_div_left hr (by omega)
        have h2 : n / r < 2 ^ L := by
          rw [Nat.pow_succ] at h
          omega
        have := low_len r hr L k (n / r) h2
        simp only [low, if_neg h0, List.length_cons]
        omega

theorem rad_len (r n L : Nat) (hr : 2 ≤ r) (h : n < 2 ^ L) : (rad r n).length ≤ L + 1 := by
  unfold rad
  split
  · simp
  · rw [List.length_reverse]
    exact Nat.le_succ_of_le (low_len r hr L n n h)
end Rm

/-- One of the four radices. -/
def rx (r : Int) : Bool := r == 2 || r == 8 || r == 10 || r == 16

theorem l2Radix_any (r : Int) (w : World) : Calls Tryd.prog 7 #[.int .i64 r] w fun e w' => e = .returned (.bool (rx r)) ∧ w' = w := by
  by_cases h1 : (r == 2) = true
  · have hv : rx r = true := by unfold rx; rw [h1]; rfl
    go_enter Tryd.func7, Tryd.ntmps7
    go_wp2
    go_ret
    exact ⟨ret_bool (by first | rfl | exact hv.symm), rfl⟩
  have h1 : (r == 2) = false := by simpa using h1
  by_cases h2 : (r == 8) = true
  · have hv : rx r = true := by unfold rx; rw [h1, h2]; rfl
    go_enter Tryd.func7, Tryd.ntmps7
    go_wp2
    go_ret
    exact ⟨ret_bool (by first | rfl | exact hv.symm), rfl⟩
  have h2 : (r == 8) = false := by simpa using h2
  by_cases h3 : (r == 10) = true
  · have hv : rx r = true := by unfold rx; rw [h1, h2, h3]; rfl
    go_enter Tryd.func7, Tryd.ntmps7
    go_wp2
    go_ret
    exact ⟨ret_bool (by first | rfl | exact hv.symm), rfl⟩
  have h3 : (r == 10) = false := by simpa using h3
  have hv : rx r = (r == 16) := by unfold rx; rw [h1, h2, h3]; rfl
  cases h4 : (r == 16)
  all_goals
    rw [h4] at hv
    go_enter Tryd.func7, Tryd.ntmps7
    go_wp2
    go_ret
    exact ⟨ret_bool (by first | rfl | exact hv.symm), rfl⟩

theorem isKnown_any (r : Int) (w : World) : Calls Tryd.prog 13 #[.int .i64 r] w fun e w' => e = .returned (.bool (rx r)) ∧ w' = w := by
  by_cases h1 : (r == 2) = true
  · have hv : rx r = true := by unfold rx; rw [h1]; rfl
    go_enter Tryd.func13, Tryd.ntmps13
    go_wp2
    go_ret
    exact ⟨ret_bool (by first | rfl | exact hv.symm), rfl⟩
  have h1 : (r == 2) = false := by simpa using h1
  by_cases h2 : (r == 8) = true
  · have hv : rx r = true := by unfold rx; rw [h1, h2]; rfl
    go_enter Tryd.func13, Tryd.ntmps13
    go_wp2
    go_ret
    exact ⟨ret_bool (by first | rfl | exact hv.symm), rfl⟩
  have h2 : (r == 8) = false := by simpa using h2
  by_cases h3 : (r == 10) = true
  · have hv : rx r = true := by unfold rx; rw [h1, h2, h3]; rfl
    go_enter Tryd.func13, Tryd.ntmps13
    go_wp2
    go_ret
    exact ⟨ret_bool (by first | rfl | exact hv.symm), rfl⟩
  have h3 : (r == 10) = false := by simpa using h3
  have hv : rx r = (r == 16) := by unfold rx; rw [h1, h2, h3]; rfl
  cases h4 : (r == 16)
  all_goals
    rw [h4] at hv
    go_enter Tryd.func13, Tryd.ntmps13
    go_wp2
    go_ret
    exact ⟨ret_bool (by first | rfl | exact hv.symm), rfl⟩

/-- One byte in a new row is a string of one byte. -/

theorem one_string (w : World) (b : UInt8) (z : Int) (hz : z = b.toNat) :
    (Go.convert 62 9 (.slice (some ⟨w.heap.size, 0, none⟩) 1 1)).run Tryd.prog (w.alloc (Obj.cells #[.int .u8 z] 5)) = .ok (.string ⟨#[b]⟩) (w.alloc (Obj.cells #[.int .u8 z] 5)) := by
  subst hz
  exact own_string (base := 0) [b] rfl ⟨rfl, .inr ⟨w.heap.size, 1, #[.int .u8 b.toNat], rfl, Nat.zero_le _, by show (w.heap.push _)[w.heap.size]? = _; simp, Nat.le_refl _, by unfold maxLen; omega, rfl, rfl⟩⟩

theorem isDec_dig (n : Nat) (hn : n < 10) : Dm.isDec [UInt8.ofNat (48 + n)] n := by
  have e : (UInt8.ofNat (48 + n)).toNat = 48 + n := by rw [UInt8.toNat_ofNat']; omega
  refine ⟨by simp, ?_, ?_, by simp⟩
  · intro c hc
    rw [List.mem_singleton] at hc
    subst hc
    exact ⟨by omega, by omega⟩
  · show 0 * 10 + ((UInt8.ofNat (48 + n)).toNat - 48) = n
    omega

set_option maxHeartbeats 1600000 in
theorem l1Small_one (n : Nat) (w : World) (hn : n < 10) : Calls Tryd.prog 20 #[.int .i64 n] w fun e w' => (∃ t : ByteArray, e = .returned (.string t) ∧ Hid (t = ⟨#[UInt8.ofNat (48 + n)]⟩)) ∧ Below w.heap.size w w' := by
  have hw1 : wrap64 (48 + (n : Int)) = 48 + n := by (unfold wrap64; omega)
  have hw2 : IntKind.u8.wrap (48 + (n : Int)) = 48 + n := by simp [IntKind.wrap_u8]; omega
  have hcv := one_string w (UInt8.ofNat (48 + n)) (48 + (n : Int)) (by rw [UInt8.toNat_ofNat']; omega)
  have hB : ∀ o, Below w.heap.size w (w.alloc o) := fun o => (Below.refl _ _).alloc (Nat.le_refl _) _
  generalize hS : (⟨#[UInt8.ofNat (48 + n)]⟩ : ByteArray) = S at *
  have HS : Hid _ := hS
  clear hS
  go_enter Tryd.func20, Tryd.ntmps20
  go_wp2
  go_ret
  exact ⟨⟨S, rfl, rfl⟩, hB _⟩

theorem string_at (W : World) (g : Nat) (b : UInt8) (z : Int) (hz : z = b.toNat) (h : W.heap[g]? = some (Obj.cells #[.int .u8 z] 5 (0, 0))) :
    (Go.convert 62 9 (.slice (some ⟨g, 0, none⟩) 1 1)).run Tryd.prog W = .ok (.string ⟨#[b]⟩) W := by
  subst hz
  exact own_string (base := 0) [b] rfl ⟨rfl, .inr ⟨g, 1, #[.int .u8 b.toNat], rfl, Nat.zero_le _, h, Nat.le_refl _, by unfold maxLen; omega, rfl, rfl⟩⟩

theorem new_row (w : World) (o : Obj) : (w.alloc o).heap[w.heap.size]? = some o := by show (w.heap.push _)[w.heap.size]? = _; simp

theorem row_on {W W' : World} {g : Nat} {o : Obj} (h : W.heap[g]? = some o) (hb : Below W.heap.size W W') : W'.heap[g]? = some o := (hb.block g (Array.getElem?_eq_some_iff.1 h).1).trans h

theorem bel_step {wa X w' : World} (h : Below wa.heap.size wa X) (k : Below X.heap.size X w') : Below wa.heap.size wa w' := h.trans (k.mono h.size)

theorem bel_new {wa X : World} {o : Obj} (h : Below wa.heap.size wa X) : Below wa.heap.size wa (X.alloc o) := h.alloc h.size o

theorem bel_draw {wa X : World} (h : Below wa.heap.size wa X) : Below wa.heap.size wa X.drew := h.drew

set_option maxHeartbeats 1600000 in
theorem l1Small_ten (w : World) : Calls Tryd.prog 20 #[.int .i64 10] w fun e w' => (∃ t : ByteArray, e = .returned (.string t) ∧ Hid (t = ⟨#[49, 48]⟩)) ∧ Below w.heap.size w w' := by
  have hcv := string_at (w.alloc (Obj.cells #[.int .u8 48] 5)).drew w.heap.size 48 48 rfl (new_row w _)
  have hw1 : IntKind.i64.wrap 1 = 1 := by decide
  have hw2 : IntKind.i64.wrap 48 = 48 := by decide
  have hw3 : IntKind.u8.wrap 48 = 48 := by decide
  have hr : (w.alloc (Obj.cells #[.int .u8 48] 5)).drew.heap[w.heap.size]? = some (Obj.cells #[.int .u8 48] 5) := new_row w _
  go_enter Tryd.func20, Tryd.ntmps20
  go_wp2_with fail
  go_region_with (first
 | (go_at_call 20; refine (l1Small_one 1 _ (by omega)).mono ?_; rintro e w1 ⟨⟨t, rfl, ht⟩, hb1⟩
    have HB : Hid (Below w.heap.size w w1) := bel_step (by repeat' first | exact Below.refl _ _ | refine bel_new ?_ | refine bel_draw ?_) hb1
    (try (have hcv1 := string_at w1 w.heap.size 48 48 rfl (row_on hr hb1)))
    have hcv2 := string_at (w1.alloc (Obj.cells #[.int .u8 48] 5)) w1.heap.size 48 48 rfl (new_row w1 _)
    have ht' : t = ⟨#[49]⟩ := ht.out
    clear hb1 ht
    subst ht'))
  all_goals
    go_wp2
    go_ret
    refine ⟨⟨_, rfl, ?_⟩, ?_⟩
    · show _ = _
      rfl
    · first | exact HB.out | exact bel_new HB.out

set_option maxHeartbeats 1600000 in
theorem l1Small_sixteen (w : World) : Calls Tryd.prog 20 #[.int .i64 16] w fun e w' => (∃ t : ByteArray, e = .returned (.string t) ∧ Hid (t = ⟨#[49, 54]⟩)) ∧ Below w.heap.size w w' := by
  have hcv := string_at (w.alloc (Obj.cells #[.int .u8 54] 5)).drew w.heap.size 54 54 rfl (new_row w _)
  have hw1 : IntKind.i64.wrap 1 = 1 := by decide
  have hw2 : IntKind.i64.wrap 54 = 54 := by decide
  have hw3 : IntKind.u8.wrap 54 = 54 := by decide
  have hr : (w.alloc (Obj.cells #[.int .u8 54] 5)).drew.heap[w.heap.size]? = some (Obj.cells #[.int .u8 54] 5) := new_row w _
  go_enter Tryd.func20, Tryd.ntmps20
  go_wp2_with fail
  go_region_with (first
 | (go_at_call 20; refine (l1Small_one 1 _ (by omega)).mono ?_; rintro e w1 ⟨⟨t, rfl, ht⟩, hb1⟩
    have HB : Hid (Below w.heap.size w w1) := bel_step (by repeat' first | exact Below.refl _ _ | refine bel_new ?_ | refine bel_draw ?_) hb1
    (try (have hcv1 := string_at w1 w.heap.size 54 54 rfl (row_on hr hb1)))
    have hcv2 := string_at (w1.alloc (Obj.cells #[.int .u8 54] 5)) w1.heap.size 54 54 rfl (new_row w1 _)
    have ht' : t = ⟨#[49]⟩ := ht.out
    clear hb1 ht
    subst ht'))
  all_goals
    go_wp2
    go_ret
    refine ⟨⟨_, rfl, ?_⟩, ?_⟩
    · show _ = _
      rfl
    · first | exact HB.out | exact bel_new HB.out

end Go.Proofs.YtgckhkddjckfaagDoor
