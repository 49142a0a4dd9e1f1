/-
  Contracts of the program's whole numbers: slices of groups of nine digits, the lowest first.
-/
import Derived.Test.YtaggfbffdbompaaDoorOwn
import Derived.Test.YtaggfbffdbompaaDoorMathL
namespace Go.Proofs.YtaggfbffdbompaaDoor
set_option maxRecDepth 100000
open Go.RowKit

theorem infoU64 : (Tryd.prog.info? 92).map (fun i => (i.zero, i.size, i.bytes)) = some (some (.int .u64 0), 1, 8) := by kernel_rfl

/-- Groups as values. -/
def u64V (xs : List Nat) : List Value := xs.map (fun x : Nat => Value.int .u64 x)

theorem u64V_snoc (xs : List Nat) (x : Nat) : u64V xs ++ [Value.int .u64 x] = u64V (xs ++ [x]) := by simp [u64V]

theorem u64V_length (xs : List Nat) : (u64V xs).length = xs.length := by simp [u64V]

theorem u64V_get (xs : List Nat) (j : Nat) (h : j < xs.length) : (u64V xs)[j]? = some (.int .u64 (xs[j] : Nat)) := by simp [u64V, h]

theorem u64V_set (xs : List Nat) (j x : Nat) : (u64V xs).set j (.int .u64 x) = u64V (xs.set j x) := by simp [u64V, List.map_set]

theorem u64V_take (xs : List Nat) (k : Nat) : (u64V xs).take k = u64V (xs.take k) := by simp [u64V]

/-- The value v is a slice of these groups, in memory that no argument shares. -/
def rowN (w : World) (v : Value) (xs : List Nat) : Prop := w.ownsRow 0 92 1 v xs.length (u64V xs)
/-- The value v is the whole number n. -/
def isN (w : World) (v : Value) (n : Nat) : Prop := ∃ xs, rowN w v xs ∧ Lm.isNat xs n

theorem rowN_below {w w' : World} {v : Value} {xs : List Nat} (h : rowN w v xs) (hb : Below w.heap.size w w') : rowN w' v xs := own_below h hb

theorem isN_below {w w' : World} {v : Value} {n : Nat} (h : isN w v n) (hb : Below w.heap.size w w') : isN w' v n := by
  obtain ⟨xs, h1, h2⟩ := h; exact ⟨xs, rowN_below h1 hb, h2⟩

theorem rowN_cell {w : World} {g cap n : Nat} {xs : List Nat} (h : rowN w (.slice (some ⟨g, 0, none⟩) n cap) xs) (hn : n = xs.length) (j : Nat) (hj : j < xs.length) : w.cell? ⟨g, j, none⟩ = some (.int .u64 (xs[j] : Nat)) := by
  subst hn
  have := World.ownsRow.cellAt h j (by omega)
  rw [this, u64V_get xs j hj]

theorem rowN_shape {w : World} {v : Value} {xs : List Nat} (h : rowN w v xs) : (v = .slice none 0 0 ∧ xs = []) ∨ ∃ g cap, v = .slice (some ⟨g, 0, none⟩) xs.length cap ∧ g < w.heap.size ∧ xs.length ≤ cap ∧ cap ≤ maxLen := by
  rcases own_shape h with ⟨h1, h2⟩ | ⟨g, cap, h1, _, h2, h3, h4⟩
  · exact .inl ⟨h1, List.length_eq_zero_iff.1 h2⟩
  · exact .inr ⟨g, cap, h1, h2, h3, h4⟩

theorem rowN_some {w : World} {v : Value} {xs : List Nat} (h : rowN w v xs) (hn : xs ≠ []) : ∃ g cap, v = .slice (some ⟨g, 0, none⟩) xs.length cap ∧ g < w.heap.size ∧ xs.length ≤ cap ∧ cap ≤ maxLen := by
  rcases rowN_shape h with ⟨_, h2⟩ | h1
  · exact absurd h2 hn
  · exact h1

theorem rowN_take {w : World} {g cap n : Nat} {xs : List Nat} (h : rowN w (.slice (some ⟨g, 0, none⟩) n cap) xs) (hn : n = xs.length) (m : Nat) (hm : m ≤ xs.length) : rowN w (.slice (some ⟨g, 0, none⟩) m cap) (xs.take m) := by
  subst hn
  have := own_take h hm
  rw [u64V_take] at this
  unfold rowN
  rwa [List.length_take, Nat.min_eq_left hm]

set_option maxHeartbeats 400000 in
theorem powerOfTen_any (p : Nat) (w : World) (hp : p ≤ 9) :
    Calls Tryd.prog 83 #[.int .i64 p] w fun e w' => (∃ q : Nat, e = .returned (.int .u64 q) ∧ Hid (q = 10 ^ p) ∧ 1 ≤ q ∧ q ≤ 1000000000) ∧ w' = w := by
  go_enter Tryd.func83, Tryd.ntmps83
  go_wp2
  go_loop [3, 5] (fun v k => ∃ i q : Nat, i ≤ p ∧ k = .int .i64 i ∧ v = .int .u64 q ∧ Hid (q = 10 ^ i) ∧ 1 ≤ q ∧ q ≤ 1000000000) (fun _ k => p - (intOf k).toNat)
  case atStart => exact ⟨0, 1, by omega, rfl, rfl, rfl, by omega, by omega⟩
  case round =>
    obtain ⟨i, q, hi, rfl, rfl, hq, h1, h2⟩ := hrel
    by_cases hlt : i < p
    · have h3 : q ≤ 100000000 := by
        rw [hq.out]
        exact Nat.le_trans (Nat.pow_le_pow_right (by omega) (show i ≤ 8 from by omega)) (by decide)
      have hq2 : Hid (q * 10 = 10 ^ (i + 1)) := by show _ = _; rw [hq.out, Nat.pow_succ]
      clear hq
      go_wp2
      go_round
      case rel => exact ⟨i + 1, q * 10, by omega, by go_num, by go_num, hq2, by omega, by omega⟩
      case measure => simp [intOf]; omega
    · obtain rfl : i = p := by omega
      go_wp2
      go_ret
      exact ⟨⟨q, rfl, hq, h1, h2⟩, rfl⟩

set_option maxHeartbeats 400000 in
theorem trim_at (v : Value) (xs : List Nat) (w : World) (hv : rowN w v xs) (hs : Lm.small xs) (hl : xs.length ≤ 1000000) :
    Calls Tryd.prog 73 #[v] w fun e w' => (∃ v', e = .returned v' ∧ isN w v' (Lm.lval xs) ∧ Hid (∀ g, v'.ownBlock = some g → v.ownBlock = some g)) ∧ w' = w := by
  rcases rowN_shape hv with ⟨rfl, rfl⟩ | ⟨g, cap, rfl, hg, hc, hcm⟩
  · go_enter Tryd.func73, Tryd.ntmps73
    go_wp2
    refine wp_loop_rounds 1 ?_; rw [rounds_succ]
    go_wp2
    go_ret
    exact ⟨⟨_, rfl, ⟨[], hv, Lm.isNat_nil⟩, fun _ h => h⟩, rfl⟩
  · go_enter Tryd.func73, Tryd.ntmps73
    go_wp2
    go_loop [0] (fun u => ∃ ys : List Nat, u = .slice (some ⟨g, 0, none⟩) ys.length cap ∧ ys.length ≤ xs.length ∧ Hid (rowN w (.slice (some ⟨g, 0, none⟩) ys.length cap) ys) ∧ Hid (Lm.small ys) ∧ Hid (Lm.lval ys = Lm.lval xs))
      (fun u => match u with | .slice _ n _ => n | _ => 0)
    case atStart => exact ⟨xs, rfl, by omega, hv, hs, rfl⟩
    case round =>
      obtain ⟨ys, rfl, hly, hr, hsm, hval⟩ := hrel
      by_cases h0 : ys.length = 0
      · have hys : ys = [] := List.length_eq_zero_iff.1 h0
        subst hys
        go_wp2
        go_ret
        exact ⟨⟨_, rfl, ⟨[], hr, by rw [← hval.out]; exact Lm.isNat_nil⟩, fun _ h => h⟩, rfl⟩
      · have hne : ys ≠ [] := by intro e; rw [e] at h0; simp at h0
        have hcell := rowN_cell hr.out rfl (ys.length - 1) (by omega)
        have hlast : ys.getLast? = some (ys[ys.length - 1]'(by omega)) := by rw [List.getLast?_eq_getElem?, List.getElem?_eq_getElem (by omega)]
        obtain ⟨x, hx⟩ : ∃ x, x = ys[ys.length - 1]'(by omega) := ⟨_, rfl⟩
        rw [← hx] at hcell hlast
        have hlen : 0 < ys.length := by omega
        by_cases hx0 : x = 0
        · subst hx0
          have HV : Hid (Lm.lval (ys.take (ys.length - 1)) = Lm.lval xs) := by show _ = _; rw [Lm.lval_drop_zero ys hlast]; exact hval.out
          have HR : Hid (rowN w (.slice (some ⟨g, 0, none⟩) (ys.length - 1) cap) (ys.take (ys.length - 1))) := rowN_take hr.out rfl _ (by omega)
          have HS : Hid (Lm.small (ys.take (ys.length - 1))) := Lm.small_take hsm.out _
          have hlt : (ys.take (ys.length - 1)).length = ys.length - 1 := by simp
          have HL : Hid ((ys.take (ys.length - 1)).length = ys.length - 1) := hlt
          clear hlast hx hlt hr hsm hval h0
          go_wp2
          go_round
          case rel => exact ⟨ys.take (ys.length - 1), by rw [HL.out], by rw [HL.out]; omega, by rw [HL.out]; exact HR, HS, HV⟩
          case measure => simp; omega
        · have hb : ((x : Int) == 0) = false := beq_eq_false_iff_ne.2 (by omega)
          have HN : Hid (Lm.isNat ys (Lm.lval xs)) := ⟨hval.out, hsm.out, by rw [hlast]; intro e; exact hx0 (by simpa using e)⟩
          clear hlast hx hx0 h0
          go_wp2
          go_ret
          exact ⟨⟨_, rfl, ⟨ys, hr, HN⟩, fun _ h => h⟩, rfl⟩

theorem trim_any (v : Value) (xs : List Nat) (w : World) (hv : rowN w v xs) (hs : Lm.small xs) (hl : xs.length ≤ 1000000) :
    Calls Tryd.prog 73 #[v] w fun e w' => (∃ v', e = .returned v' ∧ isN w v' (Lm.lval xs)) ∧ w' = w :=
  (trim_at v xs w hv hs hl).mono fun _ _ h => by obtain ⟨⟨v', h1, h2, _⟩, h3⟩ := h; exact ⟨⟨v', h1, h2⟩, h3⟩

set_option maxHeartbeats 400000 in
theorem isOne_any (v : Value) (n : Nat) (w : World) (hv : isN w v n) :
    Calls Tryd.prog 88 #[v] w fun e w' => e = .returned (.bool (n == 1)) ∧ w' = w := by
  obtain ⟨xs, hr, hn⟩ := hv
  rcases rowN_shape hr with ⟨rfl, rfl⟩ | ⟨g, cap, rfl, hg, hc, hcm⟩
  · have hn0 : n = 0 := hn.1.symm
    subst hn0
    go_enter Tryd.func88, Tryd.ntmps88
    go_wp2
    go_ret
    exact ⟨rfl, rfl⟩
  · by_cases h1 : xs.length = 1
    · match xs, h1 with
      | [x], _ =>
        have hcell := rowN_cell hr rfl 0 (by simp)
        have hnx : n = x := by have := hn.1; simpa [Lm.lval] using this.symm
        subst hnx
        simp only [List.getElem_cons_zero] at hcell
        have hv : Hid (((n : Int) == 1) = (n == 1)) := by
          show _ = _
          rw [Bool.eq_iff_iff, beq_iff_eq, beq_iff_eq]; omega
        clear hr hn
        simp only [List.length_cons, List.length_nil]
        go_enter Tryd.func88, Tryd.ntmps88
        go_wp2
        go_ret
        exact ⟨ret_bool (by rw [← hv.out]), rfl⟩
    · have hb : ((xs.length : Int) == 1) = false := beq_eq_false_iff_ne.2 (by omega)
      have hn1 : (n == 1) = false := by
        rw [beq_eq_false_iff_ne]
        intro e
        subst e
        have := Lm.isNat_unique xs [1] 1 hn ⟨rfl, Lm.small_one (by decide), by simp⟩
        rw [this] at h1; simp at h1
      have HN : Hid ((n == 1) = false) := hn1
      clear hn1 h1 hr hn
      go_enter Tryd.func88, Tryd.ntmps88
      go_wp2
      go_ret
      exact ⟨ret_bool (by rw [HN.out]), rfl⟩

end Go.Proofs.YtaggfbffdbompaaDoor
