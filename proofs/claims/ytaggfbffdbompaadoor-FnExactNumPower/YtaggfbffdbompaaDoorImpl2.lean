/-
  Contracts of the program's whole numbers: out of a word; so many times, and more.
-/
import Derived.Test.YtaggfbffdbompaaDoorImpl1
namespace Go.Proofs.YtaggfbffdbompaaDoor
set_option maxRecDepth 100000
open Go.RowKit

theorem word_len (W r L : Nat) (hr : 0 < r) (h : 1000000000 ^ L * r ≤ W) (hW : W ≤ 10000000000000000000) : L ≤ 2 := by
  rcases Nat.lt_or_ge 2 L with h1 | h1
  · have h2 : 1000000000 ^ 3 ≤ 1000000000 ^ L := Nat.pow_le_pow_right (by omega) h1
    have h3 : 1000000000 ^ L * 1 ≤ 1000000000 ^ L * r := Nat.mul_le_mul_left _ hr
    have h4 : (1000000000 : Nat) ^ 3 = 1000000000000000000000000000 := by decide
    omega
  · exact h1

theorem word_step (xs : List Nat) (r W : Nat) (h : Lm.lval xs + 1000000000 ^ xs.length * r = W) :
    Lm.lval (xs ++ [r % 1000000000]) + 1000000000 ^ (xs ++ [r % 1000000000]).length * (r / 1000000000) = W := by
  rw [Lm.lval_snoc, List.length_append, List.length_singleton, Nat.pow_succ]
  have e := Nat.div_add_mod r 1000000000
  have e2 : 1000000000 ^ xs.length * r = 1000000000 ^ xs.length * 1000000000 * (r / 1000000000) + 1000000000 ^ xs.length * (r % 1000000000) := by
    rw [Nat.mul_assoc, ← Nat.mul_add, e]
  omega

set_option maxHeartbeats 400000 in
theorem natOfWord_any (W : Nat) (w : World) (hW : W ≤ 10000000000000000000) :
    Calls Tryd.prog 63 #[.int .u64 W] w fun e w' => (∃ v, e = .returned v ∧ isN w' v W) ∧ Below w.heap.size w w' := by
  obtain ⟨i0, hi, hz0, hz1, hz2⟩ := info_parts infoU64
  go_enter Tryd.func63, Tryd.ntmps63
  go_wp2
  go_loopw [0, 3] (fun u v wr => ∃ (vv : Value) (xs : List Nat) (r : Nat), vv = v ∧ u = .int .u64 r ∧ r ≤ 10000000000000000000 ∧ Hid (Lm.lval xs + 1000000000 ^ xs.length * r = W) ∧ Hid (Lm.small xs) ∧ Hid (r = 0 → xs.getLast? ≠ some 0) ∧
      wr.ownsRow w.heap.size 92 1 vv xs.length (u64V xs) ∧ Below w.heap.size w wr)
    (fun u _ _ => (intOf u).toNat)
  case atStart => exact ⟨_, [], W, rfl, rfl, hW, by show Lm.lval [] + 1 * W = W; simp [Lm.lval], Lm.small_nil, fun _ => by simp, World.ownsRow_nil _ _ _ _, Below.refl _ _⟩
  case round =>
    obtain ⟨vv, xs, r, rfl, rfl, hr, hv, hs, hz, ho, hb⟩ := hrel
    have hBs := hb.size
    by_cases h0 : 0 < r
    · have hL := word_len W r xs.length h0 (by have := hv.out; omega) hW
      have hv2 : Hid (Lm.lval (xs ++ [r % 1000000000]) + 1000000000 ^ (xs ++ [r % 1000000000]).length * (r / 1000000000) = W) := word_step xs r W hv.out
      have hs2 : Hid (Lm.small (xs ++ [r % 1000000000])) := Lm.small_append hs.out (Lm.small_one (Nat.mod_lt _ (by omega)))
      have hz2' : Hid (r / 1000000000 = 0 → (xs ++ [r % 1000000000]).getLast? ≠ some 0) := by
        intro h
        simp only [List.getLast?_append, List.getLast?_singleton, Option.some_or, ne_eq, Option.some.injEq]
        omega
      have hmod : Hid (((r % 1000000000 : Nat) : Int) = (r : Int) % 1000000000) := by show _ = _; omega
      clear hv hs hz
      go_wp2_with (at_builtin; refine wpList_append_own _ rfl _ _ 42 rfl w.heap.size 92 i0 (.int .u64 0) 1 8 Tryd.underlying42 hi hz0 hz1 hz2 rfl (by decide) _ _ _ rfl (ho.alloc _) ⟨wr.heap.size, 0, none⟩ 1 1 [.int .u64 ((r : Int) % 1000000000)] rfl rfl (cell_one_new _ _ _) (by simp [Value.oneCell']) (by unfold maxLen; omega) (by omega) (by simp; omega) ?_)
      intro v' w1 hown' hgrow _
      rw [← hmod.out, u64V_snoc] at hown'
      have hb2 : Below w.heap.size w w1 := (hb.alloc hBs _).grown hgrow (by simp; omega) (fun k hk => (ho.lt k hk).1)
      have ho2 : w1.ownsRow w.heap.size 92 1 v' (xs ++ [r % 1000000000]).length (u64V (xs ++ [r % 1000000000])) := by
        rw [List.length_append, List.length_singleton]; exact hown'
      clear hgrow hown' ho hb hmod
      go_wp2
      go_roundw
      case rel => exact ⟨v', xs ++ [r % 1000000000], r / 1000000000, rfl, by go_num, by omega, hv2, hs2, hz2', ho2, hb2⟩
      case measure => simp [intOf]; omega
    · obtain rfl : r = 0 := by omega
      have HN : Hid (Lm.isNat xs W) := ⟨by have := hv.out; simpa using this, hs.out, hz.out rfl⟩
      clear hv hs hz h0
      go_wp2
      go_ret
      exact ⟨⟨vv, rfl, xs, own_base ho (Nat.zero_le _), HN.out⟩, hb⟩

theorem rowN_open {w : World} {v : Value} {xs : List Nat} (h : rowN w v xs) : ∃ ao cap, v = .slice ao xs.length cap ∧ (∀ i, i < xs.length → ∃ g, ao = some ⟨g, 0, none⟩ ∧ g < w.heap.size) := by
  rcases rowN_shape h with ⟨rfl, rfl⟩ | ⟨g, cap, rfl, h1, _⟩
  · exact ⟨none, 0, rfl, fun i hi => absurd hi (by simp)⟩
  · exact ⟨_, cap, rfl, fun _ _ => ⟨g, rfl, h1⟩⟩

theorem times_step (xs ys : List Nat) (i c t m : Nat) (hi : i < xs.length) (hl : ys.length = i) (h : Lm.lval ys + 1000000000 ^ i * c = Lm.lval (xs.take i) * t + m) :
    Lm.lval (ys ++ [(c + xs[i] * t) % 1000000000]) + 1000000000 ^ (i + 1) * ((c + xs[i] * t) / 1000000000) = Lm.lval (xs.take (i + 1)) * t + m := by
  rw [List.take_succ_eq_append_getElem hi, Lm.lval_snoc, Lm.lval_snoc, hl, List.length_take, Nat.min_eq_left (Nat.le_of_lt hi), Nat.pow_succ]
  generalize xs[i] = g
  have e := Nat.div_add_mod (c + g * t) 1000000000
  have e2 : 1000000000 ^ i * (c + g * t) = 1000000000 ^ i * 1000000000 * ((c + g * t) / 1000000000) + 1000000000 ^ i * ((c + g * t) % 1000000000) := by
    rw [Nat.mul_assoc, ← Nat.mul_add, e]
  rw [Nat.mul_add] at e2
  have e3 : (Lm.lval (xs.take i) + 1000000000 ^ i * g) * t = Lm.lval (xs.take i) * t + 1000000000 ^ i * (g * t) := by rw [Nat.add_mul, Nat.mul_assoc]
  rw [e3]
  omega

theorem prod_bound (g t c : Nat) (hg : g < 1000000000) (ht : t < 1000000000) (hc : c < 1000000000) : c + g * t < 1000000000 * 1000000000 := by
  have : g * t ≤ 999999999 * 999999999 := Nat.mul_le_mul (by omega) (by omega)
  omega

/-- Groups that are done, and noughts behind them. -/

theorem fill_set (ys : List Nat) (k x : Nat) : (ys ++ List.replicate (k + 1) 0).set ys.length x = (ys ++ [x]) ++ List.replicate k 0 := by
  rw [List.set_append_right _ _ (Nat.le_refl _), Nat.sub_self, List.replicate_succ, List.set_cons_zero]
  simp

set_option maxHeartbeats 800000 in
theorem timesPlus_any (v : Value) (n t m : Nat) (w : World) (hv : isN w v n) (ht : t < 1000000000) (hm : m < 1000000000) (hL : n < 1000000000 ^ 10000) :
    Calls Tryd.prog 79 #[v, .int .u64 t, .int .u64 m] w fun e w' => (∃ v', e = .returned v' ∧ isN w' v' (n * t + m)) ∧ Below w.heap.size w w' := by
  obtain ⟨i0, hi, hz0, hz1, hz2⟩ := info_parts infoU64
  obtain ⟨xs, hr, hn⟩ := hv
  have hlen := Lm.isNat_length xs n 10000 hn hL
  obtain ⟨ao, cap, rfl, hao⟩ := rowN_open hr
  have HN : Hid (Lm.isNat xs n) := hn
  clear hn hL
  go_enter Tryd.func79, Tryd.ntmps79
  go_wp2_with (at_make; refine wpList_make_full w rfl _ _ 42 rfl w.heap.size 92 i0 (.int .u64 0) 1 Tryd.underlying42 hi hz0 hz1 .i64 .i64 ((xs.length : Int) + 1) ((xs.length : Int) + 1) (xs.length + 1) rfl rfl (by omega) (by omega) (by rw [hz2]; omega) (by unfold maxLen; omega) (Nat.le_refl _) ?_)
  intro w1 hown1 hgr1
  rw [toList_madeCells_one] at hown1
  have hb1 : Below w.heap.size w w1 := (Below.refl _ _).grown hgr1 (Nat.le_refl _) (by intro k hk; cases hk)
  have hr1 := rowN_below hr hb1
  have hc0 : w1.ownsRow w.heap.size 92 1 (.slice (some ⟨w.heap.size, 0, none⟩) (xs.length + 1) (xs.length + 1)) (xs.length + 1) (u64V ([] ++ List.replicate (xs.length + 1) 0)) := by
    simpa [u64V] using hown1
  clear hgr1 hown1 hr
  go_wp2
  go_loopw [8, 18] (fun u k wr => ∃ (i c : Nat) (ys : List Nat), i ≤ xs.length ∧ k = .int .i64 i ∧ u = .int .u64 c ∧ c < 1000000000 ∧ ys.length = i ∧ Hid (Lm.small ys) ∧ Hid (Lm.lval ys + 1000000000 ^ i * c = Lm.lval (xs.take i) * t + m) ∧
      wr.ownsRow w.heap.size 92 1 (.slice (some ⟨w.heap.size, 0, none⟩) (xs.length + 1) (xs.length + 1)) (xs.length + 1) (u64V (ys ++ List.replicate (xs.length + 1 - i) 0)) ∧ Hid (rowN wr (.slice ao xs.length cap) xs) ∧ Below w.heap.size w wr)
    (fun _ k _ => xs.length - (intOf k).toNat)
  case atStart => exact ⟨0, m, [], by omega, rfl, rfl, hm, rfl, Lm.small_nil, by show Lm.lval [] + 1 * m = _; simp [Lm.lval], hc0, hr1, hb1⟩
  case round =>
    obtain ⟨i, c, ys, hi', rfl, rfl, hc, hl, hs, hval, ho, hrr, hb⟩ := hrel
    clear hc0 hr1 hb1
    have hBs := hb.size
    by_cases hlt : i < xs.length
    · obtain ⟨g, rfl, hg⟩ := hao i hlt
      have hcell := rowN_cell hrr.out rfl i hlt
      have hstep := times_step xs ys i c t m hlt hl hval.out
      have hxi := HN.out.2.1 xs[i] (List.getElem_mem _)
      obtain ⟨x, hx⟩ : ∃ x, x = xs[i] := ⟨_, rfl⟩
      rw [← hx] at hcell hstep hxi
      obtain ⟨z, hz⟩ : ∃ z, z = x * t := ⟨_, rfl⟩
      have hzb : z ≤ 999999998000000001 := by
        rw [hz]; exact Nat.le_trans (Nat.mul_le_mul (show x ≤ 999999999 by omega) (show t ≤ 999999999 by omega)) (by decide)
      have hw : IntKind.u64.wrap ((x : Int) * (t : Int)) = (z : Int) := by
        rw [hz, IntKind.wrap_u64, ← Int.natCast_mul, ← hz]; omega
      rw [← hz] at hstep
      have hcast : (((c + z) % 1000000000 : Nat) : Int) = ((c : Int) + (z : Int)) % 1000000000 := by omega
      have hst := ho.stored i (.int .u64 ((c + z) % 1000000000 : Nat))
      have e1 : xs.length + 1 - i = (xs.length - i) + 1 := by omega
      rw [u64V_set, e1, ← hl, fill_set, hl] at hst
      have e2 : xs.length + 1 - (i + 1) = xs.length - i := by omega
      rw [← e2, hcast] at hst
      have hst1 := hst.1
      have hcw : ∃ u, wr.cell? ⟨w.heap.size, i, none⟩ = some u := by
        have := ho.cellAt i (by omega)
        have h1 := ho.1
        rw [this]
        exact ⟨_, List.getElem?_eq_getElem (by omega)⟩
      obtain ⟨u, hcw⟩ := hcw
      have hfz := ho.frozenAt i
      have hrr2 : Hid (rowN (wr.setCell ⟨w.heap.size, i, none⟩ (.int .u64 (((c : Int) + (z : Int)) % 1000000000))) (.slice (some ⟨g, 0, none⟩) xs.length cap) xs) :=
        World.ownsRow.kept hrr.out hst.2 (by right; simp [Value.ownBlock]; omega)
      have hb2 := hb.setCell (p := ⟨w.heap.size, i, none⟩) (Nat.le_refl _) (.int .u64 (((c : Int) + (z : Int)) % 1000000000))
      have hs2 : Hid (Lm.small (ys ++ [(c + z) % 1000000000])) := Lm.small_append hs.out (Lm.small_one (Nat.mod_lt _ (by omega)))
      have hst3 : Hid (Lm.lval (ys ++ [(c + z) % 1000000000]) + 1000000000 ^ (i + 1) * ((c + z) / 1000000000) = Lm.lval (xs.take (i + 1)) * t + m) := hstep
      have hl2 : Hid ((ys ++ [(c + z) % 1000000000]).length = i + 1) := by show _ = _; simp [hl]
      clear hst hstep hz hx hval hs hrr hb e1 e2 ho hcast
      go_wp2
      go_roundw
      case rel => exact ⟨i + 1, (c + z) / 1000000000, ys ++ [(c + z) % 1000000000], by omega, by go_num, by go_num, by omega, hl2.out, hs2, hst3, hst1, hrr2, hb2⟩
      case measure => simp [intOf]; omega
    · obtain rfl : i = xs.length := by omega
      have e1 : xs.length + 1 - xs.length = 0 + 1 := by omega
      have hcw : ∃ u, wr.cell? ⟨w.heap.size, xs.length, none⟩ = some u := by
        have := ho.cellAt xs.length (by omega)
        have h1 := ho.1
        rw [this]
        exact ⟨_, List.getElem?_eq_getElem (by omega)⟩
      obtain ⟨u, hcw⟩ := hcw
      have hfz := ho.frozenAt xs.length
      have hst := ho.stored xs.length (.int .u64 (c : Nat))
      have e4 : (u64V (ys ++ List.replicate (xs.length + 1 - xs.length) 0)).set xs.length (.int .u64 (c : Nat)) = u64V (ys ++ [c]) := by
        rw [u64V_set, e1]
        have := fill_set ys 0 c
        rw [hl] at this
        rw [this]; simp
      rw [e4] at hst
      have hb2 := hb.setCell (p := ⟨w.heap.size, xs.length, none⟩) (Nat.le_refl _) (.int .u64 (c : Nat))
      have hr2 : rowN (wr.setCell ⟨w.heap.size, xs.length, none⟩ (.int .u64 (c : Nat))) (.slice (some ⟨w.heap.size, 0, none⟩) (xs.length + 1) (xs.length + 1)) (ys ++ [c]) := by
        have := own_base hst.1 (Nat.zero_le _)
        unfold rowN
        rw [List.length_append, List.length_singleton, hl]
        exact this
      have hs2 : Hid (Lm.small (ys ++ [c])) := Lm.small_append hs.out (Lm.small_one hc)
      have hl2 : (ys ++ [c]).length ≤ 1000000 := by rw [List.length_append, List.length_singleton, hl]; omega
      have hv2 : Hid (Lm.lval (ys ++ [c]) = n * t + m) := by
        show _ = _
        have := hval.out
        rw [List.take_length] at this
        rw [Lm.lval_snoc, hl, this, HN.out.1]
      have HR : Hid (rowN (wr.setCell ⟨w.heap.size, xs.length, none⟩ (.int .u64 (c : Nat))) (.slice (some ⟨w.heap.size, 0, none⟩) (xs.length + 1) (xs.length + 1)) (ys ++ [c])) := hr2
      clear hst e4 hval hs hrr hb ho hr2 e1
      go_wp2_with fail
      refine (trim_any _ (ys ++ [c]) _ HR.out hs2.out hl2).mono ?_
      rintro e w' ⟨⟨v', rfl, hv'⟩, rfl⟩
      rw [hv2.out] at hv'
      have HV : Hid (isN (wr.setCell ⟨w.heap.size, xs.length, none⟩ (.int .u64 (c : Nat))) v' (n * t + m)) := hv'
      clear hv' HR
      go_wp2
      go_ret
      exact ⟨⟨v', rfl, HV.out⟩, hb2⟩

end Go.Proofs.YtaggfbffdbompaaDoor
