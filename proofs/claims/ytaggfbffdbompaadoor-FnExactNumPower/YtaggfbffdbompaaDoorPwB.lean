/-
  The contract of the places' bits, the highest one that is set first.
-/
import Derived.Test.YtaggfbffdbompaaDoorBack
import Derived.Test.YtaggfbffdbompaaDoorShelfB
import Derived.Laws.Bits64b
import Derived.Lib.ItoaNum
namespace Go.Proofs.YtaggfbffdbompaaDoor
set_option maxRecDepth 100000
set_option linter.unusedVariables false
set_option linter.unusedSimpArgs false
open Go.RowKit Go.Shelf

attribute [local go_sem] Oper.semAt_some

/-- The bit at a place. -/
def bitB (t i : Nat) : Bool := t / 2 ^ i % 2 == 1
def encB (t : Nat) (L : Nat) (x : Fin L) : Array Value := #[.bool (bitB t x.1)]

theorem bitB_eq (t i : Nat) (ht : t ≤ 1000) : (bits .and .u64 ((t : Int) / 2 ^ i) 1 == 1) = bitB t i := by
  have e : (t : Int) / 2 ^ i = ((t / 2 ^ i : Nat) : Int) := by simp
  have hl : t / 2 ^ i ≤ t := Nat.div_le_self _ _
  have e2 : ((1 : Int)) = ((1 : Nat) : Int) := rfl
  rw [e, e2, Go.bits_and_u64_nat _ 1 (by omega) (by omega), Nat.and_one_is_mod]
  unfold bitB
  rcases Nat.mod_two_eq_zero_or_one (t / 2 ^ i) with h | h <;> rw [h] <;> rfl

theorem bit_step (t i : Nat) : t / 2 ^ i = 2 * (t / 2 ^ (i + 1)) + (if bitB t i then 1 else 0) := by
  have e : t / 2 ^ (i + 1) = t / 2 ^ i / 2 := by rw [Nat.pow_succ, Nat.div_div_eq_div_mul]
  rw [e]; unfold bitB
  have := Nat.div_add_mod (t / 2 ^ i) 2
  rcases Nat.mod_two_eq_zero_or_one (t / 2 ^ i) with h | h <;> rw [h] <;> simp <;> omega

theorem len_top (t : Nat) (ht : t ≤ 1000) : t / 2 ^ Lib.bitLen t = 0 := by
  rcases Nat.eq_zero_or_pos t with h | h
  · subst h; exact Nat.zero_div _
  · exact Nat.div_eq_of_lt (Lib.bitLenAux_bounds 64 t (by omega) (by omega)).2.2

set_option maxRecDepth 100000 in
set_option maxHeartbeats 800000 in
theorem bits1_in (n : Nat) (hn : 1 ≤ n) (l Bs n₀ t L : Nat) (ht : t ≤ 1000) (hL : Lib.bitLen t = L) (hL64 : L ≤ 64) (J Jx : List (Fin L) → World → Prop)
    (hY : ∀ pre x W, J pre W → pre.length < L → YieldAt Fence.wide (n - 1) Tryd.prog l (encB t L x) W fun e W' =>
      (e = .returned (.bool true) ∧ J (pre ++ [x]) W' ∧ KpB n₀ Bs W W') ∨ (e = .returned (.bool false) ∧ Jx (pre ++ [x]) W'))
    (W : World) (hBs : W.cell? ⟨Bs, 0, none⟩ = some (.int .u64 t)) (h0 : J [] W) :
    CallsIn Fence.wide n Tryd.prog 89 #[.func (.yield l) #[] #[], .pointer (some ⟨Bs, 0, none⟩)] W fun e W' => (∃ v, e = .returned v) ∧
      ((∃ ys, ys = dnk L L ∧ J ys W') ∨ (∃ pre, (∃ k, k ≤ L ∧ pre = dnk L k) ∧ Jx pre W')) := by
  refine callsIn_of_wp Tryd.func89 rfl trivial ?_ rfl
  simp only [Tryd.ntmps89, List.size_toArray, List.length_cons, List.length_nil, Nat.reduceAdd, Nat.reduceSub, Array.replicate_succ, Array.replicate_zero, List.push_toArray, List.append_toArray, List.nil_append, List.cons_append]
  gi_wp2_with fail
  refine ⟨trivial, (callsIn_wide.2 (Tryd.bits_Len (t : Int) _ (by omega) (by omega))).mono ?_⟩
  rintro e W1 ⟨rfl, rfl⟩
  have hLt : Lib.bitLen (t : Int).toNat = L := by rw [Int.toNat_natCast]; exact hL
  rw [hLt]
  gi_wp2
  gi_loopw [3] (fun i wr => ∃ k : Nat, k ≤ L ∧ i = .int .i64 ((L : Int) - 1 - (k : Int)) ∧ J (dnk L k) wr ∧ KpB n₀ Bs W1 wr)
    (fun i _ => (intOf i + 1).toNat)
  case atStart => exact ⟨0, Nat.zero_le _, by go_num, h0, KpB.refl _ _ _⟩
  case round =>
    obtain ⟨k, hk, rfl, hJs, hnx⟩ := hrel
    have hBs' : wr.cell? ⟨Bs, 0, none⟩ = some (.int .u64 t) := (World.cell?_of_block (a := ⟨Bs, 0, none⟩) hnx.2).trans hBs
    by_cases hlt : k < L
    · obtain ⟨i, hi⟩ : ∃ i : Nat, (L : Int) - 1 - (k : Int) = (i : Int) := ⟨L - 1 - k, by omega⟩
      have hil : i < L := by omega
      have HS : Hid (dnk L (k + 1) = dnk L k ++ [⟨i, hil⟩]) := by
        show _ = _
        rw [dnk_succ _ _ hlt]; congr 2; simp; omega
      obtain ⟨fn, tmps, assign, body, hy, hR⟩ := hY _ ⟨i, hil⟩ wr hJs (by rw [dnk_length _ _ hk]; exact hlt)
      simp only [encB] at hy
      have hbt := bitB_eq t i ht
      gi_wp2
      refine hR.mono ?_
      rintro e W3 (⟨rfl, hJ3, hk3⟩ | ⟨rfl, hJx3⟩)
      · gi_wp2
        go_roundw
        case rel => exact ⟨k + 1, by omega, by go_num, by rw [HS.out]; exact hJ3, hnx.trans hk3⟩
        case measure => simp [intOf]; omega
      · gi_wp2
        refine bodyPost_ret (results_none rfl _ _ _) rfl ?_
        exact ⟨⟨_, rfl⟩, .inr ⟨_, ⟨k + 1, by omega, HS.out.symm⟩, hJx3⟩⟩
    · obtain rfl : k = L := by omega
      gi_wp2
      go_end0
      exact ⟨⟨_, rfl⟩, .inl ⟨_, rfl, hJs⟩⟩

end Go.Proofs.YtaggfbffdbompaaDoor
