/-
  Contracts of ten to a power, of going nearer to a root, and of the root.
-/
import Derived.Test.YtgckhkddjckfaagDoorMathR
import Derived.Test.YtgckhkddjckfaagDoorGcd
import Derived.Test.YtgckhkddjckfaagDoorOfDec
import Derived.Test.YtgckhkddjckfaagDoorImpl4
import Derived.Test.YtgckhkddjckfaagDoorSigned
namespace Go.Proofs.YtgckhkddjckfaagDoor
set_option maxRecDepth 100000
set_option linter.unusedVariables false
set_option linter.unusedSimpArgs false
open Go.RowKit
attribute [local go_sem ↓] Go.wp_at_zero Go.wp_at_succ

theorem tens_nat (g m : Nat) (hm : m < 9) : Lm.isNat ((List.replicate (g + 1) 0).set g (10 ^ m)) (10 ^ (9 * g + m)) := by
  have e : (List.replicate (g + 1) 0).set g (10 ^ m) = List.replicate g 0 ++ [10 ^ m] := by
    rw [List.replicate_succ', List.set_append]
    simp
  rw [e]
  refine ⟨?_, ?_, ?_⟩
  · rw [Lm.lval_snoc, Lm.lval_zeros, List.length_replicate, Nat.zero_add, base_pow, ← Nat.pow_add]
  · refine Lm.small_append ?_ (Lm.small_one ?_)
    · intro x hx; rw [List.mem_replicate] at hx; omega
    · exact Nat.lt_of_le_of_lt (Nat.pow_le_pow_right (by omega) (show m ≤ 8 by omega)) (by decide)
  · simp only [List.getLast?_append, List.getLast?_singleton, Option.some_or, ne_eq, Option.some.injEq]
    exact Nat.pos_iff_ne_zero.1 (Nat.pow_pos (by decide))

theorem fits_addR {a x y : Nat} (h : fits x a) (k : fits y a) : fits (x + y) (a + 1) := by
  refine ⟨?_⟩
  have h1 := h.out
  have h2 := k.out
  rw [Nat.pow_succ]
  omega

theorem fits_pow (p L : Nat) (h : p < 9 * L) : fits (10 ^ p) L := by
  refine ⟨?_⟩
  rw [base_pow]; exact Nat.pow_lt_pow_right (by omega) h

set_option maxHeartbeats 1600000 in
theorem natOfTens_any (p : Nat) (w : World) (hp : p ≤ 100000) :
    Calls Tryd.prog 27 #[.int .i64 p] w fun e w' => (∃ v, e = .returned v ∧ isN w' v (10 ^ p)) ∧ Below w.heap.size w w' := by
  obtain ⟨i0, hi, hz0, hz1, hz2⟩ := info_parts infoU64
  obtain ⟨g, hg⟩ : ∃ g, g = p / 9 := ⟨_, rfl⟩
  obtain ⟨m, hm⟩ : ∃ m, m = p % 9 := ⟨_, rfl⟩
  have hpgm : p = 9 * g + m := by omega
  have hm9 : m < 9 := by omega
  have hg2 : g ≤ 100000 := by omega
  have HP : Hid (p = 9 * g + m) := hpgm
  have hpd : (p : Int) / 9 = (g : Int) := by omega
  have hpm : (p : Int) % 9 = (m : Int) := by omega
  have hptd : (p : Int).tdiv 9 = (g : Int) := by rw [Int.tdiv_eq_ediv_of_nonneg (by omega)]; exact hpd
  have hptm : (p : Int).tmod 9 = (m : Int) := by rw [Int.tmod_eq_emod_of_nonneg (by omega)]; exact hpm
  clear hg hm hpgm
  go_enter Tryd.func27, Tryd.ntmps27
  go_wp2_with (at_make; refine wpList_make_full w rfl _ _ 40 rfl w.heap.size 65 i0 (.int .u64 0) 1 Tryd.underlying40 hi hz0 hz1 .i64 .i64 _ _ (g + 1) rfl rfl (by first | rfl | omega) (by first | rfl | omega) (by rw [hz2]; omega) (by unfold maxLen; omega) (Nat.le_refl _) ?_)
  intro w1 hown1 hgr1
  rw [toList_madeCells_one] at hown1
  have hb1 : Below w.heap.size w w1 := (Below.refl _ _).grown hgr1 (Nat.le_refl _) (by intro k hk; cases hk)
  have hc0 : w1.ownsRow w.heap.size 65 1 (.slice (some ⟨w.heap.size, 0, none⟩) (g + 1) (g + 1)) (g + 1) (u64V (List.replicate (g + 1) 0)) := by
    simpa [u64V] using hown1
  have HO : Hid (w1.ownsRow w.heap.size 65 1 (.slice (some ⟨w.heap.size, 0, none⟩) (g + 1) (g + 1)) (g + 1) (u64V (List.replicate (g + 1) 0))) := hc0
  have HB : Hid (Below w.heap.size w w1) := hb1
  have hcell : w1.cell? ⟨w.heap.size, g, none⟩ = some (.int .u64 (0 : Int)) := by
    have h1 := hc0.cellAt g (by omega)
    rw [h1, u64V_get _ g (by simp)]
    simp
  have hfz : w1.frozen? ⟨w.heap.size, g, none⟩ = false := hc0.frozenAt g
  have h0g : (0 : Int) ≤ (g : Int) := by omega
  have hgg : (g : Int) < (g : Int) + 1 := by omega
  clear hgr1 hown1 hb1 hc0
  have HN1 : Hid ((List.replicate (g + 1) 0).set g (pw m) = (List.replicate (g + 1) 0).set g (10 ^ m)) := rfl
  go_wp2_with fail
  refine (pow10_any m _ (by omega)).mono ?_
  rintro e w2 ⟨rfl, rfl⟩
  go_wp2
  go_ret
  have hst := HO.out.stored g (.int .u64 ((pw m : Nat)))
  rw [u64V_set] at hst
  refine ⟨⟨_, rfl, (List.replicate (g + 1) 0).set g (pw m), ?_, ?_⟩, HB.out.setCell (p := ⟨w.heap.size, g, none⟩) (Nat.le_refl _) _⟩
  · show World.ownsRow _ 0 _ _ _ _ _
    rw [List.length_set, List.length_replicate]
    exact own_base hst.1 (Nat.zero_le _)
  · rw [HN1.out, HP.out]
    exact tens_nat g m hm9

end Go.Proofs.YtgckhkddjckfaagDoor
