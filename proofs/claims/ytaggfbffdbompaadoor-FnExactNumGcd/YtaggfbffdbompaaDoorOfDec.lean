/-
  The contract of reading decimal digits as groups.
-/
import Derived.Test.YtaggfbffdbompaaDoorGcd
import Derived.Deep.RegionWith
namespace Go.Proofs.YtaggfbffdbompaaDoor
set_option maxRecDepth 100000
set_option linter.unusedVariables false
set_option linter.unusedSimpArgs false
open Go.RowKit

/-- Ten to a power. -/
def pw (p : Nat) : Nat := 10 ^ p

theorem pow10_any (p : Nat) (w : World) (hp : p ≤ 9) :
    Calls Tryd.prog 83 #[.int .i64 p] w fun e w' => e = .returned (.int .u64 (pw p)) ∧ w' = w :=
  (powerOfTen_any p w hp).mono fun _ _ h => by obtain ⟨⟨q, h1, h2, _⟩, h3⟩ := h; exact ⟨by rw [h1, h2.out]; rfl, h3⟩

theorem base_pow (g : Nat) : (1000000000 : Nat) ^ g = 10 ^ (9 * g) := by
  rw [show (1000000000 : Nat) = 10 ^ 9 from by decide, ← Nat.pow_mul]

theorem pow_le9 (m : Nat) (hm : m < 9) : 10 ^ (m + 1) * 10 ^ (8 - m) = 1000000000 := by
  rw [← Nat.pow_add, show m + 1 + (8 - m) = 9 from by omega]

theorem nd_small (y m d : Nat) (hm : m < 9) (hd : d < 10) (hy : y < 1000000000) (h0 : y % 10 ^ (m + 1) = 0) : y + d * 10 ^ m < 1000000000 ∧ (y + d * 10 ^ m) % 10 ^ m = 0 := by
  have h1 := pow_le9 m hm
  obtain ⟨k, hk⟩ := Nat.dvd_of_mod_eq_zero h0
  have hlt : k < 10 ^ (8 - m) := by
    rw [hk, ← h1] at hy
    exact Nat.lt_of_mul_lt_mul_left hy
  have h2 : 10 ^ (m + 1) * (k + 1) ≤ 10 ^ (m + 1) * 10 ^ (8 - m) := Nat.mul_le_mul_left _ hlt
  rw [h1, Nat.mul_add, Nat.mul_one, ← hk] at h2
  have h3 : d * 10 ^ m ≤ 9 * 10 ^ m := Nat.mul_le_mul_right _ (by omega)
  have h4 : 10 ^ (m + 1) = 10 * 10 ^ m := by rw [Nat.pow_succ, Nat.mul_comm]
  have hp : 0 < 10 ^ m := Nat.pow_pos (by omega)
  refine ⟨by omega, ?_⟩
  rw [hk, h4, Nat.mul_comm 10, Nat.mul_assoc, Nat.mul_comm d, ← Nat.mul_add, Nat.mul_mod_right]

theorem nd_step (ys : List Nat) (p g m d : Nat) (hg : g < ys.length) (hp : p = 9 * g + m) (hm : m < 9) (hd : d < 10)
    (hI : ∀ j (h : j < ys.length), ys[j] < 1000000000 ∧ ys[j] % 10 ^ (min 9 (p + 1 - 9 * j)) = 0) :
    ys[g] + d * 10 ^ m < 1000000000 ∧ (∀ j (h : j < (ys.set g (ys[g] + d * 10 ^ m)).length), (ys.set g (ys[g] + d * 10 ^ m))[j] < 1000000000 ∧ (ys.set g (ys[g] + d * 10 ^ m))[j] % 10 ^ (min 9 (p - 9 * j)) = 0) ∧
    Lm.lval (ys.set g (ys[g] + d * 10 ^ m)) = Lm.lval ys + d * 10 ^ p := by
  have hgI := hI g hg
  rw [show min 9 (p + 1 - 9 * g) = m + 1 from by omega] at hgI
  obtain ⟨h1, h2⟩ := nd_small ys[g] m d hm hd hgI.1 hgI.2
  refine ⟨h1, ?_, ?_⟩
  · intro j hj
    rw [List.getElem_set]
    by_cases e : g = j
    · subst e
      rw [if_pos rfl, show min 9 (p - 9 * g) = m from by omega]
      exact ⟨h1, h2⟩
    · rw [if_neg e]
      have hj2 : j < ys.length := by simpa using hj
      have h3 := hI j hj2
      refine ⟨h3.1, ?_⟩
      rcases Nat.lt_or_ge j g with h | h
      · rw [show min 9 (p - 9 * j) = 9 from by omega]
        rw [show min 9 (p + 1 - 9 * j) = 9 from by omega] at h3
        exact h3.2
      · rw [show min 9 (p - 9 * j) = 0 from by omega]
        exact Nat.mod_one _
  · have h3 := Lm.lval_set ys g hg (ys[g] + d * 10 ^ m)
    rw [Nat.mul_add] at h3
    have h4 : d * 10 ^ p = 1000000000 ^ g * (d * 10 ^ m) := by
      rw [base_pow, hp, Nat.pow_add, ← Nat.mul_assoc, Nat.mul_comm d, Nat.mul_assoc]
    omega

set_option maxHeartbeats 2000000 in
theorem natOfDecimal_any (s : ByteArray) (w : World) (hs : s.size ≤ 100000) (hd : ∀ c ∈ s.data.toList, Dm.isDig c) :
    Calls Tryd.prog 69 #[.string s] w fun e w' => (∃ v', e = .returned v' ∧ isN w' v' (Dm.val s.data.toList)) ∧ Below w.heap.size w w' := by
  obtain ⟨i0, hi, hz0, hz1, hz2⟩ := info_parts infoU64
  obtain ⟨N, hN⟩ : ∃ N, N = (s.size + 8) / 9 := ⟨_, rfl⟩
  have HD : Hid (∀ c ∈ s.data.toList, Dm.isDig c) := hd
  have HNN : Hid (N = (s.size + 8) / 9) := hN
  have hN2 : N ≤ 100000 := by omega
  clear hd hN
  go_enter Tryd.func69, Tryd.ntmps69
  go_wp2_with (at_make; refine wpList_make_full w rfl _ _ 42 rfl w.heap.size 92 i0 (.int .u64 0) 1 Tryd.underlying42 hi hz0 hz1 .i64 .i64 _ _ N rfl rfl (by have := HNN.out; omega) (by have := HNN.out; omega) (by rw [hz2]; omega) (by unfold maxLen; omega) (Nat.le_refl _) ?_)
  intro w1 hown1 hgr1
  rw [toList_madeCells_one] at hown1
  have hb1 : Below w.heap.size w w1 := (Below.refl _ _).grown hgr1 (Nat.le_refl _) (by intro k hk; cases hk)
  have hc0 : w1.ownsRow w.heap.size 92 1 (.slice (some ⟨w.heap.size, 0, none⟩) N N) N (u64V (List.replicate N 0)) := by
    simpa [u64V] using hown1
  clear hgr1 hown1
  have hld : s.data.toList.length = s.size := by simp
  have HLD : Hid (s.data.toList.length = s.size) := hld
  clear hld
  go_wp2
  go_loopw [14] (fun k wr => ∃ (i : Nat) (ys : List Nat), i ≤ s.size ∧ k = .int .i64 i ∧ Hid (ys.length = N) ∧ Hid (Lm.lval ys = Dm.val (s.data.toList.take i) * 10 ^ (s.size - i)) ∧
      Hid (∀ j (h : j < ys.length), ys[j] < 1000000000 ∧ ys[j] % 10 ^ (min 9 (s.size - i - 9 * j)) = 0) ∧
      wr.ownsRow w.heap.size 92 1 (.slice (some ⟨w.heap.size, 0, none⟩) N N) N (u64V ys) ∧ Below w.heap.size w wr)
    (fun k _ => s.size - (intOf k).toNat)
  case atStart => exact ⟨0, List.replicate N 0, by omega, rfl, by show _ = _; simp, by show _ = _; simp [Lm.lval_zeros, Dm.val], fun j h => by simp, hc0, hb1⟩
  case round =>
    obtain ⟨i, ys, hi', rfl, hyl, hyv, hyI, ho, hb⟩ := hrel
    clear hc0 hb1
    have hBs := hb.size
    by_cases hlt : i < s.size
    · obtain ⟨p, hp⟩ : ∃ p, p = s.size - 1 - i := ⟨_, rfl⟩
      obtain ⟨g, hg⟩ : ∃ g, g = p / 9 := ⟨_, rfl⟩
      obtain ⟨m, hm⟩ : ∃ m, m = p % 9 := ⟨_, rfl⟩
      have hpgm : p = 9 * g + m := by omega
      have hgN : g < N := by have := HNN.out; omega
      have hm9 : m < 9 := by omega
      have hdg := HD.out (s.data.toList[i]'(by have := HLD.out; omega)) (List.getElem_mem _)
      obtain ⟨d, hdd⟩ : ∃ d, d = (s.data.toList[i]'(by have := HLD.out; omega)).toNat - 48 := ⟨_, rfl⟩
      have hsi : (s[i]'hlt).toNat = 48 + d := by
        have h1 := hdg.1
        have e : (s.data.toList[i]'(by have := HLD.out; omega)).toNat = (s[i]'hlt).toNat := rfl
        rw [e] at h1 hdd; omega
      have hd10 : d < 10 := by
        have h2 := hdg.2
        have e : (s.data.toList[i]'(by have := HLD.out; omega)).toNat = (s[i]'hlt).toNat := rfl
        rw [e] at h2; omega
      have hst := nd_step ys p g m d (by rw [hyl.out]; exact hgN) hpgm hm9 hd10 (by
        intro j hj
        have := hyI.out j hj
        rw [show s.size - i - 9 * j = p + 1 - 9 * j from by omega] at this
        exact this)
      have hcell : wr.cell? ⟨w.heap.size, g, none⟩ = some (.int .u64 (ys[g]'(by rw [hyl.out]; exact hgN) : Nat)) := by
        have h1 := ho.cellAt g (by omega)
        rw [h1, u64V_get ys g (by rw [hyl.out]; exact hgN)]
      have hfz := ho.frozenAt g
      have hy9 := (hyI.out g (by rw [hyl.out]; exact hgN)).1
      obtain ⟨y, hy⟩ : ∃ y, y = ys[g]'(by rw [hyl.out]; exact hgN) := ⟨_, rfl⟩
      rw [← hy] at hcell hst hy9
      obtain ⟨z, hz⟩ : ∃ z, z = d * pw m := ⟨_, rfl⟩
      have hz2 : d * 10 ^ m = z := hz.symm
      rw [hz2] at hst
      have htv : Dm.val (s.data.toList.take (i + 1)) = Dm.val (s.data.toList.take i) * 10 + d := by
        rw [List.take_succ_eq_append_getElem (by have := HLD.out; omega), Dm.val_snoc, hdd]
      have HTV : Hid (Dm.val (s.data.toList.take (i + 1)) = Dm.val (s.data.toList.take i) * 10 + d) := htv
      clear htv
      have hz9 : z ≤ 9000000000 := by
        have : pw m ≤ 1000000000 := Nat.le_trans (Nat.pow_le_pow_right (by omega) (show m ≤ 9 by omega)) (by decide)
        rw [hz]; exact Nat.le_trans (Nat.mul_le_mul (show d ≤ 9 by omega) this) (by decide)
      have hw : IntKind.u64.wrap ((d : Int) * (pw m : Int)) = (z : Int) := by
        rw [hz, IntKind.wrap_u64, ← Int.natCast_mul, ← hz]; omega
      have hsd : ((s[i]'hlt).toNat : Int) = 48 + (d : Int) := by rw [hsi]; simp
      have hpl : (s.size : Int) - 1 - (i : Int) = (p : Int) := by omega
      have hpd : (p : Int) / 9 = (g : Int) := by omega
      have hpm : (p : Int) % 9 = (m : Int) := by omega
      have hgN1 : (0 : Int) ≤ (g : Int) := by omega
      have hgN2 : (g : Int) < (N : Int) := by omega
      have hiN1 : (0 : Int) ≤ (i : Int) := by omega
      have hiN2 : (i : Int) < (s.size : Int) := by omega
      have HST : Hid _ := hst
      clear hst hdg hdd hsi hy hz hz2 hpgm hp hg hm
      go_wp2
      refine Go.wp_mono (Q := fun e a' w' => match e with | .normal => ∃ x22 x23 x24 x25 x26 x27 x28 x29 x30 x31 x32 x33 x34 x35 x36 x37 : Value, w' = (wr.drew.setCell ⟨w.heap.size, g, none⟩ (.int .u64 ((y : Int) + (z : Int)))) ∧ a' = { tmps := #[.string s, undef, .slice none 0 0, .slice (some ⟨w.heap.size, 0, none⟩) N N, .int .i64 i, .int .i64 p, .string s, .int .i64 s.size, .int .i64 ((s.size : Int) + 9), .int .i64 ((s.size : Int) + 9 - 1), .int .i64 (((s.size : Int) + 9 - 1) / 9), .slice (some ⟨w.heap.size, 0, none⟩) N N, .string s, .int .i64 s.size, .int .i64 i, .bool true, .int .i64 i, .string s, .int .i64 s.size, .int .i64 ((s.size : Int) - 1), .int .i64 i, .int .i64 p, x22, x23, x24, x25, x26, x27, x28, x29, x30, x31, x32, x33, x34, x35, x36, x37, u38, undef, undef], defers := [] } | _ => False) ?_ ?_
      · have hwg : IntKind.i64.wrap (g : Int) = (g : Int) := by rw [IntKind.wrap_i64]; omega
        have hwm : IntKind.i64.wrap (m : Int) = (m : Int) := by rw [IntKind.wrap_i64]; omega
        have hptd : (p : Int).tdiv 9 = (g : Int) := by rw [Int.tdiv_eq_ediv_of_nonneg (by omega)]; exact hpd
        have hptm : (p : Int).tmod 9 = (m : Int) := by rw [Int.tmod_eq_emod_of_nonneg (by omega)]; exact hpm
        have hwd8 : IntKind.u8.wrap (48 + (d : Int) - 48) = (d : Int) := by simp [IntKind.wrap, IntKind.bits, IntKind.signed]; omega
        have hwd64 : IntKind.u64.wrap (d : Int) = (d : Int) := by rw [IntKind.wrap_u64]; omega
        have hwy : IntKind.u64.wrap ((y : Int) + (z : Int)) = (y : Int) + (z : Int) := by rw [IntKind.wrap_u64]; omega
        clear HST hyl hyv hyI ho hb HD HNN HLD
        go_region_with (go_at_call 83; refine (pow10_any m _ (by omega)).mono ?_; rintro e w' ⟨rfl, rfl⟩)
        all_goals exact ⟨_, _, _, _, _, _, _, _, _, _, _, _, _, _, _, _, rfl, rfl⟩
      · intro e a' w' hq
        cases e
        case normal =>
          obtain ⟨x22, x23, x24, x25, x26, x27, x28, x29, x30, x31, x32, x33, x34, x35, x36, x37, rfl, rfl⟩ := hq
          have hst2 := ho.stored g (.int .u64 ((y + z : Nat)))
          rw [u64V_set] at hst2
          have hst3 := hst2.1
          have hb2 := (hb.drew).setCell (p := ⟨w.heap.size, g, none⟩) (Nat.le_refl _) (.int .u64 ((y + z : Nat)))
          have hcast : ((y + z : Nat) : Int) = (y : Int) + (z : Int) := by omega
          rw [hcast] at hst3 hb2
          have ho3 : (wr.drew.setCell ⟨w.heap.size, g, none⟩ (.int .u64 ((y : Int) + (z : Int)))).ownsRow w.heap.size 92 1 (.slice (some ⟨w.heap.size, 0, none⟩) N N) N (u64V (ys.set g (y + z))) := hst3
          have HL2 : Hid ((ys.set g (y + z)).length = N) := by show _ = _; rw [List.length_set]; exact hyl.out
          have HI2 : Hid (∀ j (h : j < (ys.set g (y + z)).length), (ys.set g (y + z))[j] < 1000000000 ∧ (ys.set g (y + z))[j] % 10 ^ (min 9 (s.size - (i + 1) - 9 * j)) = 0) := by
            intro j hj
            have := HST.out.2.1 j hj
            rw [show s.size - (i + 1) - 9 * j = p - 9 * j from by omega]
            exact this
          have HV2 : Hid (Lm.lval (ys.set g (y + z)) = Dm.val (s.data.toList.take (i + 1)) * 10 ^ (s.size - (i + 1))) := by
            show _ = _
            rw [HST.out.2.2, hyv.out, HTV.out, show s.size - i = (s.size - (i + 1)) + 1 from by omega, Nat.pow_succ, show p = s.size - (i + 1) from by omega, Nat.add_mul]
            rw [Nat.mul_comm (10 ^ _) 10, ← Nat.mul_assoc]
          clear hst2 hst3 hcast HST HTV hyl hyv hyI ho hb hw hcell hfz
          simp only [Exit.inBlock]
          go_wp2
          go_roundw
          case rel => exact ⟨i + 1, ys.set g (y + z), by omega, by go_num, HL2, HV2, HI2, ho3, hb2⟩
          case measure => simp [intOf]; omega
        all_goals exact hq.elim
    · obtain rfl : i = s.size := by omega
      have e1 : s.data.toList.take s.size = s.data.toList := by rw [← HLD.out, List.take_length]
      have hv2 := hyv.out
      rw [e1, Nat.sub_self, Nat.pow_zero, Nat.mul_one] at hv2
      have HV2 : Hid (Lm.lval ys = Dm.val s.data.toList) := hv2
      have hrow : Hid (rowN wr (.slice (some ⟨w.heap.size, 0, none⟩) N N) ys) := by
        have := own_base ho (Nat.zero_le _)
        show rowN _ _ _
        unfold rowN
        rw [hyl.out]; exact this
      have hsm : Hid (Lm.small ys) := by
        intro c hc
        obtain ⟨j, hj, rfl⟩ := List.mem_iff_getElem.1 hc
        exact (hyI.out j hj).1
      have hyl2 : ys.length ≤ 1000000 := by rw [hyl.out]; omega
      clear hv2 hyv hyI ho hyl e1
      go_wp2_with fail
      refine (trim_any _ ys _ hrow.out hsm.out hyl2).mono ?_
      rintro e w' ⟨⟨v', rfl, hv'⟩, rfl⟩
      rw [HV2.out] at hv'
      have HV3 : Hid (isN w' v' (Dm.val s.data.toList)) := hv'
      clear hv' HV2
      go_wp2
      go_ret
      exact ⟨⟨v', rfl, HV3.out⟩, hb⟩

end Go.Proofs.YtaggfbffdbompaaDoor
