/-
  Contracts of ten to a power, of going nearer to a root, and of the root.
-/
import Derived.Test.YtaggfbffdbompaaDoorMathR
import Derived.Test.YtaggfbffdbompaaDoorGcd
import Derived.Test.YtaggfbffdbompaaDoorOfDec
import Derived.Test.YtaggfbffdbompaaDoorImpl4
import Derived.Test.YtaggfbffdbompaaDoorSigned
namespace Go.Proofs.YtaggfbffdbompaaDoor
set_option maxRecDepth 100000
set_option linter.unusedVariables false
set_option linter.unusedSimpArgs false
open Go.RowKit
attribute [local go_sem ↓] Go.wp_at_zero Go.wp_at_succ

theorem tens_nat (g m : Nat) (hm : m < 9) : Lm.isNat ((List.replicate (g + 1) 0).set g (10 ^ m)) (10 ^ (9 * g + m)) := by
  have e : (List.replicate (g + 1) 0).set g (10 ^ m) = List.replicate g 0 ++ [10 ^ m] := by
    rw [List.replicate_succ', List.set_append]
    simp
  rw [e]
  refine ⟨?_, ?_, ?_⟩
  · rw [Lm.lval_snoc, Lm.lval_zeros, List.length_replicate, Nat.zero_add, base_pow, ← Nat.pow_add]
  · refine Lm.small_append ?_ (Lm.small_one ?_)
    · intro x hx; rw [List.mem_replicate] at hx; omega
    · exact Nat.lt_of_le_of_lt (Nat.pow_le_pow_right (by omega) (show m ≤ 8 by omega)) (by decide)
  · simp only [List.getLast?_append, List.getLast?_singleton, Option.some_or, ne_eq, Option.some.injEq]
    exact Nat.pos_iff_ne_zero.1 (Nat.pow_pos (by decide))

theorem fits_addR {a x y : Nat} (h : fits x a) (k : fits y a) : fits (x + y) (a + 1) := by
  refine ⟨?_⟩
  have h1 := h.out
  have h2 := k.out
  rw [Nat.pow_succ]
  omega

theorem fits_pow (p L : Nat) (h : p < 9 * L) : fits (10 ^ p) L := by
  refine ⟨?_⟩
  rw [base_pow]; exact Nat.pow_lt_pow_right (by omega) h

set_option maxHeartbeats 1600000 in
theorem natOfTens_any (p : Nat) (w : World) (hp : p ≤ 100000) :
    Calls Tryd.prog 70 #[.int .i64 p] w fun e w' => (∃ v, e = .returned v ∧ isN w' v (10 ^ p)) ∧ Below w.heap.size w w' := by
  obtain ⟨i0, hi, hz0, hz1, hz2⟩ := info_parts infoU64
  obtain ⟨g, hg⟩ : ∃ g, g = p / 9 := ⟨_, rfl⟩
  obtain ⟨m, hm⟩ : ∃ m, m = p % 9 := ⟨_, rfl⟩
  have hpgm : p = 9 * g + m := by omega
  have hm9 : m < 9 := by omega
  have hg2 : g ≤ 100000 := by omega
  have HP : Hid (p = 9 * g + m) := hpgm
  have hpd : (p : Int) / 9 = (g : Int) := by omega
  have hpm : (p : Int) % 9 = (m : Int) := by omega
  have hptd : (p : Int).tdiv 9 = (g : Int) := by rw [Int.tdiv_eq_ediv_of_nonneg (by omega)]; exact hpd
  have hptm : (p : Int).tmod 9 = (m : Int) := by rw [Int.tmod_eq_emod_of_nonneg (by omega)]; exact hpm
  clear hg hm hpgm
  go_enter Tryd.func70, Tryd.ntmps70
  go_wp2_with (at_make; refine wpList_make_full w rfl _ _ 42 rfl w.heap.size 92 i0 (.int .u64 0) 1 Tryd.underlying42 hi hz0 hz1 .i64 .i64 _ _ (g + 1) rfl rfl (by first | rfl | omega) (by first | rfl | omega) (by rw [hz2]; omega) (by unfold maxLen; omega) (Nat.le_refl _) ?_)
  intro w1 hown1 hgr1
  rw [toList_madeCells_one] at hown1
  have hb1 : Below w.heap.size w w1 := (Below.refl _ _).grown hgr1 (Nat.le_refl _) (by intro k hk; cases hk)
  have hc0 : w1.ownsRow w.heap.size 92 1 (.slice (some ⟨w.heap.size, 0, none⟩) (g + 1) (g + 1)) (g + 1) (u64V (List.replicate (g + 1) 0)) := by
    simpa [u64V] using hown1
  have HO : Hid (w1.ownsRow w.heap.size 92 1 (.slice (some ⟨w.heap.size, 0, none⟩) (g + 1) (g + 1)) (g + 1) (u64V (List.replicate (g + 1) 0))) := hc0
  have HB : Hid (Below w.heap.size w w1) := hb1
  have hcell : w1.cell? ⟨w.heap.size, g, none⟩ = some (.int .u64 (0 : Int)) := by
    have h1 := hc0.cellAt g (by omega)
    rw [h1, u64V_get _ g (by simp)]
    simp
  have hfz : w1.frozen? ⟨w.heap.size, g, none⟩ = false := hc0.frozenAt g
  have h0g : (0 : Int) ≤ (g : Int) := by omega
  have hgg : (g : Int) < (g : Int) + 1 := by omega
  clear hgr1 hown1 hb1 hc0
  have HN1 : Hid ((List.replicate (g + 1) 0).set g (pw m) = (List.replicate (g + 1) 0).set g (10 ^ m)) := rfl
  go_wp2_with fail
  refine (pow10_any m _ (by omega)).mono ?_
  rintro e w2 ⟨rfl, rfl⟩
  go_wp2
  go_ret
  have hst := HO.out.stored g (.int .u64 ((pw m : Nat)))
  rw [u64V_set] at hst
  refine ⟨⟨_, rfl, (List.replicate (g + 1) 0).set g (pw m), ?_, ?_⟩, HB.out.setCell (p := ⟨w.heap.size, g, none⟩) (Nat.le_refl _) _⟩
  · show World.ownsRow _ 0 _ _ _ _ _
    rw [List.length_set, List.length_replicate]
    exact own_base hst.1 (Nat.zero_le _)
  · rw [HN1.out, HP.out]
    exact tens_nat g m hm9

set_option maxHeartbeats 1600000 in
theorem nearerRoot_any (v u : Value) (n r : Nat) (w : World) (hv : isN w v n) (hu : isN w u r) (hr : 0 < r) (hL : fits n 8000) (hM : fits r 8000) :
    Calls Tryd.prog 71 #[v, u] w fun e w' => (∃ v', e = .returned v' ∧ isN w' v' ((r + n / r) / 2)) ∧ Below w.heap.size w w' := by
  have HV : Hid (isN w v n) := hv
  have HU : Hid (isN w u r) := hu
  have fq : fits (n / r) 8000 := hL.mono (Nat.div_le_self _ _) (Nat.le_refl _)
  have fs : fits (r + n / r) 10000 := by
    exact (fits_addR hM fq).mono (Nat.le_refl _) (by omega)
  clear hv hu
  go_enter Tryd.func71, Tryd.ntmps71
  go_wp2_with fail
  refine (divide_any v u n r _ HV.out HU.out hr hL hM).mono ?_
  rintro e w1 ⟨⟨v1, v2, rfl, h1, _⟩, hb1⟩
  have H1 : Hid (isN w1 v1 (n / r)) := h1
  have U1 : Hid (isN w1 u r) := isN_below HU.out hb1
  have HB1 : Hid (Below w.heap.size w w1) := hb1
  clear h1 hb1 HV HU
  go_wp2_with fail
  refine (plus_any u v1 r (n / r) _ U1.out H1.out (hM.mono (Nat.le_refl _) (show 8000 ≤ 10000 by omega)).out (fq.mono (Nat.le_refl _) (show 8000 ≤ 10000 by omega)).out).mono ?_
  rintro e w2 ⟨⟨v3, rfl, h3⟩, hb2⟩
  have H3 : Hid (isN w2 v3 (r + n / r)) := h3
  have HB2 : Hid (Below w.heap.size w w2) := HB1.out.trans (hb2.mono HB1.out.size)
  clear h3 hb2 H1 U1 HB1
  go_wp2_with fail
  refine (divideWord_f v3 (r + n / r) 2 _ H3.out (by omega) (by omega) fs).mono ?_
  rintro e w3 ⟨⟨v4, r4, rfl, _, h4⟩, hb3⟩
  have H4 : Hid (isN w3 v4 ((r + n / r) / 2)) := h4
  have HB3 : Hid (Below w.heap.size w w3) := HB2.out.trans (hb3.mono HB2.out.size)
  clear h4 hb3 H3 HB2
  go_wp2
  go_ret
  exact ⟨⟨v4, rfl, H4.out⟩, HB3.out⟩

set_option maxHeartbeats 1600000 in
theorem root_any (v : Value) (n s : Nat) (w : World) (hv : isN w v n) (hs : Dm.isRoot n s) (hL : fits n 100) :
    Calls Tryd.prog 46 #[v] w fun e w' => (∃ v', e = .returned v' ∧ isN w' v' s) ∧ Below w.heap.size w w' := by
  have HV : Hid (isN w v n) := hv
  have HS : Hid (Dm.isRoot n s) := hs
  have f8 : fits n 8000 := hL.mono (Nat.le_refl _) (by omega)
  obtain ⟨zs, hr, hn⟩ := hv
  have hlen := Lm.isNat_length zs n 100 hn hL.out
  obtain ⟨ao, cap, rfl, _⟩ := rowN_open hr
  by_cases h0 : n = 0
  · have hz : zs = [] := by rw [h0] at hn; exact Lm.isNat_zero zs hn
    subst hz
    have es : s = 0 := by
      rcases Nat.eq_zero_or_pos s with h | h
      · exact h
      · have h1 := hs.1; have h2 := Nat.mul_le_mul h h; omega
    simp only [List.length_nil]
    clear hr hn hs HV HS hL f8
    go_enter Tryd.func46, Tryd.ntmps46
    go_wp2
    go_ret
    exact ⟨⟨.slice none 0 0, rfl, by rw [es]; exact ⟨[], World.ownsRow_nil _ _ _ _, Lm.isNat_nil⟩⟩, Below.refl _ _⟩
  have hzne := Lm.isNat_pos_ne zs n hn h0
  have hlp := List.length_pos_iff.2 hzne
  obtain ⟨p, hp⟩ : ∃ p, p = 9 * zs.length / 2 + 1 := ⟨_, rfl⟩
  have hp1 : p ≤ 460 := by omega
  have hpi : (9 * (zs.length : Int)) / 2 + 1 = (p : Int) := by omega
  have hpt : (9 * (zs.length : Int)).tdiv 2 + 1 = (p : Int) := by rw [Int.tdiv_eq_ediv_of_nonneg (by omega)]; exact hpi
  have hs0 : s ≤ 10 ^ p := by
    have h1 := Lm.isNat_high zs n hn
    rw [base_pow] at h1
    have h2 : 10 ^ (9 * zs.length) ≤ 10 ^ p * 10 ^ p := by
      rw [← Nat.pow_add]; exact Nat.pow_le_pow_right (by omega) (by omega)
    rcases Nat.lt_or_ge (10 ^ p) s with h3 | h3
    · have h4 := Nat.mul_le_mul (Nat.le_of_lt h3) (Nat.le_of_lt h3)
      have h5 := hs.1
      omega
    · exact h3
  have hpos : 0 < 10 ^ p := Nat.pow_pos (by decide)
  have fp : fits (10 ^ p) 8000 := fits_pow p 8000 (by omega)
  have HS0 : Hid (s ≤ 10 ^ p) := hs0
  have HPO : Hid (0 < 10 ^ p) := hpos
  have hspos : 0 < s := by
    rcases Nat.eq_zero_or_pos s with h | h
    · exfalso; have h2 := hs.2; rw [h] at h2; omega
    · exact h
  have hlz : ((zs.length : Int) == 0) = false := beq_eq_false_iff_ne.2 (by omega)
  have hlz2 : ¬ ((zs.length : Int) = 0) := by omega
  clear hr hn hs hzne hL hp hs0 hpos
  go_enter Tryd.func46, Tryd.ntmps46
  go_wp2_with fail
  refine (natOfTens_any p _ (by omega)).mono ?_
  rintro e w1 ⟨⟨v1, rfl, h1⟩, hb1⟩
  have H1 : Hid (isN w1 v1 (10 ^ p)) := h1
  have V1 : Hid (isN w1 (.slice ao zs.length cap) n) := isN_below HV.out hb1
  have HB1 : Hid (Below w.heap.size w w1) := hb1
  clear h1 hb1
  obtain ⟨t, ht⟩ : ∃ t, t = 10 ^ p := ⟨_, rfl⟩
  rw [← ht] at H1 HS0 HPO fp
  clear ht
  go_wp2_with fail
  refine (nearerRoot_any _ v1 n t _ V1.out H1.out HPO.out f8 fp).mono ?_
  rintro e w2 ⟨⟨v2, rfl, h2⟩, hb2⟩
  have H2 : Hid (isN w2 v2 ((t + n / t) / 2)) := h2
  have H1' : Hid (isN w2 v1 t) := isN_below H1.out hb2
  have HB2 : Hid (Below w.heap.size w w2) := HB1.out.trans (hb2.mono HB1.out.size)
  clear h2 hb2 H1 V1 HB1
  go_wp2_with fail
  go_loopw [3, 4] (fun a b wr => ∃ (q1 q2 : Value) (r : Nat), q1 = a ∧ q2 = b ∧ fits r 8000 ∧ Hid (s ≤ r) ∧ Hid (isN wr q1 r) ∧ Hid (isN wr q2 ((r + n / r) / 2)) ∧ Below w.heap.size w wr)
    (fun a _ wr => leftOf wr a)
  case atStart => exact ⟨_, _, t, rfl, rfl, fp, HS0, H1', H2, HB2.out⟩
  case round =>
    obtain ⟨q1, q2, r, rfl, rfl, fr, hsr, hq1, hq2, hb⟩ := hrel
    have hBs := hb.size
    have hr0 : 0 < r := Nat.lt_of_lt_of_le hspos hsr.out
    have hge := Dm.nearer_ge HS.out hr0
    obtain ⟨m, hm⟩ : ∃ m, m = (r + n / r) / 2 := ⟨_, rfl⟩
    have HM : Hid (m = (r + n / r) / 2) := hm
    rw [← hm] at hq2 hge
    have fm : fits m 10000 := by
      rw [hm]
      refine fits.mono (fits_addR fr (f8.mono (Nat.div_le_self n r) (Nat.le_refl _))) (Nat.div_le_self _ _) (by omega)
    have HGE : Hid (s ≤ m) := hge
    have HLE : Hid (leftOf wr q1 = r) := leftOf_eq hq1.out
    clear hm hge H1' H2 HB2
    go_wp2_with fail
    refine (compare_f q2 q1 m r _ hq2.out hq1.out fm (fr.mono (Nat.le_refl _) (by omega))).mono ?_
    rintro e w3 ⟨⟨c, rfl, hc, hc1, hc2⟩, hb3⟩
    have Q1 : Hid (isN w3 q1 r) := isN_below hq1.out hb3
    have Q2 : Hid (isN w3 q2 m) := isN_below hq2.out hb3
    have HB3 : Hid (Below w.heap.size w w3) := hb.trans (hb3.mono hBs)
    clear hb3 hq1 hq2
    by_cases hlt : m < r
    · have ec : c = -1 := hc.out.trans (cmpI_lt hlt)
      subst ec
      have fm8 : fits m 8000 := fr.mono (Nat.le_of_lt hlt) (Nat.le_refl _)
      have hm0 : 0 < m := Nat.lt_of_lt_of_le hspos HGE.out
      have V3 : Hid (isN w3 (.slice ao zs.length cap) n) := isN_below HV.out HB3.out
      clear hc
      go_wp2_with fail
      refine (nearerRoot_any _ q2 n m _ V3.out Q2.out hm0 f8 fm8).mono ?_
      rintro e w4 ⟨⟨v4, rfl, h4⟩, hb4⟩
      have H4 : Hid (isN w4 v4 ((m + n / m) / 2)) := h4
      have Q4 : Hid (isN w4 q2 m) := isN_below Q2.out hb4
      have HB4 : Below w.heap.size w w4 := HB3.out.trans (hb4.mono HB3.out.size)
      have HMM : Hid (leftOf w4 q2 < leftOf wr q1) := by
        show _ < _
        rw [HLE.out, leftOf_eq Q4.out]; exact hlt
      clear h4 hb4 Q1 Q2 HB3 V3 hb HLE
      go_wp2
      go_roundw
      case rel => exact ⟨q2, v4, m, rfl, rfl, fm8, HGE, Q4, H4, HB4⟩
      case measure => exact HMM.out
    · have hge2 : r ≤ m := Nat.le_of_not_lt hlt
      have er : r = s := Dm.nearer_stop HS.out hr0 hsr.out (by rw [← HM.out]; exact hge2)
      have hcn : ¬ c < 0 := by
        rw [hc.out]; unfold cmpI; rw [if_neg hlt]; split <;> omega
      have hcd : decide (c < 0) = false := decide_eq_false hcn
      have ER : Hid (isN w3 q1 s) := by show isN _ _ _; rw [← er]; exact Q1.out
      clear hc Q1 Q2 hlt hge2 er
      go_wp2
      go_ret
      exact ⟨⟨q1, rfl, ER.out⟩, HB3.out⟩

end Go.Proofs.YtaggfbffdbompaaDoor
