/-
  Contracts of the program's whole numbers: multiplying.
-/
import Derived.Test.YtaggfbffdbompaaDoorImpl4
namespace Go.Proofs.YtaggfbffdbompaaDoor
set_option maxRecDepth 100000
set_option linter.unusedVariables false
set_option linter.unusedSimpArgs false
open Go.RowKit

set_option maxHeartbeats 1600000 in
theorem times_any (v u : Value) (n m : Nat) (w : World) (hv : isN w v n) (hu : isN w u m) (hL : n < 1000000000 ^ 10000) (hM : m < 1000000000 ^ 10000) :
    Calls Tryd.prog 48 #[v, u] w fun e w' => (∃ v', e = .returned v' ∧ isN w' v' (n * m)) ∧ Below w.heap.size w w' := by
  obtain ⟨i0, hi, hz0, hz1, hz2⟩ := info_parts infoU64
  obtain ⟨xs, hr, hn⟩ := hv
  obtain ⟨zs, hq, hm⟩ := hu
  have hlx := Lm.isNat_length xs n 10000 hn hL
  have hlz := Lm.isNat_length zs m 10000 hm hM
  have HN : Hid (Lm.isNat xs n) := hn
  have HM : Hid (Lm.isNat zs m) := hm
  obtain ⟨ax, cx, rfl, hax⟩ := rowN_open hr
  obtain ⟨az, cz, rfl, haz⟩ := rowN_open hq
  obtain ⟨L, hLL⟩ : ∃ L, L = xs.length + zs.length := ⟨_, rfl⟩
  have hL3 : L ≤ 20000 := by omega
  have HLL : Hid (L = xs.length + zs.length) := hLL
  clear hn hm hL hM hLL
  go_enter Tryd.func48, Tryd.ntmps48
  go_wp2_with (at_make; refine wpList_make_full w rfl _ _ 42 rfl w.heap.size 92 i0 (.int .u64 0) 1 Tryd.underlying42 hi hz0 hz1 .i64 .i64 _ _ L rfl rfl (by have := HLL.out; omega) (by have := HLL.out; omega) (by rw [hz2]; omega) (by unfold maxLen; omega) (Nat.le_refl _) ?_)
  intro w1 hown1 hgr1
  rw [toList_madeCells_one] at hown1
  have hb1 : Below w.heap.size w w1 := (Below.refl _ _).grown hgr1 (Nat.le_refl _) (by intro k hk; cases hk)
  have hr1 := rowN_below hr hb1
  have hq1 := rowN_below hq hb1
  have hc0 : w1.ownsRow w.heap.size 92 1 (.slice (some ⟨w.heap.size, 0, none⟩) L L) L (u64V (List.replicate L 0)) := by
    simpa [u64V] using hown1
  clear hgr1 hown1
  have hax' : (Value.slice ax xs.length cx).ownBlock ≠ some w.heap.size := by
    rcases rowN_shape hr with ⟨e, _⟩ | ⟨g2, cap2, e, hg2, _⟩
    · rw [e]; simp [Value.ownBlock]
    · rw [e]; simp [Value.ownBlock]; omega
  have haz' : (Value.slice az zs.length cz).ownBlock ≠ some w.heap.size := by
    rcases rowN_shape hq with ⟨e, _⟩ | ⟨g2, cap2, e, hg2, _⟩
    · rw [e]; simp [Value.ownBlock]
    · rw [e]; simp [Value.ownBlock]; omega
  have HAX : Hid ((Value.slice ax xs.length cx).ownBlock ≠ some w.heap.size) := hax'
  have HAZ : Hid ((Value.slice az zs.length cz).ownBlock ≠ some w.heap.size) := haz'
  clear hax' haz'
  go_wp2
  go_loopw [19] (fun k wr => ∃ (i : Nat) (P : List Nat), i ≤ xs.length ∧ k = .int .i64 i ∧ Hid (P.length = L) ∧ Hid (Lm.small P) ∧ Hid (Lm.lval P = Lm.lval (xs.take i) * Lm.lval zs) ∧ Hid (Lm.tail0 P (i + zs.length)) ∧
      wr.ownsRow w.heap.size 92 1 (.slice (some ⟨w.heap.size, 0, none⟩) L L) L (u64V P) ∧ Hid (rowN wr (.slice ax xs.length cx) xs) ∧ Hid (rowN wr (.slice az zs.length cz) zs) ∧ Below w.heap.size w wr)
    (fun k _ => xs.length - (intOf k).toNat)
  case atStart => exact ⟨0, List.replicate L 0, by omega, rfl, by show _ = _; simp, Lm.small_zeros L, by show Lm.lval _ = Lm.lval (List.take 0 _) * _; simp [Lm.lval_zeros, Lm.lval], Lm.tail0_zeros L _, hc0, hr1, hq1, hb1⟩
  case round =>
    obtain ⟨i, P, hi', rfl, hl, hs, hval, htl, ho, hrr, hqq, hb⟩ := hrel
    clear hc0 hr1 hq1 hb1
    have hBs := hb.size
    by_cases hlt : i < xs.length
    · obtain ⟨g, rfl, hg⟩ := hax i hlt
      have hcell := rowN_cell hrr.out rfl i hlt
      have hxi := HN.out.2.1 xs[i] (List.getElem_mem _)
      obtain ⟨x, hx⟩ : ∃ x, x = xs[i] := ⟨_, rfl⟩
      rw [← hx] at hcell hxi
      have HX : Hid (x = xs[i]) := hx
      clear hx
      obtain ⟨V, hV⟩ : ∃ V, V = Lm.lval (xs.take i) * Lm.lval zs := ⟨_, rfl⟩
      have HV : Hid (V = Lm.lval (xs.take i) * Lm.lval zs) := hV
      have hval2 : Hid (Lm.lval P + 1000000000 ^ (i + 0) * 0 = V + 1000000000 ^ i * (x * Lm.lval (zs.take 0))) := by
        show _ = _
        rw [hval.out, hV]; simp [Lm.lval]
      clear hV hval
      go_wp2
      go_loopw [8, 26] (fun u k wr => ∃ (j c : Nat) (P : List Nat), j ≤ zs.length ∧ k = .int .i64 j ∧ u = .int .u64 c ∧ c < 1000000000 ∧ Hid (P.length = L) ∧ Hid (Lm.small P) ∧ Hid (Lm.lval P + 1000000000 ^ (i + j) * c = V + 1000000000 ^ i * (x * Lm.lval (zs.take j))) ∧ Hid (Lm.tail0 P (i + zs.length)) ∧
          wr.ownsRow w.heap.size 92 1 (.slice (some ⟨w.heap.size, 0, none⟩) L L) L (u64V P) ∧ Hid (rowN wr (.slice (some ⟨g, 0, none⟩) xs.length cx) xs) ∧ Hid (rowN wr (.slice az zs.length cz) zs) ∧ Below w.heap.size w wr)
        (fun _ k _ => zs.length - (intOf k).toNat)
      case atStart => exact ⟨0, 0, P, by omega, rfl, rfl, by omega, hl, hs, hval2, htl, ho, hrr, hqq, hb⟩
      case round =>
        clear hl hs hval2 htl ho hrr hqq hb hcell hBs P
        obtain ⟨j, c, P, hj', rfl, rfl, hc, hl, hs, hval, htl, ho, hrr, hqq, hb⟩ := hrel
        have hBs := hb.size
        by_cases hjt : j < zs.length
        · obtain ⟨gz, rfl, hgz⟩ := haz j hjt
          have hcz := rowN_cell hqq.out rfl j hjt
          have hzi := HM.out.2.1 zs[j] (List.getElem_mem _)
          have hij : i + j < L := by have := HLL.out; omega
          have hpl : i + j < P.length := by rw [hl.out]; exact hij
          have hcp : wr.cell? ⟨w.heap.size, i + j, none⟩ = some (.int .u64 (P[i + j]'hpl : Nat)) := by
            have h1 := ho.cellAt (i + j) (by omega)
            rw [h1, u64V_get P (i + j) hpl]
          have hpi := hs.out (P[i + j]'hpl) (List.getElem_mem _)
          obtain ⟨z, hz⟩ : ∃ z, z = zs[j] := ⟨_, rfl⟩
          obtain ⟨p, hp⟩ : ∃ p, p = P[i + j]'hpl := ⟨_, rfl⟩
          rw [← hz] at hcz hzi
          rw [← hp] at hcp hpi
          obtain ⟨q, hqd⟩ : ∃ q, q = x * z := ⟨_, rfl⟩
          have hword := Lm.mul_word c p x z hc hpi hxi hzi
          rw [← hqd] at hword
          have hw : IntKind.u64.wrap ((x : Int) * (z : Int)) = (q : Int) := by
            rw [hqd, IntKind.wrap_u64, ← Int.natCast_mul, ← hqd]; omega
          obtain ⟨t, ht⟩ : ∃ t, t = c + (p + q) := ⟨_, rfl⟩
          have hstep := Lm.mul_step P zs i j c x V p z t hpl hjt hp hz (by rw [ht, hqd]) hval.out
          obtain ⟨d, hdd⟩ : ∃ d, d = t % 1000000000 := ⟨_, rfl⟩
          obtain ⟨c', hcc⟩ : ∃ c', c' = t / 1000000000 := ⟨_, rfl⟩
          rw [← hdd, ← hcc] at hstep
          have hd9 : d < 1000000000 := by omega
          have hc9 : c' < 1000000000 := by omega
          have HST : Hid _ := hstep
          have hst := ho.stored (i + j) (.int .u64 (d : Nat))
          rw [u64V_set] at hst
          have hst1 := hst.1
          have hfz := ho.frozenAt (i + j)
          have hrr2 : Hid (rowN (wr.setCell ⟨w.heap.size, i + j, none⟩ (.int .u64 (d : Nat))) (.slice (some ⟨g, 0, none⟩) xs.length cx) xs) := World.ownsRow.kept hrr.out hst.2 (.inr HAX.out)
          have hqq2 : Hid (rowN (wr.setCell ⟨w.heap.size, i + j, none⟩ (.int .u64 (d : Nat))) (.slice (some ⟨gz, 0, none⟩) zs.length cz) zs) := World.ownsRow.kept hqq.out hst.2 (.inr HAZ.out)
          have hb2 := hb.setCell (p := ⟨w.heap.size, i + j, none⟩) (Nat.le_refl _) (.int .u64 (d : Nat))
          have hs2 : Hid (Lm.small (P.set (i + j) d)) := Lm.small_set hs.out _ _ hd9
          have hl2 : Hid ((P.set (i + j) d).length = L) := by show _ = _; rw [List.length_set]; exact hl.out
          have ht2 : Hid (Lm.tail0 (P.set (i + j) d) (i + zs.length)) := Lm.tail0_set htl.out _ _ (by omega)
          have hdi : ((c : Int) + ((p : Int) + (q : Int))) % 1000000000 = (d : Int) := by omega
          have hci : ((c : Int) + ((p : Int) + (q : Int))) / 1000000000 = (c' : Int) := by omega
          have hq18 : q ≤ 999999998000000001 := by
            rw [hqd]; exact Nat.le_trans (Nat.mul_le_mul (show x ≤ 999999999 by omega) (show z ≤ 999999999 by omega)) (by decide)
          clear hst hstep hval hs hrr hqq hb ho hdd hcc hz hp hqd ht hword htl hl
          go_wp2
          go_roundw
          case rel => exact ⟨j + 1, c', P.set (i + j) d, by omega, by go_num, by (first | rw [hci] | rfl), hc9, hl2, hs2, HST, ht2, hst1, hrr2, hqq2, hb2⟩
          case measure => simp [intOf]; omega
        · obtain rfl : j = zs.length := by omega
          have hij : i + zs.length < L := by have := HLL.out; omega
          have hpl : i + zs.length < P.length := by rw [hl.out]; exact hij
          have hp0 : P[i + zs.length]'hpl = 0 := htl.out _ hpl (Nat.le_refl _)
          have hcp : wr.cell? ⟨w.heap.size, i + zs.length, none⟩ = some (.int .u64 (P[i + zs.length]'hpl : Nat)) := by
            have h1 := ho.cellAt (i + zs.length) (by omega)
            rw [h1, u64V_get P _ hpl]
          rw [hp0] at hcp
          have hst := ho.stored (i + zs.length) (.int .u64 (c : Nat))
          rw [u64V_set] at hst
          have hst1 := hst.1
          have hfz := ho.frozenAt (i + zs.length)
          have hrr2 : Hid (rowN (wr.setCell ⟨w.heap.size, i + zs.length, none⟩ (.int .u64 (c : Nat))) (.slice (some ⟨g, 0, none⟩) xs.length cx) xs) := World.ownsRow.kept hrr.out hst.2 (.inr HAX.out)
          have hqq2 : Hid (rowN (wr.setCell ⟨w.heap.size, i + zs.length, none⟩ (.int .u64 (c : Nat))) (.slice az zs.length cz) zs) := World.ownsRow.kept hqq.out hst.2 (.inr HAZ.out)
          have hb2 := hb.setCell (p := ⟨w.heap.size, i + zs.length, none⟩) (Nat.le_refl _) (.int .u64 (c : Nat))
          have hs2 : Hid (Lm.small (P.set (i + zs.length) c)) := Lm.small_set hs.out _ _ hc
          have hl2 : Hid ((P.set (i + zs.length) c).length = L) := by show _ = _; rw [List.length_set]; exact hl.out
          have ht2 : Hid (Lm.tail0 (P.set (i + zs.length) c) (i + 1 + zs.length)) := Lm.tail0_set (Lm.tail0_mono htl.out (by omega)) _ _ (by omega)
          have hv2 : Hid (Lm.lval (P.set (i + zs.length) c) = Lm.lval (xs.take (i + 1)) * Lm.lval zs) := by
            refine Lm.mul_round P xs zs i c hlt hpl hp0 ?_
            have h := hval.out
            rw [List.take_length, HV.out, HX.out] at h
            exact h
          clear hst hval hs hrr hqq hb ho htl hl hp0
          go_wp2
          go_roundw
          case rel => exact ⟨i + 1, P.set (i + zs.length) c, by omega, by go_num, hl2, hs2, hv2, ht2, hst1, hrr2, hqq2, hb2⟩
          case measure => simp [intOf]; omega
    · obtain rfl : i = xs.length := by omega
      have HE : Hid (Lm.lval P = n * m) := by
        show _ = _
        rw [hval.out, List.take_length, HN.out.1, HM.out.1]
      have hr2 : rowN wr (.slice (some ⟨w.heap.size, 0, none⟩) L L) P := by
        have := own_base ho (Nat.zero_le _)
        unfold rowN
        rw [hl.out]
        exact this
      have HR : Hid (rowN wr (.slice (some ⟨w.heap.size, 0, none⟩) L L) P) := hr2
      have hl2 : P.length ≤ 1000000 := by rw [hl.out]; omega
      clear hr2 ho hval hqq hrr htl hl
      go_wp2_with fail
      refine (trim_any _ P _ HR.out hs.out hl2).mono ?_
      rintro e w' ⟨⟨v', rfl, hv'⟩, rfl⟩
      rw [HE.out] at hv'
      have HV : Hid (isN w' v' (n * m)) := hv'
      clear hv' HR
      go_wp2
      go_ret
      exact ⟨⟨v', rfl, HV.out⟩, hb⟩

end Go.Proofs.YtaggfbffdbompaaDoor
