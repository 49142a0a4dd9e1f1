/-
  Contracts of the program's whole numbers: adding, multiplying.
-/
import Derived.Test.YtaggfbffdbompaaDoorImpl3
import Derived.Test.YtaggfbffdbompaaDoorMathT
namespace Go.Proofs.YtaggfbffdbompaaDoor
set_option maxRecDepth 100000
set_option linter.unusedVariables false
set_option linter.unusedSimpArgs false
open Go.RowKit

theorem rowN_cellD {w : World} {ao : Option Addr} {cap n i : Nat} {xs : List Nat} (h : rowN w (.slice ao n cap) xs) (hn : n = xs.length) (hi : i < xs.length) :
    ∃ g, ao = some ⟨g, 0, none⟩ ∧ w.cell? ⟨g, i, none⟩ = some (.int .u64 (xs.getD i 0 : Nat)) := by
  rcases rowN_shape h with ⟨e, rfl⟩ | ⟨g, cap', e, hg, _⟩
  · simp at hi
  · cases e
    refine ⟨g, rfl, ?_⟩
    have h1 := rowN_cell h rfl i hi
    have e2 : xs.getD i 0 = xs[i] := by simp [List.getD, hi]
    rw [e2]; exact h1

set_option maxHeartbeats 1600000 in
theorem plus_any (v u : Value) (n m : Nat) (w : World) (hv : isN w v n) (hu : isN w u m) (hL : n < 1000000000 ^ 10000) (hM : m < 1000000000 ^ 10000) :
    Calls Tryd.prog 54 #[v, u] w fun e w' => (∃ v', e = .returned v' ∧ isN w' v' (n + m)) ∧ Below w.heap.size w w' := by
  obtain ⟨i0, hi, hz0, hz1, hz2⟩ := info_parts infoU64
  obtain ⟨xs, hr, hn⟩ := hv
  obtain ⟨zs, hq, hm⟩ := hu
  have hlx := Lm.isNat_length xs n 10000 hn hL
  have hlz := Lm.isNat_length zs m 10000 hm hM
  have HN : Hid (Lm.isNat xs n) := hn
  have HM : Hid (Lm.isNat zs m) := hm
  obtain ⟨ax, cx, rfl, hax⟩ := rowN_open hr
  obtain ⟨az, cz, rfl, haz⟩ := rowN_open hq
  obtain ⟨L, hLL⟩ : ∃ L, L = max xs.length zs.length + 1 := ⟨_, rfl⟩
  have hL1 : xs.length < L := by omega
  have hL2 : zs.length < L := by omega
  have hL3 : L ≤ 10001 := by omega
  have HLL : Hid (L = max xs.length zs.length + 1) := hLL
  clear hn hm hL hM hLL
  go_enter Tryd.func54, Tryd.ntmps54
  go_wp2_with (at_make; refine wpList_make_full w rfl _ _ 42 rfl w.heap.size 92 i0 (.int .u64 0) 1 Tryd.underlying42 hi hz0 hz1 .i64 .i64 _ _ L rfl rfl (by have := HLL.out; omega) (by have := HLL.out; omega) (by rw [hz2]; omega) (by unfold maxLen; omega) (Nat.le_refl _) ?_)
  all_goals
    intro w1 hown1 hgr1
    rw [toList_madeCells_one] at hown1
    have hb1 : Below w.heap.size w w1 := (Below.refl _ _).grown hgr1 (Nat.le_refl _) (by intro k hk; cases hk)
    have hr1 := rowN_below hr hb1
    have hq1 := rowN_below hq hb1
    have hc0 : w1.ownsRow w.heap.size 92 1 (.slice (some ⟨w.heap.size, 0, none⟩) L L) L (u64V ([] ++ List.replicate L 0)) := by
      simpa [u64V] using hown1
    clear hgr1 hown1
    go_wp2
    go_loopw [6, 17] (fun u k wr => ∃ (i c : Nat) (ys : List Nat), i ≤ L ∧ k = .int .i64 i ∧ u = .int .u64 c ∧ c ≤ 1 ∧ ys.length = i ∧ Hid (Lm.small ys) ∧ Hid (Lm.lval ys + 1000000000 ^ i * c = Lm.lval (xs.take i) + Lm.lval (zs.take i)) ∧
        wr.ownsRow w.heap.size 92 1 (.slice (some ⟨w.heap.size, 0, none⟩) L L) L (u64V (ys ++ List.replicate (L - i) 0)) ∧ Hid (rowN wr (.slice ax xs.length cx) xs) ∧ Hid (rowN wr (.slice az zs.length cz) zs) ∧ Below w.heap.size w wr)
      (fun _ k _ => L - (intOf k).toNat)
    case atStart => exact ⟨0, 0, [], by omega, rfl, rfl, by omega, rfl, Lm.small_nil, by show Lm.lval [] + _ = Lm.lval (List.take 0 _) + Lm.lval (List.take 0 _); simp [Lm.lval], hc0, hr1, hq1, hb1⟩
    case round =>
      obtain ⟨i, c, ys, hi', rfl, rfl, hc, hl, hs, hval, ho, hrr, hqq, hb⟩ := hrel
      clear hc0 hr1 hq1 hb1
      have hBs := hb.size
      by_cases hlt : i < L
      · obtain ⟨x, hx⟩ : ∃ x, x = xs.getD i 0 := ⟨_, rfl⟩
        obtain ⟨z, hz⟩ : ∃ z, z = zs.getD i 0 := ⟨_, rfl⟩
        have hx9 : x < 1000000000 := by
          rw [hx]
          rcases Nat.lt_or_ge i xs.length with h | h
          · have e : xs.getD i 0 = xs[i] := by simp [List.getD, h]
            rw [e]; exact HN.out.2.1 _ (List.getElem_mem _)
          · have e : xs.getD i 0 = 0 := by simp [List.getD, h]
            rw [e]; omega
        have hz9 : z < 1000000000 := by
          rw [hz]
          rcases Nat.lt_or_ge i zs.length with h | h
          · have e : zs.getD i 0 = zs[i] := by simp [List.getD, h]
            rw [e]; exact HM.out.2.1 _ (List.getElem_mem _)
          · have e : zs.getD i 0 = 0 := by simp [List.getD, h]
            rw [e]; omega
        have hstep := Lm.plus_step xs zs ys i c x z hl hx hz hval.out
        obtain ⟨d, hdd⟩ : ∃ d, d = (c + x + z) % 1000000000 := ⟨_, rfl⟩
        obtain ⟨c', hcc⟩ : ∃ c', c' = (c + x + z) / 1000000000 := ⟨_, rfl⟩
        rw [← hdd, ← hcc] at hstep
        have hd9 : d < 1000000000 := by omega
        have hc1 : c' ≤ 1 := by omega
        have HST : Hid (Lm.lval (ys ++ [d]) + 1000000000 ^ (i + 1) * c' = Lm.lval (xs.take (i + 1)) + Lm.lval (zs.take (i + 1))) := hstep
        have hst := ho.stored i (.int .u64 (d : Nat))
        have e1 : L - i = (L - (i + 1)) + 1 := by omega
        rw [u64V_set, e1, ← hl, fill_set, hl] at hst
        have hst1 := hst.1
        have hcw : ∃ u, wr.cell? ⟨w.heap.size, i, none⟩ = some u := by
          have := ho.cellAt i (by omega)
          have h1 := ho.1
          rw [this]
          exact ⟨_, List.getElem?_eq_getElem (by omega)⟩
        obtain ⟨u, hcw⟩ := hcw
        have hfz := ho.frozenAt i
        have hax' : (Value.slice ax xs.length cx).ownBlock ≠ some w.heap.size := by
          rcases rowN_shape hr with ⟨e, _⟩ | ⟨g2, cap2, e, hg2, _⟩
          · rw [e]; simp [Value.ownBlock]
          · rw [e]; simp [Value.ownBlock]; omega
        have haz' : (Value.slice az zs.length cz).ownBlock ≠ some w.heap.size := by
          rcases rowN_shape hq with ⟨e, _⟩ | ⟨g2, cap2, e, hg2, _⟩
          · rw [e]; simp [Value.ownBlock]
          · rw [e]; simp [Value.ownBlock]; omega
        have hrr2 : Hid (rowN (wr.setCell ⟨w.heap.size, i, none⟩ (.int .u64 (d : Nat))) (.slice ax xs.length cx) xs) := World.ownsRow.kept hrr.out hst.2 (.inr hax')
        have hqq2 : Hid (rowN (wr.setCell ⟨w.heap.size, i, none⟩ (.int .u64 (d : Nat))) (.slice az zs.length cz) zs) := World.ownsRow.kept hqq.out hst.2 (.inr haz')
        have hb2 := hb.setCell (p := ⟨w.heap.size, i, none⟩) (Nat.le_refl _) (.int .u64 (d : Nat))
        have hs2 : Hid (Lm.small (ys ++ [d])) := Lm.small_append hs.out (Lm.small_one hd9)
        have hl2 : Hid ((ys ++ [d]).length = i + 1) := by show _ = _; simp [hl]
        have hcellx : i < xs.length → ∃ g, ax = some ⟨g, 0, none⟩ ∧ wr.cell? ⟨g, i, none⟩ = some (.int .u64 (x : Nat)) := by
          intro h; rw [hx]; exact rowN_cellD hrr.out rfl h
        have hcellz : i < zs.length → ∃ g, az = some ⟨g, 0, none⟩ ∧ wr.cell? ⟨g, i, none⟩ = some (.int .u64 (z : Nat)) := by
          intro h; rw [hz]; exact rowN_cellD hqq.out rfl h
        have hx0 : ¬ i < xs.length → x = 0 := by intro h; rw [hx]; simp [List.getD, h]
        have hz0' : ¬ i < zs.length → z = 0 := by intro h; rw [hz]; simp [List.getD, h]
        have HCX : Hid _ := hcellx
        have HCZ : Hid _ := hcellz
        have HX0 : Hid _ := hx0
        have HZ0 : Hid _ := hz0'
        have hdi : ((c : Int) + x + z) % 1000000000 = (d : Int) := by omega
        have hci : ((c : Int) + x + z) / 1000000000 = (c' : Int) := by omega
        clear hst hstep hval hs hrr hqq hb e1 ho hax' haz' hdd hcc hcellx hcellz hx0 hz0' hx hz
        by_cases h1 : i < xs.length
        · obtain ⟨gx, rfl, hgx⟩ := HCX.out h1
          by_cases h2 : i < zs.length
          · obtain ⟨gz, rfl, hgz⟩ := HCZ.out h2
            go_wp2
            go_roundw
            case rel => exact ⟨i + 1, c', ys ++ [d], by omega, by go_num, by (first | rw [hci] | rfl), hc1, hl2.out, hs2, HST, hst1, hrr2, hqq2, hb2⟩
            case measure => simp [intOf]; omega
          · obtain rfl := HZ0.out h2
            first
              | (exfalso; omega)
              | (rw [Int.natCast_zero, Int.add_zero] at hdi hci
                 go_wp2
                 go_roundw
                 case rel => exact ⟨i + 1, c', ys ++ [d], by omega, by go_num, by (first | rw [hci] | rfl), hc1, hl2.out, hs2, HST, hst1, hrr2, hqq2, hb2⟩
                 case measure => simp [intOf]; omega)
        · obtain rfl := HX0.out h1
          rw [Int.natCast_zero, Int.add_zero] at hdi hci
          by_cases h2 : i < zs.length
          · obtain ⟨gz, rfl, hgz⟩ := HCZ.out h2
            first
              | (exfalso; omega)
              | (go_wp2
                 go_roundw
                 case rel => exact ⟨i + 1, c', ys ++ [d], by omega, by go_num, by (first | rw [hci] | rfl), hc1, hl2.out, hs2, HST, hst1, hrr2, hqq2, hb2⟩
                 case measure => simp [intOf]; omega)
          · obtain rfl := HZ0.out h2
            rw [Int.natCast_zero, Int.add_zero] at hdi hci
            go_wp2
            go_roundw
            case rel => exact ⟨i + 1, c', ys ++ [d], by omega, by go_num, by (first | rw [hci] | rfl), hc1, hl2.out, hs2, HST, hst1, hrr2, hqq2, hb2⟩
            case measure => simp [intOf]; omega
      · obtain rfl : i = L := by omega
        have hend := Lm.plus_end xs zs ys i c HN.out.2.1 HM.out.2.1 hl hL1 hL2 hval.out
        rw [HN.out.1, HM.out.1] at hend
        have HE : Hid (Lm.lval ys = n + m) := hend
        rw [Nat.sub_self, List.replicate_zero, List.append_nil] at ho
        have hr2 : rowN wr (.slice (some ⟨w.heap.size, 0, none⟩) i i) ys := by
          have := own_base ho (Nat.zero_le _)
          unfold rowN
          rw [hl]
          exact this
        have HR : Hid (rowN wr (.slice (some ⟨w.heap.size, 0, none⟩) i i) ys) := hr2
        have hl2 : ys.length ≤ 1000000 := by omega
        clear hend hr2 ho hval hqq hrr
        go_wp2_with fail
        refine (trim_any _ ys _ HR.out hs.out hl2).mono ?_
        rintro e w' ⟨⟨v', rfl, hv'⟩, rfl⟩
        rw [HE.out] at hv'
        have HV : Hid (isN w' v' (n + m)) := hv'
        clear hv' HR
        go_wp2
        go_ret
        exact ⟨⟨v', rfl, HV.out⟩, hb⟩

end Go.Proofs.YtaggfbffdbompaaDoor
