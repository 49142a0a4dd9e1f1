/-
  Contracts of the program's whole numbers: what is left when a lesser one is taken away.
-/
import Derived.Test.YtaggfbffdbompaaDoorImpl2
namespace Go.Proofs.YtaggfbffdbompaaDoor
set_option maxRecDepth 100000
open Go.RowKit

theorem u64V_one (xs : List Nat) : ∀ u ∈ u64V xs, u.oneCell' = true := by
  intro u hu
  simp only [u64V, List.mem_map] at hu
  obtain ⟨x, _, rfl⟩ := hu
  simp [Value.oneCell']

set_option maxHeartbeats 400000 in
theorem clone_any (v : Value) (xs : List Nat) (w : World) (hv : rowN w v xs) (hl : xs.length ≤ 1000000) :
    Calls Tryd.prog 72 #[v] w fun e w' => (∃ v', e = .returned v' ∧ w'.ownsRow w.heap.size 92 1 v' xs.length (u64V xs)) ∧ Below w.heap.size w w' := by
  obtain ⟨i0, hi, hz0, hz1, hz2⟩ := info_parts infoU64
  rcases rowN_shape hv with ⟨rfl, rfl⟩ | ⟨g, cap, rfl, hg, hc, hcm⟩
  · have hne := fun (wx : World) => Lib.run_eql_slice_nil (P := Tryd.prog) wx 42 92 none 0 0 0 0 Tryd.underlying42
    go_enter Tryd.func72, Tryd.ntmps72
    go_wp2
    go_ret
    exact ⟨⟨_, rfl, World.ownsRow_nil _ _ _ _⟩, Below.refl _ _⟩
  · have hne := fun (wx : World) => Lib.run_eql_slice_nil (P := Tryd.prog) wx 42 92 (some ⟨g, 0, none⟩) xs.length cap 0 0 Tryd.underlying42
    have hv2 : (w.alloc (.cells #[] 92)).ownsRow 0 92 1 (.slice (some ⟨g, 0, none⟩) xs.length cap) xs.length (u64V xs) := World.ownsRow.alloc hv _
    have hcells := hv2.cells (g := g) rfl
    have HC : Hid (∀ j u, (u64V xs)[j]? = some u → (w.alloc (.cells #[] 92)).cell? ((⟨g, 0, none⟩ : Addr).add j) = some u) := hcells
    clear hcells hv2
    go_enter Tryd.func72, Tryd.ntmps72
    go_wp2_with (at_builtin; refine wpList_append_own _ rfl _ _ 42 rfl w.heap.size 92 i0 (.int .u64 0) 1 8 Tryd.underlying42 hi hz0 hz1 hz2 rfl (by decide) (.slice (some ⟨w.heap.size, 0, none⟩) 0 0) 0 [] rfl (World.ownsRow_lit w #[] 0 (Nat.le_refl _) (Nat.zero_le _) rfl) ⟨g, 0, none⟩ xs.length cap (u64V xs) rfl (by rw [u64V_length]; omega) HC.out (u64V_one xs) (by unfold maxLen; omega) (by omega) (by simp) ?_)
    intro v' w1 hown' hgrow _
    have hb2 : Below w.heap.size w w1 := ((Below.refl _ w).alloc (Nat.le_refl _) _).grown hgrow (by simp) (by intro k hk; simp [Value.ownBlock] at hk; omega)
    clear hgrow
    go_wp2
    go_ret
    exact ⟨⟨v', rfl, hown'⟩, hb2⟩

/-- A round of taking away: the group of the one is x, of the other y with what is borrowed, what comes is d, what is borrowed then is b'. -/

theorem minus_step (xs zs ds : List Nat) (i b d b' : Nat) (hi : i < xs.length) (hl : ds.length = i) (h : Lm.lval ds + Lm.lval (zs.take i) = Lm.lval (xs.take i) + 1000000000 ^ i * b)
    (hd : d + (b + zs.getD i 0) = xs[i] + 1000000000 * b') :
    Lm.lval (ds ++ [d]) + Lm.lval (zs.take (i + 1)) = Lm.lval (xs.take (i + 1)) + 1000000000 ^ (i + 1) * b' := by
  have hz : Lm.lval (zs.take (i + 1)) = Lm.lval (zs.take i) + 1000000000 ^ i * zs.getD i 0 := by
    rcases Nat.lt_or_ge i zs.length with h1 | h1
    · rw [List.take_succ_eq_append_getElem h1, Lm.lval_snoc, List.length_take, Nat.min_eq_left (Nat.le_of_lt h1)]
      simp [List.getD, h1]
    · rw [List.take_of_length_le h1, List.take_of_length_le (by omega)]
      simp [List.getD, h1]
  rw [List.take_succ_eq_append_getElem hi, Lm.lval_snoc, Lm.lval_snoc, hl, hz, List.length_take, Nat.min_eq_left (Nat.le_of_lt hi), Nat.pow_succ]
  generalize zs.getD i 0 = y at *
  generalize xs[i] = x at *
  have e := congrArg (1000000000 ^ i * ·) hd
  simp only [Nat.mul_add] at e
  have e2 : 1000000000 ^ i * (1000000000 * b') = 1000000000 ^ i * 1000000000 * b' := by rw [Nat.mul_assoc]
  omega

theorem minus_end (xs zs ds : List Nat) (b : Nat) (hl : ds.length = xs.length) (hs : Lm.small ds) (hz : zs.length ≤ xs.length) (hle : Lm.lval zs ≤ Lm.lval xs)
    (h : Lm.lval ds + Lm.lval (zs.take xs.length) = Lm.lval (xs.take xs.length) + 1000000000 ^ xs.length * b) : Lm.lval ds = Lm.lval xs - Lm.lval zs := by
  rw [List.take_length, List.take_of_length_le hz] at h
  have h1 := Lm.lval_lt ds hs
  rw [hl] at h1
  have hb : b = 0 := by
    match b with
    | 0 => rfl
    | b + 1 =>
      rw [Nat.mul_add] at h
      omega
  subst hb
  omega

/-- A row of which one group is turned: what is done, and what is still as it was. -/

theorem part_set (ds xs : List Nat) (x d : Nat) : (ds ++ x :: xs).set ds.length d = (ds ++ [d]) ++ xs := by
  rw [List.set_append_right _ _ (Nat.le_refl _), Nat.sub_self, List.set_cons_zero]
  simp

/-- One store into a row of the call's own: what is owned, another row, what lies below. -/

theorem store_one {w wr : World} {B g n cap : Nat} {L : List Value} {q : Value} {zs : List Nat} (ho : wr.ownsRow B 92 1 (.slice (some ⟨g, 0, none⟩) n cap) n L) (hq : rowN wr q zs) (hne : q.ownBlock ≠ some g)
    (hb : Below B w wr) (hg : B ≤ g) (i : Nat) (u : Value) :
    (wr.setCell ⟨g, i, none⟩ u).ownsRow B 92 1 (.slice (some ⟨g, 0, none⟩) n cap) n (L.set i u) ∧ rowN (wr.setCell ⟨g, i, none⟩ u) q zs ∧ Below B w (wr.setCell ⟨g, i, none⟩ u) := by
  have h1 := ho.stored i u
  exact ⟨h1.1, World.ownsRow.kept hq h1.2 (.inr hne), hb.setCell (p := ⟨g, i, none⟩) hg u⟩

theorem store_two {w wr : World} {B g n cap : Nat} {L : List Value} {q : Value} {zs : List Nat} (ho : wr.ownsRow B 92 1 (.slice (some ⟨g, 0, none⟩) n cap) n L) (hq : rowN wr q zs) (hne : q.ownBlock ≠ some g)
    (hb : Below B w wr) (hg : B ≤ g) (i : Nat) (t u : Value) :
    ((wr.setCell ⟨g, i, none⟩ t).setCell ⟨g, i, none⟩ u).ownsRow B 92 1 (.slice (some ⟨g, 0, none⟩) n cap) n (L.set i u) ∧ rowN ((wr.setCell ⟨g, i, none⟩ t).setCell ⟨g, i, none⟩ u) q zs ∧ Below B w ((wr.setCell ⟨g, i, none⟩ t).setCell ⟨g, i, none⟩ u) := by
  obtain ⟨a, b, c⟩ := store_one ho hq hne hb hg i t
  obtain ⟨a', b', c'⟩ := store_one a b hne c hg i u
  rw [List.set_set] at a'
  exact ⟨a', b', c'⟩

set_option maxHeartbeats 1600000 in
theorem minus_at (v u : Value) (n m : Nat) (w : World) (hv : isN w v n) (hu : isN w u m) (hmn : m ≤ n) (hL : n < 1000000000 ^ 10000) :
    Calls Tryd.prog 47 #[v, u] w fun e w' => (∃ v', e = .returned v' ∧ isN w' v' (n - m) ∧ Hid (∀ g, v'.ownBlock = some g → w.heap.size ≤ g)) ∧ Below w.heap.size w w' := by
  obtain ⟨xs, hr, hn⟩ := hv
  obtain ⟨zs, hq, hm⟩ := hu
  have hlen := Lm.isNat_length xs n 10000 hn hL
  have hlen2 : zs.length ≤ xs.length := by
    rcases Nat.lt_or_ge xs.length zs.length with h | h
    · have := Lm.isNat_len_lt xs zs n m hn hm h; omega
    · exact h
  obtain ⟨ao, cap, rfl, hao⟩ := rowN_open hq
  have HN : Hid (Lm.isNat xs n) := hn
  have HM : Hid (Lm.isNat zs m) := hm
  have hlen3 : xs.length ≤ 1000000 := by omega
  clear hn hm hL
  go_enter Tryd.func47, Tryd.ntmps47
  go_wp2_with fail
  refine (clone_any v xs _ hr hlen3).mono ?_
  rintro e w1 ⟨⟨v', rfl, ho1⟩, hb1⟩
  have hq1 := rowN_below hq hb1
  have hq1b : ∀ (g2 cap2 : Nat), Value.slice ao zs.length cap = .slice (some ⟨g2, 0, none⟩) zs.length cap2 → g2 < w.heap.size := by
    intro g2 cap2 e
    rcases rowN_shape hq with ⟨e1, _⟩ | ⟨g3, cap3, e1, h3, _⟩
    · rw [e1] at e; cases e
    · rw [e1] at e; simp only [Value.slice.injEq, Option.some.injEq, Addr.mk.injEq] at e; omega
  have hq1h : Hid (∀ (g2 cap2 : Nat), Value.slice ao zs.length cap = .slice (some ⟨g2, 0, none⟩) zs.length cap2 → g2 < w.heap.size) := hq1b
  clear hr hq hq1b
  by_cases h0 : xs.length = 0
  · have hx : xs = [] := List.length_eq_zero_iff.1 h0
    subst hx
    have hn0 : n = 0 := HN.out.1.symm
    subst hn0
    rcases own_shape ho1 with ⟨rfl, _⟩ | ⟨g, cap', rfl, hg0, hg, hc, hcm⟩
    all_goals
      go_wp2
      refine wp_loop_rounds 1 ?_; rw [rounds_succ]
      have hrx := own_base ho1 (Nat.zero_le _)
      have HR : Hid (rowN w1 _ []) := hrx
      have HK := ho1.lt
      have HKK : Hid (∀ k, _ = some k → w.heap.size ≤ k ∧ k < w1.heap.size) := HK
      clear hrx ho1 HK
      go_wp2_with fail
      refine (trim_at _ [] _ HR.out Lm.small_nil (by simp)).mono ?_
      rintro e w' ⟨⟨v', rfl, hv', ho'⟩, rfl⟩
      go_wp2
      go_ret
      exact ⟨⟨v', rfl, by rw [Nat.zero_sub]; exact hv', fun g hg => (HKK.out g (ho'.out g hg)).1⟩, hb1⟩
  · obtain ⟨g, cap', rfl, hg0, hg, hc, hcm⟩ := own_some ho1 h0
    clear h0
    go_wp2
    go_loopw [6, 13] (fun bo k wr => ∃ (i b : Nat) (ds : List Nat), i ≤ xs.length ∧ k = .int .i64 i ∧ bo = .int .u64 b ∧ b ≤ 1 ∧ ds.length = i ∧ Hid (Lm.small ds) ∧ Hid (Lm.lval ds + Lm.lval (zs.take i) = Lm.lval (xs.take i) + 1000000000 ^ i * b) ∧
        wr.ownsRow w.heap.size 92 1 (.slice (some ⟨g, 0, none⟩) xs.length cap') xs.length (u64V (ds ++ xs.drop i)) ∧ Hid (rowN wr (.slice ao zs.length cap) zs) ∧ Below w.heap.size w wr)
      (fun _ k _ => xs.length - (intOf k).toNat)
    case atStart => exact ⟨0, 0, [], by omega, rfl, rfl, by omega, rfl, Lm.small_nil, by show Lm.lval [] + Lm.lval (List.take 0 _) = Lm.lval (List.take 0 _) + _; simp [Lm.lval], ho1, hq1, hb1⟩
    case round =>
      obtain ⟨i, b, ds, hi', rfl, rfl, hb, hl, hs, hval, ho, hqq, hbw⟩ := hrel
      clear ho1 hq1 hb1
      have hBs := hbw.size
      by_cases hlt : i < xs.length
      · have hcx : wr.cell? ⟨g, i, none⟩ = some (.int .u64 (xs[i] : Nat)) := by
          have h1 := ho.cellAt i (by omega)
          rw [h1, u64V_get _ i (by simp; omega)]
          simp [List.getElem_append_right, hl]
        have hx9 := HN.out.2.1 xs[i] (List.getElem_mem _)
        have hstep := minus_step xs zs ds i b
        obtain ⟨x, hx⟩ : ∃ x, x = xs[i] := ⟨_, rfl⟩
        obtain ⟨y, hy⟩ : ∃ y, y = zs.getD i 0 := ⟨_, rfl⟩
        have hfz := ho.frozenAt i
        have hpart : ∀ d, (u64V (ds ++ xs.drop i)).set i (.int .u64 (d : Nat)) = u64V ((ds ++ [d]) ++ xs.drop (i + 1)) := by
          intro d
          rw [u64V_set, List.drop_eq_getElem_cons hlt]
          have := part_set ds (xs.drop (i + 1)) xs[i] d
          rw [hl] at this
          rw [this]
        have HST : Hid (∀ d b', d + (b + y) = x + 1000000000 * b' → Lm.lval (ds ++ [d]) + Lm.lval (zs.take (i + 1)) = Lm.lval (xs.take (i + 1)) + 1000000000 ^ (i + 1) * b') := by
          intro d b' h
          exact hstep d b' hlt hl hval.out (by rw [← hx, ← hy]; exact h)
        have HP : Hid (∀ d, (u64V (ds ++ xs.drop i)).set i (.int .u64 (d : Nat)) = u64V ((ds ++ [d]) ++ xs.drop (i + 1))) := hpart
        rw [← hx] at hx9 hcx
        clear hstep hpart hval hx
        by_cases hz : i < zs.length
        · obtain ⟨g2, rfl, hg2⟩ := hao i hz
          have hcz := rowN_cell hqq.out rfl i hz
          have hy2 : y = zs[i] := by rw [hy]; simp [List.getD, hz]
          have hy9 : y < 1000000000 := by rw [hy2]; exact HM.out.2.1 _ (List.getElem_mem _)
          rw [← hy2] at hcz
          clear hy hy2
          have hne : (Value.slice (some ⟨g2, 0, none⟩) zs.length cap).ownBlock ≠ some g := by simp [Value.ownBlock]; omega
          have HNE : Hid ((Value.slice (some ⟨g2, 0, none⟩) zs.length cap).ownBlock ≠ some g) := hne
          clear hne
          by_cases hlt2 : x < b + y
          · obtain ⟨d, hd⟩ : ∃ d : Nat, d + (b + y) = x + 1000000000 * 1 := ⟨x + 1000000000 - (b + y), by omega⟩
            have hv2 : Hid (Lm.lval (ds ++ [d]) + Lm.lval (zs.take (i + 1)) = Lm.lval (xs.take (i + 1)) + 1000000000 ^ (i + 1) * 1) := HST.out d 1 hd
            have hs2 : Hid (Lm.small (ds ++ [d])) := Lm.small_append hs.out (Lm.small_one (by omega))
            have hst := store_two ho hqq.out HNE.out hbw hg0 i (.int .u64 ((x : Int) + 1000000000)) (.int .u64 (d : Nat))
            rw [HP.out d, show (d : Int) = (x : Int) + 1000000000 - ((b : Int) + (y : Int)) from by omega] at hst
            have hst1 := hst.1
            have hst2 : Hid (rowN ((wr.setCell ⟨g, i, none⟩ (.int .u64 ((x : Int) + 1000000000))).setCell ⟨g, i, none⟩ (.int .u64 ((x : Int) + 1000000000 - ((b : Int) + (y : Int))))) (.slice (some ⟨g2, 0, none⟩) zs.length cap) zs) := hst.2.1
            have hst3 := hst.2.2
            have hl2 : Hid ((ds ++ [d]).length = i + 1) := by show _ = _; simp [hl]
            clear hst hd HST HP hs ho hqq hbw
            go_wp2
            go_roundw
            case rel => exact ⟨i + 1, 1, ds ++ [d], by omega, by go_num, rfl, by omega, hl2.out, hs2, hv2, hst1, hst2, hst3⟩
            case measure => simp [intOf]; omega
          · obtain ⟨d, hd⟩ : ∃ d : Nat, d + (b + y) = x + 1000000000 * 0 := ⟨x - (b + y), by omega⟩
            have hv2 : Hid (Lm.lval (ds ++ [d]) + Lm.lval (zs.take (i + 1)) = Lm.lval (xs.take (i + 1)) + 1000000000 ^ (i + 1) * 0) := HST.out d 0 hd
            have hs2 : Hid (Lm.small (ds ++ [d])) := Lm.small_append hs.out (Lm.small_one (by omega))
            have hst := store_one ho hqq.out HNE.out hbw hg0 i (.int .u64 (d : Nat))
            rw [HP.out d, show (d : Int) = (x : Int) - ((b : Int) + (y : Int)) from by omega] at hst
            have hst1 := hst.1
            have hst2 : Hid (rowN (wr.setCell ⟨g, i, none⟩ (.int .u64 ((x : Int) - ((b : Int) + (y : Int))))) (.slice (some ⟨g2, 0, none⟩) zs.length cap) zs) := hst.2.1
            have hst3 := hst.2.2
            have hl2 : Hid ((ds ++ [d]).length = i + 1) := by show _ = _; simp [hl]
            clear hst hd HST HP hs ho hqq hbw
            go_wp2
            go_roundw
            case rel => exact ⟨i + 1, 0, ds ++ [d], by omega, by go_num, rfl, by omega, hl2.out, hs2, hv2, hst1, hst2, hst3⟩
            case measure => simp [intOf]; omega
        · have hy0 : y = 0 := by rw [hy]; simp [List.getD, hz]
          subst hy0
          have hne : (Value.slice ao zs.length cap).ownBlock ≠ some g := by
            rcases rowN_shape hqq.out with ⟨e, _⟩ | ⟨g2, cap2, e, _⟩
            · rw [e]; simp [Value.ownBlock]
            · rw [e]
              have hk := hq1h.out _ _ e
              simp [Value.ownBlock]; omega
          have HNE : Hid ((Value.slice ao zs.length cap).ownBlock ≠ some g) := hne
          clear hne hy
          by_cases hlt2 : x < b
          · obtain ⟨d, hd⟩ : ∃ d : Nat, d + (b + 0) = x + 1000000000 * 1 := ⟨x + 1000000000 - b, by omega⟩
            have hv2 : Hid (Lm.lval (ds ++ [d]) + Lm.lval (zs.take (i + 1)) = Lm.lval (xs.take (i + 1)) + 1000000000 ^ (i + 1) * 1) := HST.out d 1 hd
            have hs2 : Hid (Lm.small (ds ++ [d])) := Lm.small_append hs.out (Lm.small_one (by omega))
            have hst := store_two ho hqq.out HNE.out hbw hg0 i (.int .u64 ((x : Int) + 1000000000)) (.int .u64 (d : Nat))
            rw [HP.out d, show (d : Int) = (x : Int) + 1000000000 - (b : Int) from by omega] at hst
            have hst1 := hst.1
            have hst2 : Hid (rowN ((wr.setCell ⟨g, i, none⟩ (.int .u64 ((x : Int) + 1000000000))).setCell ⟨g, i, none⟩ (.int .u64 ((x : Int) + 1000000000 - (b : Int)))) (.slice ao zs.length cap) zs) := hst.2.1
            have hst3 := hst.2.2
            have hl2 : Hid ((ds ++ [d]).length = i + 1) := by show _ = _; simp [hl]
            clear hst hd HST HP hs ho hqq hbw
            go_wp2
            go_roundw
            case rel => exact ⟨i + 1, 1, ds ++ [d], by omega, by go_num, rfl, by omega, hl2.out, hs2, hv2, hst1, hst2, hst3⟩
            case measure => simp [intOf]; omega
          · obtain ⟨d, hd⟩ : ∃ d : Nat, d + (b + 0) = x + 1000000000 * 0 := ⟨x - b, by omega⟩
            have hv2 : Hid (Lm.lval (ds ++ [d]) + Lm.lval (zs.take (i + 1)) = Lm.lval (xs.take (i + 1)) + 1000000000 ^ (i + 1) * 0) := HST.out d 0 hd
            have hs2 : Hid (Lm.small (ds ++ [d])) := Lm.small_append hs.out (Lm.small_one (by omega))
            have hst := store_one ho hqq.out HNE.out hbw hg0 i (.int .u64 (d : Nat))
            rw [HP.out d, show (d : Int) = (x : Int) - (b : Int) from by omega] at hst
            have hst1 := hst.1
            have hst2 : Hid (rowN (wr.setCell ⟨g, i, none⟩ (.int .u64 ((x : Int) - (b : Int)))) (.slice ao zs.length cap) zs) := hst.2.1
            have hst3 := hst.2.2
            have hl2 : Hid ((ds ++ [d]).length = i + 1) := by show _ = _; simp [hl]
            clear hst hd HST HP hs ho hqq hbw
            go_wp2
            go_roundw
            case rel => exact ⟨i + 1, 0, ds ++ [d], by omega, by go_num, rfl, by omega, hl2.out, hs2, hv2, hst1, hst2, hst3⟩
            case measure => simp [intOf]; omega
      · obtain rfl : i = xs.length := by omega
        have hend := minus_end xs zs ds b hl hs.out hlen2 (by rw [HN.out.1, HM.out.1]; exact hmn) hval.out
        rw [HN.out.1, HM.out.1] at hend
        have HE : Hid (Lm.lval ds = n - m) := hend
        rw [List.drop_length, List.append_nil] at ho
        have hr2 : rowN wr (.slice (some ⟨g, 0, none⟩) xs.length cap') ds := by
          have := own_base ho (Nat.zero_le _)
          unfold rowN
          rw [hl]
          exact this
        have HR : Hid (rowN wr (.slice (some ⟨g, 0, none⟩) xs.length cap') ds) := hr2
        have hl2 : ds.length ≤ 1000000 := by omega
        clear hend hr2 ho hval hqq
        go_wp2_with fail
        refine (trim_at _ ds _ HR.out hs.out hl2).mono ?_
        rintro e w' ⟨⟨v', rfl, hv', ho'⟩, rfl⟩
        rw [HE.out] at hv'
        have HV : Hid (isN w' v' (n - m)) := hv'
        clear hv' HR
        go_wp2
        go_ret
        exact ⟨⟨v', rfl, HV.out, fun g' hg' => by have h := ho'.out g' hg'; simp [Value.ownBlock] at h; omega⟩, hbw⟩

theorem minus_any (v u : Value) (n m : Nat) (w : World) (hv : isN w v n) (hu : isN w u m) (hmn : m ≤ n) (hL : n < 1000000000 ^ 10000) :
    Calls Tryd.prog 47 #[v, u] w fun e w' => (∃ v', e = .returned v' ∧ isN w' v' (n - m)) ∧ Below w.heap.size w w' :=
  (minus_at v u n m w hv hu hmn hL).mono fun _ _ h => by obtain ⟨⟨v', h1, h2, _⟩, h3⟩ := h; exact ⟨⟨v', h1, h2⟩, h3⟩

end Go.Proofs.YtaggfbffdbompaaDoor
