/-
  The contract of dividing once: a digit of the quotient, and what is left.
-/
import Derived.Test.YtaggfbffdbompaaDoorCmp
namespace Go.Proofs.YtaggfbffdbompaaDoor
set_option maxRecDepth 100000
set_option linter.unusedVariables false
set_option linter.unusedSimpArgs false
open Go.RowKit

/-- n has at most L groups. -/
structure fits (n L : Nat) : Prop where
  out : n < 1000000000 ^ L

theorem fits.mono {n m L L' : Nat} (h : fits n L) (hm : m ≤ n) (hL : L ≤ L') : fits m L' :=
  ⟨Nat.lt_of_le_of_lt hm (Nat.lt_of_lt_of_le h.out (Nat.pow_le_pow_right (by omega) hL))⟩

theorem fits.mul {n t L : Nat} (h : fits n L) (ht : t ≤ 1000000000) : fits (n * t) (L + 1) := by
  refine ⟨?_⟩
  rw [Nat.pow_succ]
  rcases Nat.eq_zero_or_pos t with h0 | h0
  · subst h0; rw [Nat.mul_zero]; exact Nat.mul_pos (Nat.pow_pos (by omega)) (by omega)
  · exact Nat.lt_of_lt_of_le (Nat.mul_lt_mul_of_pos_right h.out h0) (Nat.mul_le_mul_left _ ht)

theorem lval_top (xs : List Nat) (h : Lm.small xs) (t : Nat) (ht : t ≤ xs.length) : Lm.lval xs / 1000000000 ^ t = Lm.lval (xs.drop t) := by
  rw [Lm.lval_take_drop xs t ht, Nat.add_comm, Nat.mul_add_div (Nat.pow_pos (by omega))]
  have := Lm.lval_lt (xs.take t) (Lm.small_take h t)
  rw [List.length_take, Nat.min_eq_left ht] at this
  rw [Nat.div_eq_of_lt this, Nat.add_zero]

theorem guess_ge (x y t h yt : Nat) (hh : x / 1000000000 ^ t = h) (hy : y / 1000000000 ^ t = yt) (hp : 0 < yt) : x / y ≤ h / yt := by
  have hy0 : 0 < y := by
    rcases Nat.eq_zero_or_pos y with h0 | h0
    · rw [h0, Nat.zero_div] at hy; omega
    · exact h0
  rw [Nat.le_div_iff_mul_le hp, ← hh, Nat.le_div_iff_mul_le (Nat.pow_pos (by omega)), ← hy, Nat.mul_assoc]
  exact Nat.le_trans (Nat.mul_le_mul_left _ (Nat.div_mul_le_self _ _)) (Nat.div_mul_le_self _ _)

theorem guess_end (x y g : Nat) (h1 : x / y ≤ g) (h2 : y * g ≤ x) (hy : 0 < y) : g = x / y ∧ x - y * g = x % y := by
  have h3 : g ≤ x / y := (Nat.le_div_iff_mul_le hy).2 (by rw [Nat.mul_comm]; exact h2)
  have h4 : g = x / y := by omega
  have h5 := Nat.div_add_mod x y
  rw [← h4] at h5
  exact ⟨h4, by omega⟩

theorem compare_f (v u : Value) (n m : Nat) (w : World) (hv : isN w v n) (hu : isN w u m) (hL : fits n 10000) (hM : fits m 10000) :
    Calls Tryd.prog 55 #[v, u] w fun e w' => (∃ c : Int, e = .returned (.int .i64 c) ∧ Hid (c = cmpI n m) ∧ -1 ≤ c ∧ c ≤ 1) ∧ Below w.heap.size w w' :=
  compare_any v u n m w hv hu hL.out hM.out

theorem minus_f (v u : Value) (n m : Nat) (w : World) (hv : isN w v n) (hu : isN w u m) (hmn : m ≤ n) (hL : fits n 10000) :
    Calls Tryd.prog 47 #[v, u] w fun e w' => (∃ v', e = .returned v' ∧ isN w' v' (n - m)) ∧ Below w.heap.size w w' :=
  minus_any v u n m w hv hu hmn hL.out

theorem minus_g (v u : Value) (n m : Nat) (w : World) (hv : isN w v n) (hu : isN w u m) (hmn : m ≤ n) (hL : fits n 10000) :
    Calls Tryd.prog 47 #[v, u] w fun e w' => (∃ v', e = .returned v' ∧ isN w' v' (n - m) ∧ Hid (∀ g, v'.ownBlock = some g → w.heap.size ≤ g)) ∧ Below w.heap.size w w' :=
  minus_at v u n m w hv hu hmn hL.out

theorem divideWord_f (v : Value) (n y : Nat) (w : World) (hv : isN w v n) (hy0 : 0 < y) (hy : y ≤ 1000000000) (hL : fits n 10000) :
    Calls Tryd.prog 78 #[v, .int .u64 y] w fun e w' => (∃ (v' : Value) (r : Nat), e = .returned (.tuple #[v', .int .u64 r]) ∧ Hid (r = n % y) ∧ isN w' v' (n / y)) ∧ Below w.heap.size w w' :=
  divideWord_any v n y w hv hy0 hy hL.out

theorem timesPlus_i (v : Value) (n : Nat) (t m : Int) (w : World) (hv : isN w v n) (h0 : 0 ≤ t) (ht : t < 1000000000) (h1 : 0 ≤ m) (hm : m < 1000000000) (hL : fits n 10000) :
    Calls Tryd.prog 79 #[v, .int .u64 t, .int .u64 m] w fun e w' => (∃ v', e = .returned v' ∧ isN w' v' (n * t.toNat + m.toNat)) ∧ Below w.heap.size w w' := by
  have := timesPlus_any v n t.toNat m.toNat w hv (by omega) (by omega) hL.out
  rwa [Int.toNat_of_nonneg h0, Int.toNat_of_nonneg h1] at this

set_option maxHeartbeats 4000000 in
theorem divideOnce_any (v u : Value) (x y : Nat) (w : World) (hv : isN w v x) (hu : isN w u y) (hy : 0 < y) (hxy : x < y * 1000000000) (hL : fits y 9000) :
    Calls Tryd.prog 81 #[v, u] w fun e w' => (∃ (q : Nat) (v' : Value), e = .returned (.tuple #[.int .u64 q, v']) ∧ Hid (q = x / y) ∧ isN w' v' (x % y) ∧ Hid (∀ g, v'.ownBlock = some g → v.ownBlock = some g ∨ w.heap.size ≤ g)) ∧ Below w.heap.size w w' := by
  obtain ⟨xs, hr, hn⟩ := hv
  obtain ⟨zs, hq, hm⟩ := hu
  have hlen2 := Lm.isNat_length zs y 9000 hm hL.out
  have hzne := Lm.isNat_pos_ne zs y hm (by omega)
  obtain ⟨ao, cap, rfl, hao⟩ := rowN_open hr
  obtain ⟨g2, cap2, rfl, hg2, hc2, hcm2⟩ := rowN_some hq hzne
  obtain ⟨t, ht⟩ : ∃ t, zs.length = t + 1 := ⟨zs.length - 1, by have := List.length_pos_iff.2 hzne; omega⟩
  have hHigh := Lm.isNat_high zs y hm
  have hlenx : xs.length ≤ t + 2 := Lm.isNat_length xs x (t + 2) hn (by
    rw [ht] at hHigh
    rw [Nat.pow_succ]
    exact Nat.lt_of_lt_of_le hxy (Nat.mul_le_mul_right _ (Nat.le_of_lt hHigh)))
  by_cases h1 : xs.length ≤ t
  · have hlt := Lm.isNat_len_lt xs zs x y hn hm (by omega)
    have hx0 : x / y = 0 := Nat.div_eq_of_lt hlt
    have hx1 : x % y = x := Nat.mod_eq_of_lt hlt
    have HX : Hid (0 = x / y) := hx0.symm
    have HR : Hid (isN w (.slice ao xs.length cap) (x % y)) := ⟨xs, hr, by rw [hx1]; exact hn⟩
    have hcond : (xs.length : Int) ≤ (zs.length : Int) - 1 := by omega
    clear hn hm hHigh hlt hx0 hx1 hr hq hao ht
    go_enter Tryd.func81, Tryd.ntmps81
    go_wp2
    go_ret2
    exact ⟨⟨0, _, rfl, HX, HR.out, fun _ h => .inl h⟩, Below.refl _ _⟩
  · have htz : t < zs.length := by omega
    have htx : t < xs.length := by omega
    obtain ⟨g, rfl, hg⟩ := hao t htx
    have cz := rowN_cell hq rfl t htz
    have cx := rowN_cell hr rfl t htx
    have hzt : y / 1000000000 ^ t = zs[t] := by
      rw [← hm.1, lval_top zs hm.2.1 t (by omega), List.drop_eq_getElem_cons htz, List.drop_eq_nil_of_le (by omega)]
      simp [Lm.lval]
    have hztp : 0 < zs[t] := by
      have h3 := hm.2.2
      rw [List.getLast?_eq_getElem?, List.getElem?_eq_getElem (by omega)] at h3
      simp only [ht, Nat.add_sub_cancel] at h3
      have : zs[t] ≠ 0 := fun e => h3 (by rw [e])
      omega
    have hzs9 := hm.2.1 zs[t] (List.getElem_mem _)
    have hxs9 := hn.2.1 xs[t] (List.getElem_mem _)
    obtain ⟨zt, hz⟩ : ∃ zt, zt = zs[t] := ⟨_, rfl⟩
    obtain ⟨xt, hx⟩ : ∃ xt, xt = xs[t] := ⟨_, rfl⟩
    rw [← hz] at cz hzt hztp hzs9
    rw [← hx] at cx hxs9
    have hiv : isN w (.slice (some ⟨g, 0, none⟩) xs.length cap) x := ⟨xs, hr, hn⟩
    have hiu : isN w (.slice (some ⟨g2, 0, none⟩) zs.length cap2) y := ⟨zs, hq, hm⟩
    have HIV : Hid (isN w (.slice (some ⟨g, 0, none⟩) xs.length cap) x) := hiv
    have HIU : Hid (isN w (.slice (some ⟨g2, 0, none⟩) zs.length cap2) y) := hiu
    have htop : (zs.length : Int) - 1 = (t : Int) := by omega
    have hnle : (t : Int) < (xs.length : Int) := by omega
    have FY : fits y 9001 := hL.mono (Nat.le_refl _) (by omega)
    have FX : fits x 9001 := (hL.mul (t := 1000000000) (Nat.le_refl _)).mono (Nat.le_of_lt hxy) (by omega)
    have HQ : Hid (x / y < 1000000000) := Nat.div_lt_of_lt_mul hxy
    by_cases h2 : xs.length = t + 2
    · have cx2 := rowN_cell hr rfl (t + 1) (by omega)
      have hx29 := hn.2.1 (xs[t + 1]'(by omega)) (List.getElem_mem _)
      have hh : x / 1000000000 ^ t = xt + xs[t + 1]'(by omega) * 1000000000 := by
        rw [← hn.1, lval_top xs hn.2.1 t (by omega), List.drop_eq_getElem_cons htx, List.drop_eq_getElem_cons (i := t + 1) (by omega), List.drop_eq_nil_of_le (by omega)]
        simp only [Lm.lval, ← hx]; omega
      obtain ⟨xu, hxu⟩ : ∃ xu, xu = xs[t + 1]'(by omega) := ⟨_, rfl⟩
      rw [← hxu] at cx2 hx29 hh
      obtain ⟨G0, hG0⟩ : ∃ G0, G0 = (xt + xu * 1000000000) / zt := ⟨_, rfl⟩
      have hHG : x / y ≤ G0 := by rw [hG0]; exact guess_ge x y t _ _ hh hzt hztp
      have hdiv : ((xt : Int) + (xu : Int) * 1000000000) / (zt : Int) = (G0 : Int) := by rw [hG0]; simp
      have hlen : (t : Int) + 1 < (xs.length : Int) := by omega
      clear hn hm hHigh hr hq hh hzt hx hz hxu hao hiv hiu hzne h2 ht hG0 h1
      by_cases hmin : G0 ≤ 999999999
      · have HG : Hid (x / y ≤ G0) := hHG
        have hmi : (G0 : Int) ≤ 999999999 := by omega
        clear hHG
        go_enter Tryd.func81, Tryd.ntmps81
        go_wp2_with fail
        refine (timesPlus_i _ y (G0 : Int) 0 _ HIU.out (by omega) (by omega) (by omega) (by omega) (FY.mono (Nat.le_refl _) (by omega))).mono ?_
        rintro e w1 ⟨⟨v1, rfl, hv1⟩, hb1⟩
        have HV1 : Hid (isN w1 v1 (y * G0)) := by
          have e : y * ((G0 : Int) : Int).toNat + (0 : Int).toNat = y * G0 := by simp
          show isN w1 v1 (y * G0)
          rw [← e]; exact hv1
        clear hv1
        go_wp2
        go_loopw [8, 9] (fun gs ps wr => ∃ (G : Nat) (p : Value), p = ps ∧ gs = .int .u64 G ∧ G ≤ 999999999 ∧ Hid (x / y ≤ G) ∧ Hid (isN wr p (y * G)) ∧ Below w.heap.size w wr)
          (fun gs _ _ => (intOf gs).toNat)
        case atStart => exact ⟨G0, v1, rfl, by go_num, by omega, HG, HV1, hb1⟩
        case round =>
          obtain ⟨G, p, rfl, rfl, hG9, hG, hp, hb⟩ := hrel
          have hBs := hb.size
          have hx1 := isN_below HIV.out hb
          have hy1 := isN_below HIU.out hb
          have HX1 : Hid (isN wr _ x) := hx1
          have HY1 : Hid (isN wr _ y) := hy1
          have FP : fits (y * G) 9002 := FY.mul (by omega)
          clear hx1 hy1 HV1 hb1 HG
          go_wp2_with fail
          refine (compare_f _ _ (y * G) x _ hp.out HX1.out (FP.mono (Nat.le_refl _) (by omega)) (FX.mono (Nat.le_refl _) (by omega))).mono ?_
          rintro e w2 ⟨⟨c, rfl, hc, hc1, hc2⟩, hb2⟩
          have hb3 := hb.trans (hb2.mono hBs)
          have HP2 : Hid (isN w2 p (y * G)) := isN_below hp.out hb2
          have HX2 : Hid (isN w2 _ x) := isN_below HX1.out hb2
          have HY2 : Hid (isN w2 _ y) := isN_below HY1.out hb2
          have hB3 := hb3.size
          by_cases hgt : x < y * G
          · have hc0 : 0 < c := by rw [hc.out, cmpI_gt hgt]; omega
            have hGp : 0 < G := by
              rcases Nat.eq_zero_or_pos G with h | h
              · rw [h, Nat.mul_zero] at hgt; omega
              · exact h
            have hle : y ≤ y * G := Nat.le_mul_of_pos_right _ hGp
            have hsub : y * G - y = y * (G - 1) := by rw [Nat.mul_sub, Nat.mul_one]
            have HG2 : Hid (x / y ≤ G - 1) := by
              show _ ≤ _
              have : x / y < G := Nat.div_lt_of_lt_mul hgt
              omega
            have HS : Hid (y * G - y = y * (G - 1)) := hsub
            have HLE : Hid (y ≤ y * G) := hle
            clear hgt hc hsub hle hG hp HX1 HY1 hb hb2
            go_wp2_with fail
            refine (minus_f _ _ (y * G) y _ HP2.out HY2.out HLE.out (FP.mono (Nat.le_refl _) (by omega))).mono ?_
            rintro e w3 ⟨⟨v3, rfl, hv3⟩, hb4⟩
            rw [HS.out] at hv3
            have HV3 : Hid (isN w3 v3 (y * (G - 1))) := hv3
            have hb5 := hb3.trans (hb4.mono hB3)
            clear hv3 hb4 hb3
            go_wp2
            go_roundw
            case rel => exact ⟨G - 1, v3, rfl, by go_num, by omega, HG2, HV3, hb5⟩
            case measure => simp [intOf]; omega
          · have hc0 : ¬ 0 < c := by
              rw [hc.out]
              have h9 : cmpI (y * G) x ≤ 0 := by unfold cmpI; split <;> (try split) <;> omega
              omega
            have hge := guess_end x y G hG.out (by omega) hy
            have HGE : Hid (G = x / y ∧ x - y * G = x % y) := hge
            have HLE : Hid (y * G ≤ x) := by show _ ≤ _; omega
            clear hgt hge hc hG hp HX1 HY1 hb hb2
            go_wp2_with fail
            refine (minus_g _ _ x (y * G) _ HX2.out HP2.out HLE.out (FX.mono (Nat.le_refl _) (by omega))).mono ?_
            rintro e w3 ⟨⟨v3, rfl, hv3, ho3⟩, hb4⟩
            rw [HGE.out.2] at hv3
            have HV3 : Hid (isN w3 v3 (x % y)) := hv3
            have hb5 := hb3.trans (hb4.mono hB3)
            clear hv3 hb4 hb3
            go_wp2
            go_ret2
            exact ⟨⟨G, v3, rfl, HGE.out.1, HV3.out, fun g hg => .inr (Nat.le_trans hB3 (ho3.out g hg))⟩, hb5⟩
      · have HG : Hid (x / y ≤ 999999999) := by show _ ≤ _; have := HQ.out; omega
        have hmi : (999999999 : Int) < (G0 : Int) := by omega
        clear hHG
        go_enter Tryd.func81, Tryd.ntmps81
        go_wp2_with fail
        refine (timesPlus_i _ y (999999999 : Int) 0 _ HIU.out (by omega) (by omega) (by omega) (by omega) (FY.mono (Nat.le_refl _) (by omega))).mono ?_
        rintro e w1 ⟨⟨v1, rfl, hv1⟩, hb1⟩
        have HV1 : Hid (isN w1 v1 (y * 999999999)) := by
          have e : y * ((999999999 : Int) : Int).toNat + (0 : Int).toNat = y * 999999999 := by simp
          show isN w1 v1 (y * 999999999)
          rw [← e]; exact hv1
        clear hv1
        go_wp2
        go_loopw [8, 9] (fun gs ps wr => ∃ (G : Nat) (p : Value), p = ps ∧ gs = .int .u64 G ∧ G ≤ 999999999 ∧ Hid (x / y ≤ G) ∧ Hid (isN wr p (y * G)) ∧ Below w.heap.size w wr)
          (fun gs _ _ => (intOf gs).toNat)
        case atStart => exact ⟨999999999, v1, rfl, by go_num, by omega, HG, HV1, hb1⟩
        case round =>
          obtain ⟨G, p, rfl, rfl, hG9, hG, hp, hb⟩ := hrel
          have hBs := hb.size
          have hx1 := isN_below HIV.out hb
          have hy1 := isN_below HIU.out hb
          have HX1 : Hid (isN wr _ x) := hx1
          have HY1 : Hid (isN wr _ y) := hy1
          have FP : fits (y * G) 9002 := FY.mul (by omega)
          clear hx1 hy1 HV1 hb1 HG
          go_wp2_with fail
          refine (compare_f _ _ (y * G) x _ hp.out HX1.out (FP.mono (Nat.le_refl _) (by omega)) (FX.mono (Nat.le_refl _) (by omega))).mono ?_
          rintro e w2 ⟨⟨c, rfl, hc, hc1, hc2⟩, hb2⟩
          have hb3 := hb.trans (hb2.mono hBs)
          have HP2 : Hid (isN w2 p (y * G)) := isN_below hp.out hb2
          have HX2 : Hid (isN w2 _ x) := isN_below HX1.out hb2
          have HY2 : Hid (isN w2 _ y) := isN_below HY1.out hb2
          have hB3 := hb3.size
          by_cases hgt : x < y * G
          · have hc0 : 0 < c := by rw [hc.out, cmpI_gt hgt]; omega
            have hGp : 0 < G := by
              rcases Nat.eq_zero_or_pos G with h | h
              · rw [h, Nat.mul_zero] at hgt; omega
              · exact h
            have hle : y ≤ y * G := Nat.le_mul_of_pos_right _ hGp
            have hsub : y * G - y = y * (G - 1) := by rw [Nat.mul_sub, Nat.mul_one]
            have HG2 : Hid (x / y ≤ G - 1) := by
              show _ ≤ _
              have : x / y < G := Nat.div_lt_of_lt_mul hgt
              omega
            have HS : Hid (y * G - y = y * (G - 1)) := hsub
            have HLE : Hid (y ≤ y * G) := hle
            clear hgt hc hsub hle hG hp HX1 HY1 hb hb2
            go_wp2_with fail
            refine (minus_f _ _ (y * G) y _ HP2.out HY2.out HLE.out (FP.mono (Nat.le_refl _) (by omega))).mono ?_
            rintro e w3 ⟨⟨v3, rfl, hv3⟩, hb4⟩
            rw [HS.out] at hv3
            have HV3 : Hid (isN w3 v3 (y * (G - 1))) := hv3
            have hb5 := hb3.trans (hb4.mono hB3)
            clear hv3 hb4 hb3
            go_wp2
            go_roundw
            case rel => exact ⟨G - 1, v3, rfl, by go_num, by omega, HG2, HV3, hb5⟩
            case measure => simp [intOf]; omega
          · have hc0 : ¬ 0 < c := by
              rw [hc.out]
              have h9 : cmpI (y * G) x ≤ 0 := by unfold cmpI; split <;> (try split) <;> omega
              omega
            have hge := guess_end x y G hG.out (by omega) hy
            have HGE : Hid (G = x / y ∧ x - y * G = x % y) := hge
            have HLE : Hid (y * G ≤ x) := by show _ ≤ _; omega
            clear hgt hge hc hG hp HX1 HY1 hb hb2
            go_wp2_with fail
            refine (minus_g _ _ x (y * G) _ HX2.out HP2.out HLE.out (FX.mono (Nat.le_refl _) (by omega))).mono ?_
            rintro e w3 ⟨⟨v3, rfl, hv3, ho3⟩, hb4⟩
            rw [HGE.out.2] at hv3
            have HV3 : Hid (isN w3 v3 (x % y)) := hv3
            have hb5 := hb3.trans (hb4.mono hB3)
            clear hv3 hb4 hb3
            go_wp2
            go_ret2
            exact ⟨⟨G, v3, rfl, HGE.out.1, HV3.out, fun g hg => .inr (Nat.le_trans hB3 (ho3.out g hg))⟩, hb5⟩
    · have hh : x / 1000000000 ^ t = xt := by
        rw [← hn.1, lval_top xs hn.2.1 t (by omega), List.drop_eq_getElem_cons htx, List.drop_eq_nil_of_le (by omega)]
        simp only [Lm.lval, ← hx]; omega
      obtain ⟨G0, hG0⟩ : ∃ G0, G0 = xt / zt := ⟨_, rfl⟩
      have hHG : x / y ≤ G0 := by rw [hG0]; exact guess_ge x y t _ _ hh hzt hztp
      have hdiv : (xt : Int) / (zt : Int) = (G0 : Int) := by rw [hG0]; simp
      have hlen : ¬ (t : Int) + 1 < (xs.length : Int) := by omega
      have hmin : G0 ≤ 999999999 := by rw [hG0]; exact Nat.le_trans (Nat.div_le_self _ _) (by omega)
      have HG : Hid (x / y ≤ G0) := hHG
      have hmi : (G0 : Int) ≤ 999999999 := by omega
      clear hn hm hHigh hr hq hh hzt hx hz hao hiv hiu hzne h2 ht hG0 h1 hHG
      go_enter Tryd.func81, Tryd.ntmps81
      go_wp2_with fail
      refine (timesPlus_i _ y (G0 : Int) 0 _ HIU.out (by omega) (by omega) (by omega) (by omega) (FY.mono (Nat.le_refl _) (by omega))).mono ?_
      rintro e w1 ⟨⟨v1, rfl, hv1⟩, hb1⟩
      have HV1 : Hid (isN w1 v1 (y * G0)) := by
        have e : y * ((G0 : Int) : Int).toNat + (0 : Int).toNat = y * G0 := by simp
        show isN w1 v1 (y * G0)
        rw [← e]; exact hv1
      clear hv1
      go_wp2
      go_loopw [8, 9] (fun gs ps wr => ∃ (G : Nat) (p : Value), p = ps ∧ gs = .int .u64 G ∧ G ≤ 999999999 ∧ Hid (x / y ≤ G) ∧ Hid (isN wr p (y * G)) ∧ Below w.heap.size w wr)
        (fun gs _ _ => (intOf gs).toNat)
      case atStart => exact ⟨G0, v1, rfl, by go_num, by omega, HG, HV1, hb1⟩
      case round =>
        obtain ⟨G, p, rfl, rfl, hG9, hG, hp, hb⟩ := hrel
        have hBs := hb.size
        have hx1 := isN_below HIV.out hb
        have hy1 := isN_below HIU.out hb
        have HX1 : Hid (isN wr _ x) := hx1
        have HY1 : Hid (isN wr _ y) := hy1
        have FP : fits (y * G) 9002 := FY.mul (by omega)
        clear hx1 hy1 HV1 hb1 HG
        go_wp2_with fail
        refine (compare_f _ _ (y * G) x _ hp.out HX1.out (FP.mono (Nat.le_refl _) (by omega)) (FX.mono (Nat.le_refl _) (by omega))).mono ?_
        rintro e w2 ⟨⟨c, rfl, hc, hc1, hc2⟩, hb2⟩
        have hb3 := hb.trans (hb2.mono hBs)
        have HP2 : Hid (isN w2 p (y * G)) := isN_below hp.out hb2
        have HX2 : Hid (isN w2 _ x) := isN_below HX1.out hb2
        have HY2 : Hid (isN w2 _ y) := isN_below HY1.out hb2
        have hB3 := hb3.size
        by_cases hgt : x < y * G
        · have hc0 : 0 < c := by rw [hc.out, cmpI_gt hgt]; omega
          have hGp : 0 < G := by
            rcases Nat.eq_zero_or_pos G with h | h
            · rw [h, Nat.mul_zero] at hgt; omega
            · exact h
          have hle : y ≤ y * G := Nat.le_mul_of_pos_right _ hGp
          have hsub : y * G - y = y * (G - 1) := by rw [Nat.mul_sub, Nat.mul_one]
          have HG2 : Hid (x / y ≤ G - 1) := by
            show _ ≤ _
            have : x / y < G := Nat.div_lt_of_lt_mul hgt
            omega
          have HS : Hid (y * G - y = y * (G - 1)) := hsub
          have HLE : Hid (y ≤ y * G) := hle
          clear hgt hc hsub hle hG hp HX1 HY1 hb hb2
          go_wp2_with fail
          refine (minus_f _ _ (y * G) y _ HP2.out HY2.out HLE.out (FP.mono (Nat.le_refl _) (by omega))).mono ?_
          rintro e w3 ⟨⟨v3, rfl, hv3⟩, hb4⟩
          rw [HS.out] at hv3
          have HV3 : Hid (isN w3 v3 (y * (G - 1))) := hv3
          have hb5 := hb3.trans (hb4.mono hB3)
          clear hv3 hb4 hb3
          go_wp2
          go_roundw
          case rel => exact ⟨G - 1, v3, rfl, by go_num, by omega, HG2, HV3, hb5⟩
          case measure => simp [intOf]; omega
        · have hc0 : ¬ 0 < c := by
            rw [hc.out]
            have h9 : cmpI (y * G) x ≤ 0 := by unfold cmpI; split <;> (try split) <;> omega
            omega
          have hge := guess_end x y G hG.out (by omega) hy
          have HGE : Hid (G = x / y ∧ x - y * G = x % y) := hge
          have HLE : Hid (y * G ≤ x) := by show _ ≤ _; omega
          clear hgt hge hc hG hp HX1 HY1 hb hb2
          go_wp2_with fail
          refine (minus_g _ _ x (y * G) _ HX2.out HP2.out HLE.out (FX.mono (Nat.le_refl _) (by omega))).mono ?_
          rintro e w3 ⟨⟨v3, rfl, hv3, ho3⟩, hb4⟩
          rw [HGE.out.2] at hv3
          have HV3 : Hid (isN w3 v3 (x % y)) := hv3
          have hb5 := hb3.trans (hb4.mono hB3)
          clear hv3 hb4 hb3
          go_wp2
          go_ret2
          exact ⟨⟨G, v3, rfl, HGE.out.1, HV3.out, fun g hg => .inr (Nat.le_trans hB3 (ho3.out g hg))⟩, hb5⟩

end Go.Proofs.YtaggfbffdbompaaDoor
