/-
  The specification's ExpAlpha.
-/
import Derived.Test.YtooeapjlfmknfaaTrSp2
namespace Go.Proofs.Ytooeapjlfmknfaa.Tr
set_option maxRecDepth 100000
set_option linter.unusedVariables false
set_option linter.unusedSimpArgs false
open Go.RowKit Go.Deep
attribute [local go_sem ↓] Go.wp_at_zero Go.wp_at_succ

set_option maxHeartbeats 1600000 in
theorem l11Alpha_any : ∀ (n : Nat) (x : T), x.wt < n → AlOk x := by
  intro n
  induction n with
  | zero => intro x h; exact absurd h (Nat.not_lt_zero _)
  | succ n ihn =>
    intro x hx y ps v an cn ak ck an2 cn2 ak2 ck2 w base base1 base2 hP hL hL2 hl
    have IH : ∀ i (h : i < x.kids.length), AlOk x.kids[i] := fun i h => ihn _ (by have := wts_get x.kids i h; have := wt_eq x; omega)
    have hwt := wt_eq x
    have hns := wtN_len x.names
    have hks := wts_len x.kids
    have hal := alpha_eq ps.reverse x y
    obtain ⟨R, hR⟩ : ∃ R, x.alpha ps.reverse y = R := ⟨_, rfl⟩
    rw [hR] at hal ⊢
    clear hR ihn hx
    obtain ⟨hN, hK⟩ := hL
    obtain ⟨hN2, hK2⟩ := hL2
    cases x with
    | mk s xx r ns ks =>
    cases y with
    | mk s2 yy r2 ns2 ks2 =>
    simp only [T.sort, T.text, T.rest, T.names, T.kids] at *
    by_cases e1 : s = s2
    · subst e1
      by_cases e2 : r = r2
      · subst e2
        by_cases e3 : ns2.length = ns.length
        · by_cases e4 : ks2.length = ks.length
          · rw [e3] at hN2 ⊢
            rw [e4] at hK2 ⊢
            have HR : R = ((if isNamed s then nameR ps.reverse xx yy else xx == yy) && alphas ((ns.zip ns2).reverse ++ ps.reverse) ks ks2) := by
              rw [hal, e3, e4]; simp only [beq_self_eq_true, Bool.true_and] <;> rfl
            exact l11Alpha_tail s xx yy r ns.length ns ns2 ks.length ks ks2 R ps v an cn ak ck an2 cn2 ak2 ck2 w base base1 base2 hP hN hK hN2 hK2 rfl e3 rfl e4 (by omega) IH HR
          · have HR : Hid (R = false) := by
              have : (ks.length == ks2.length) = false := by rw [beq_eq_false_iff_ne]; exact fun h => e4 h.symm
              show _ = _
              rw [hal, this]; simp
            obtain ⟨k2, hk2⟩ : ∃ k2, ks2.length = k2 := ⟨_, rfl⟩
            obtain ⟨n2, hn2⟩ : ∃ n2, ns2.length = n2 := ⟨_, rfl⟩
            rw [e3] at hN2 ⊢
            rw [hk2] at e4 ⊢
            clear hN hK hN2 hK2 IH hal hP hwt hns hks e3 hk2 hn2
            have t1 : ((ks.length : Int) == (k2 : Int)) = false := by rw [beq_eq_false_iff_ne]; omega
            have t2 : ((ks.length : Int) != (k2 : Int)) = true := by rw [bne, t1]; rfl
            go_enter Try.func10, Try.ntmps10
            go_wp2
            go_ret
            rw [HR.out]
            exact ⟨rfl, belA (belA (Below.refl _ _))⟩
        · have HR : Hid (R = false) := by
            have : (ns.length == ns2.length) = false := by rw [beq_eq_false_iff_ne]; exact fun h => e3 h.symm
            show _ = _
            rw [hal, this]; simp
          obtain ⟨n2, hn2⟩ : ∃ n2, ns2.length = n2 := ⟨_, rfl⟩
          rw [hn2] at e3 ⊢
          clear hN hK hN2 hK2 IH hal hP hwt hns hks hn2
          have t1 : ((ns.length : Int) == (n2 : Int)) = false := by rw [beq_eq_false_iff_ne]; omega
          have t2 : ((ns.length : Int) != (n2 : Int)) = true := by rw [bne, t1]; rfl
          go_enter Try.func10, Try.ntmps10
          go_wp2
          go_ret
          rw [HR.out]
          exact ⟨rfl, belA (belA (Below.refl _ _))⟩
      · have HR : Hid (R = false) := by
          have : (r == r2) = false := by rw [beq_eq_false_iff_ne]; exact e2
          show _ = _
          rw [hal, this]; simp
        clear hN hK hN2 hK2 IH hal hP hwt hns hks
        cases r <;> cases r2 <;> first | exact absurd rfl e2 | skip
        all_goals
          go_enter Try.func10, Try.ntmps10
          go_wp2
          go_ret
          rw [HR.out]
          exact ⟨rfl, belA (belA (Below.refl _ _))⟩
    · have HR : Hid (R = false) := by
        have : (s == s2) = false := by rw [beq_eq_false_iff_ne]; exact e1
        show _ = _
        rw [hal, this]; simp
      have t1 : (s == s2) = false := by rw [beq_eq_false_iff_ne]; exact e1
      have t2 : (s != s2) = true := by rw [bne, t1]; rfl
      clear hN hK hN2 hK2 IH hal hP hwt hns hks
      go_enter Try.func10, Try.ntmps10
      go_wp2
      go_ret
      rw [HR.out]
      exact ⟨rfl, belA (belA (Below.refl _ _))⟩

set_option maxHeartbeats 1600000 in
theorem sExpAlpha_any (xs ys : List T) (ao : Option Addr) (cap : Nat) (ao2 : Option Addr) (cap2 : Nat) (w : World) (base base2 : Nat) (hL : Lies w base (.slice ao xs.length cap) xs) (hL2 : Lies w base2 (.slice ao2 ys.length cap2) ys) (hw : wts xs ≤ 1048576) :
    Calls Try.prog 5 #[.slice ao xs.length cap, .slice ao2 ys.length cap2] w fun e w' => e = .returned (.bool (alphaTop xs ys)) ∧ Below w.heap.size w w' := by
  have hlen := wts_len xs
  by_cases e1 : ys.length = xs.length
  · have hxl : xs.length ≤ 1048576 := by omega
    have HL : Hid (Lies w base (.slice ao xs.length cap) xs) := hL
    have HL2 : Hid (Lies w base2 (.slice ao2 xs.length cap2) ys) := by rw [← e1]; exact hL2
    have EL : Hid (ys.length = xs.length) := e1
    obtain ⟨R, hR⟩ : ∃ R, alphaTop xs ys = R := ⟨_, rfl⟩
    have HR : Hid (R = alphas [] xs ys) := by show _ = _; rw [← hR]; unfold alphaTop; rw [e1]; simp
    have HW : Hid (wts xs ≤ 1048576) := hw
    rw [hR, e1]
    clear hL hL2 hR e1 hw
    go_enter Try.func5, Try.ntmps5
    go_wp2_with fail
    go_loopw [5] (fun u wr => ∃ (i : Nat), u = .int .i64 i ∧ i ≤ xs.length ∧ Hid (R = alphas [] (xs.drop i) (ys.drop i)) ∧ Below w.heap.size w wr)
      (fun u _ => (xs.length : Int).toNat - (intOf u).toNat)
    case atStart => exact ⟨0, by go_num, Nat.zero_le _, by rw [List.drop_zero, List.drop_zero]; exact HR.out, Below.refl _ _⟩
    case round =>
      obtain ⟨i, rfl, hi, hv, hb⟩ := hrel
      have HB : Hid _ := hb
      clear hb
      by_cases hlt : i < xs.length
      · have hk2 : i < ys.length := by rw [EL.out]; exact hlt
        obtain ⟨b, o, nv, kv, rfl, hbb, c0, c1, c2, c3, c4, hat⟩ := (Lies.on HL.out (Stays.below HB.out base)).at i hlt
        obtain ⟨b2, o2, nv2, kv2, rfl, hbb2, d0, d1, d2, d3, d4, hat2⟩ := (Lies.on HL2.out (Stays.below HB.out base2)).at i hk2
        obtain ⟨an', cn', rfl⟩ := hat.names.slice
        obtain ⟨ak', ck', rfl⟩ := hat.kids.slice
        obtain ⟨an2', cn2', rfl⟩ := hat2.names.slice
        obtain ⟨ak2', ck2', rfl⟩ := hat2.kids.slice
        have hstep := alphas_drop [] xs ys i hlt hk2
        have hg := wts_get xs i hlt
        obtain ⟨t, ht⟩ : ∃ t, xs[i] = t := ⟨_, rfl⟩
        obtain ⟨t2, ht2⟩ : ∃ t2, ys[i] = t2 := ⟨_, rfl⟩
        rw [ht] at c0 c1 c2 c3 c4 hat hstep hg
        rw [ht2] at d0 d1 d2 d3 d4 hat2 hstep
        have HAT : Hid (LiesAt wr base t _ _) := hat
        have HAT2 : Hid (LiesAt wr base2 t2 _ _) := hat2
        have hlt2 : (i : Int) < (xs.length : Int) := by omega
        have hv2 : R = (t.alpha [] t2 && alphas [] (xs.drop (i + 1)) (ys.drop (i + 1))) := by rw [← hstep]; exact hv.out
        have hwt : ([] : List (ByteArray × ByteArray)).length + t.wt ≤ 4194304 := by have := HW.out; simp; omega
        have HC := l11Alpha_any _ t (Nat.lt_succ_self _) t2 [] _ an' cn' ak' ck' an2' cn2' ak2' ck2' (wr.drew.alloc (.cells #[] 57)) 0 base base2 (pairs_nil wr.drew 0 (Nat.zero_le _)) ((HAT.out.on Stays.drew).on (Stays.alloc _)) ((HAT2.out.on Stays.drew).on (Stays.alloc _)) hwt
        rw [List.reverse_nil] at HC
        obtain ⟨q, hq⟩ : ∃ q, t.alpha [] t2 = q := ⟨_, rfl⟩
        rw [hq] at HC hv2
        have HCC : Hid (Calls _ _ _ _ _) := HC
        have HV2 : Hid (R = (q && alphas [] (xs.drop (i + 1)) (ys.drop (i + 1)))) := hv2
        clear hat hat2 ht ht2 hstep hv hv2 hwt hq HC hg hk2
        go_wp2_with fail
        go_region_held3 (fun w' => (w'.cell? ⟨b, o + i * 5, none⟩ = some (.int .i64 t.sort) ∧ w'.cell? ⟨b, o + i * 5 + 1, none⟩ = some (.string t.text) ∧ w'.cell? ⟨b, o + i * 5 + 2, none⟩ = some (.bool t.rest) ∧ w'.cell? ⟨b, o + i * 5 + 3, none⟩ = some (.slice an' t.names.length cn') ∧ w'.cell? ⟨b, o + i * 5 + 4, none⟩ = some (.slice ak' t.kids.length ck')) ∧
            (w'.cell? ⟨b2, o2 + i * 5, none⟩ = some (.int .i64 t2.sort) ∧ w'.cell? ⟨b2, o2 + i * 5 + 1, none⟩ = some (.string t2.text) ∧ w'.cell? ⟨b2, o2 + i * 5 + 2, none⟩ = some (.bool t2.rest) ∧ w'.cell? ⟨b2, o2 + i * 5 + 3, none⟩ = some (.slice an2' t2.names.length cn2') ∧ w'.cell? ⟨b2, o2 + i * 5 + 4, none⟩ = some (.slice ak2' t2.kids.length ck2')))
          ((repeat' apply And.intro) <;> first | (with_reducible assumption) | (go_keep; done))
          (first | (go_at_call 10; refine (HCC.out).mono ?_; rintro e w4 ⟨rfl, hb4⟩; have HB4 : Hid (Below w.heap.size w w4) := bel_go (belA (belD HB.out)) hb4; have al0 : Below wr.heap.size wr (wr.drew.alloc (.cells #[] 57)) := belA (belD (Below.refl _ _)); have ec0 := cell_on hb4 (cell_on al0 c0); have ec1 := cell_on hb4 (cell_on al0 c1); have ec2 := cell_on hb4 (cell_on al0 c2); have ec3 := cell_on hb4 (cell_on al0 c3); have ec4 := cell_on hb4 (cell_on al0 c4); have ed0 := cell_on hb4 (cell_on al0 d0); have ed1 := cell_on hb4 (cell_on al0 d1); have ed2 := cell_on hb4 (cell_on al0 d2); have ed3 := cell_on hb4 (cell_on al0 d3); have ed4 := cell_on hb4 (cell_on al0 d4); clear hb4 al0))
        all_goals
          clear c0 c1 c2 c3 c4 d0 d1 d2 d3 d4 ec0 ec1 ec2 ec3 ec4 ed0 ed1 ed2 ed3 ed4
          cases q
          · have e : Hid (R = false) := by rw [HV2.out]; rfl
            go_wp2
            go_ret
            rw [e.out]
            exact ⟨rfl, HB4.out⟩
          · have HV3 : Hid (R = alphas [] (xs.drop (i + 1)) (ys.drop (i + 1))) := by have := HV2.out; rw [Bool.true_and] at this; exact this
            clear HV2
            go_wp2
            go_roundw
            case rel => exact ⟨i + 1, by go_num, by omega, HV3, HB4.out⟩
            case measure => simp [intOf] <;> omega
      · have hie : i = xs.length := by omega
        have e : Hid (R = true) := by have := hv.out; rw [List.drop_of_length_le (Nat.le_of_eq hie.symm), alphas_nil] at this; exact this
        subst hie
        clear hv
        go_wp2
        go_ret
        rw [e.out]
        exact ⟨rfl, HB.out⟩
  · have HR : Hid (alphaTop xs ys = false) := by
      have : (xs.length == ys.length) = false := by rw [beq_eq_false_iff_ne]; exact fun h => e1 h.symm
      show _ = _
      unfold alphaTop; rw [this]; rfl
    obtain ⟨n2, hn2⟩ : ∃ n2, ys.length = n2 := ⟨_, rfl⟩
    rw [hn2] at e1 ⊢
    have t1 : ((xs.length : Int) == (n2 : Int)) = false := by rw [beq_eq_false_iff_ne]; omega
    have t2 : ((xs.length : Int) != (n2 : Int)) = true := by rw [bne, t1]; rfl
    clear hL hL2 hw hlen hn2
    go_enter Try.func5, Try.ntmps5
    go_wp2
    go_ret
    rw [HR.out]
    exact ⟨rfl, Below.refl _ _⟩

end Go.Proofs.Ytooeapjlfmknfaa.Tr
