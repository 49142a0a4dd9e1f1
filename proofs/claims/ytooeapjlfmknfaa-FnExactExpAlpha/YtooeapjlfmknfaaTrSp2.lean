/-
  The specification's way to tell whether two are the same but for names: parts, and lists of them.
-/
import Derived.Test.YtooeapjlfmknfaaTrSp
namespace Go.Proofs.Ytooeapjlfmknfaa.Tr
set_option maxRecDepth 100000
set_option linter.unusedVariables false
set_option linter.unusedSimpArgs false
open Go.RowKit Go.Deep
attribute [local go_sem ↓] Go.wp_at_zero Go.wp_at_succ

/-- What is asked of a part. -/
def AlOk (x : T) : Prop := ∀ (y : T) (ps : List (ByteArray × ByteArray)) (v : Value) (an : Option Addr) (cn : Nat) (ak : Option Addr) (ck : Nat) (an2 : Option Addr) (cn2 : Nat) (ak2 : Option Addr) (ck2 : Nat) (w : World) (base base1 base2 : Nat),
  PairsAt w base v ps → LiesAt w base1 x (.slice an x.names.length cn) (.slice ak x.kids.length ck) → LiesAt w base2 y (.slice an2 y.names.length cn2) (.slice ak2 y.kids.length ck2) → ps.length + x.wt ≤ 4194304 →
    Calls Try.prog 10 #[v, .agg #[.int .i64 x.sort, .string x.text, .bool x.rest, .slice an x.names.length cn, .slice ak x.kids.length ck], .agg #[.int .i64 y.sort, .string y.text, .bool y.rest, .slice an2 y.names.length cn2, .slice ak2 y.kids.length ck2]] w fun e w' => e = .returned (.bool (x.alpha ps.reverse y)) ∧ Below w.heap.size w w'

set_option maxHeartbeats 4000000 in
theorem l11Alpha_tail (s : Int) (xx yy : ByteArray) (r : Bool) (n : Nat) (ns ns2 : List ByteArray) (k : Nat) (ks ks2 : List T) (R : Bool) (ps : List (ByteArray × ByteArray)) (v : Value) (an : Option Addr) (cn : Nat) (ak : Option Addr) (ck : Nat) (an2 : Option Addr) (cn2 : Nat) (ak2 : Option Addr) (ck2 : Nat) (w : World) (base base1 base2 : Nat)
    (HP : Hid (PairsAt w base v ps)) (HN : Hid (Strs w base1 (.slice an n cn) ns)) (HK : Hid (Lies w base1 (.slice ak k ck) ks)) (HN2 : Hid (Strs w base2 (.slice an2 n cn2) ns2)) (HK2 : Hid (Lies w base2 (.slice ak2 k ck2) ks2))
    (EN : Hid (ns.length = n)) (EN2 : Hid (ns2.length = n)) (EK : Hid (ks.length = k)) (EK2 : Hid (ks2.length = k)) (hl : ps.length + n + wts ks ≤ 4194304)
    (IH : Hid (∀ i (h : i < ks.length), AlOk ks[i])) (HR : Hid (R = ((if isNamed s then nameR ps.reverse xx yy else xx == yy) && alphas ((ns.zip ns2).reverse ++ ps.reverse) ks ks2))) :
    Calls Try.prog 10 #[v, .agg #[.int .i64 s, .string xx, .bool r, .slice an n cn, .slice ak k ck], .agg #[.int .i64 s, .string yy, .bool r, .slice an2 n cn2, .slice ak2 k ck2]] w fun e w' => e = .returned (.bool R) ∧ Below w.heap.size w w' := by
  obtain ⟨g, cap, hv⟩ := HP.out.shape
  subst hv
  have hklen := wts_len ks
  have HKL : Hid (ks.length ≤ wts ks) := hklen
  obtain ⟨V, hV, hBV, hsz, x0, x1⟩ := boxes2 w #[Value.int .i64 s, Value.string xx, Value.bool r, Value.slice an n cn, Value.slice ak k ck] #[Value.int .i64 s, Value.string yy, Value.bool r, Value.slice an2 n cn2, Value.slice ak2 k ck2] 35 35
  have HBV : Hid (Below w.heap.size w V) := hBV
  have X0 : Hid (boxAt V _ _ _) := x0
  have X1 : Hid (boxAt V _ _ _) := x1
  have HV : Hid (V = _) := hV
  obtain ⟨E, hE⟩ : ∃ E, E = (ps ++ ns.zip ns2).reverse := ⟨_, rfl⟩
  have HE : Hid (E = (ps ++ ns.zip ns2).reverse) := hE
  have hE2 : (ns.zip ns2).reverse ++ ps.reverse = E := by rw [hE, List.reverse_append]
  rw [hE2] at HR
  have HPL : Hid ((ps ++ ns.zip ns2).length = ps.length + n) := by show _ = _; rw [List.length_append, List.length_zip, EN.out, EN2.out, Nat.min_self]
  clear hV hBV x0 x1 hsz hklen hE hE2
  go_enter Try.func10, Try.ntmps10
  -- which sort it is, and whether the texts stand for the same
  have hcase : (s = 2 ∨ (¬ s = 2 ∧ s = 6) ∨ (¬ s = 2 ∧ ¬ s = 6 ∧ s = 9)) ∨ (¬ s = 2 ∧ ¬ s = 6 ∧ ¬ s = 9) := by omega
  have hun : (¬ s = 2 ∧ ¬ s = 6 ∧ ¬ s = 9) → isNamed s = false := fun h => by unfold isNamed; simp [h]
  cases htx : (if isNamed s then nameR ps.reverse xx yy else xx == yy)
  · have e : Hid (R = false) := by rw [HR.out, htx]; rfl
    have HA : Hid (isNamed s = true → nameR ps.reverse xx yy = false) := fun h => by rw [h] at htx; exact htx
    have HB : Hid ((¬ s = 2 ∧ ¬ s = 6 ∧ ¬ s = 9) → (xx.toList == yy.toList) = false) := fun h => by rw [hun h] at htx; rw [← beq_toList]; exact htx
    clear htx HR hun
    rcases hcase with (rfl | ⟨m1, rfl⟩ | ⟨m1, m2, rfl⟩) | ⟨m1, m2, m3⟩
    rotate_left 3
    · have hxy := HB.out ⟨m1, m2, m3⟩
      have b2 : (s == 2) = false := by rw [beq_eq_false_iff_ne]; exact m1
      have b6 : (s == 6) = false := by rw [beq_eq_false_iff_ne]; exact m2
      have b9 : (s == 9) = false := by rw [beq_eq_false_iff_ne]; exact m3
      have hxy2 : (xx.toList != yy.toList) = true := by simp only [bne, hxy, Bool.not_false]
      go_wp2
      go_ret
      rw [e.out, ← HV.out]
      exact ⟨rfl, HBV.out⟩
    all_goals
      go_wp2_with fail
      rw [← HV.out]
      refine (l11Name_any ps _ xx yy _ base (PairsAt.on HP.out (Stays.below HBV.out base)) (by omega)).mono ?_
      rintro e1 w1 ⟨rfl, rfl⟩
      rw [HA.out rfl]
      go_wp2
      go_ret
      rw [e.out]
      exact ⟨rfl, HBV.out⟩
  have HA : Hid (isNamed s = true → nameR ps.reverse xx yy = true) := fun h => by rw [h] at htx; exact htx
  have HB : Hid ((¬ s = 2 ∧ ¬ s = 6 ∧ ¬ s = 9) → (xx.toList == yy.toList) = true) := fun h => by rw [hun h] at htx; rw [← beq_toList]; exact htx
  have HR2 : Hid (R = alphas E ks ks2) := by have := HR.out; rw [htx] at this; exact this
  clear htx HR hun
  have hkb : k ≤ 4194304 := by have := HKL.out; rw [EK.out] at this; omega
  have k03 := X0.out.cell 3 rfl
  have k13 := X1.out.cell 3 rfl
  rcases hcase with (rfl | ⟨m1, rfl⟩ | ⟨m1, m2, rfl⟩) | ⟨m1, m2, m3⟩
  rotate_left 3
  · have hxy := HB.out ⟨m1, m2, m3⟩
    have b2 : (s == 2) = false := by rw [beq_eq_false_iff_ne]; exact m1
    have b6 : (s == 6) = false := by rw [beq_eq_false_iff_ne]; exact m2
    have b9 : (s == 9) = false := by rw [beq_eq_false_iff_ne]; exact m3
    go_wp2_with fail
    rw [← HV.out]
    refine (l11Bound_any ps _ n ns an cn ns2 an2 cn2 _ base base1 base2 (PairsAt.on HP.out (Stays.below HBV.out base)) EN.out EN2.out (Strs.on HN.out (Stays.below HBV.out base1)) (Strs.on HN2.out (Stays.below HBV.out base2)) (by omega)).mono ?_
    rintro e w3 ⟨⟨v3, rfl, hp3⟩, hb3⟩
    obtain ⟨g3, cap3, rfl⟩ := hp3.shape
    have HB3 : Hid (Below w.heap.size w w3) := bel_go HBV.out hb3
    have Y0 : Hid (boxAt w3 _ _ _) := X0.out.on hb3
    have Y1 : Hid (boxAt w3 _ _ _) := X1.out.on hb3
    obtain ⟨B3, hB3⟩ : ∃ B3, V.heap.size = B3 := ⟨_, rfl⟩
    obtain ⟨L3, hL3⟩ : ∃ L3, (ps ++ ns.zip ns2).length = L3 := ⟨_, rfl⟩
    have HL3 : Hid ((ps ++ ns.zip ns2).length = L3) := hL3
    rw [hB3, hL3] at hp3
    rw [hL3]
    have HP3 : Hid (PairsAt w3 B3 (.slice (some ⟨g3, 0, none⟩) L3 cap3) (ps ++ ns.zip ns2)) := hp3
    have HKV : Hid (Lies w3 base1 (.slice ak k ck) ks) := Lies.on HK.out (Stays.below HB3.out base1)
    have HKV2 : Hid (Lies w3 base2 (.slice ak2 k ck2) ks2) := Lies.on HK2.out (Stays.below HB3.out base2)
    clear hp3 hb3 hB3 hL3 X0 X1 HBV HV k03 k13
    go_wp2_with fail
    go_loopw [7] (fun u wr => ∃ (i : Nat), u = .int .i64 i ∧ i ≤ k ∧ Hid (R = alphas E (ks.drop i) (ks2.drop i)) ∧ Below w3.heap.size w3 wr)
      (fun u _ => (k : Int).toNat - (intOf u).toNat)
    case atStart => exact ⟨0, by go_num, Nat.zero_le _, by rw [List.drop_zero, List.drop_zero]; exact HR2.out, Below.refl _ _⟩
    case round =>
      obtain ⟨i, rfl, hi, hv, hb⟩ := hrel
      have HBR : Hid (Below w3.heap.size w3 wr) := hb
      have k04 := (Y0.out.on hb).cell 4 rfl
      have k14 := (Y1.out.on hb).cell 4 rfl
      clear hb
      by_cases hlt : i < k
      · have hk1 : i < ks.length := by rw [EK.out]; exact hlt
        have hk2 : i < ks2.length := by rw [EK2.out]; exact hlt
        obtain ⟨b, o, nv, kv, rfl, hbb, c0, c1, c2, c3, c4, hat⟩ := (Lies.on HKV.out (Stays.below HBR.out base1)).at i hk1
        obtain ⟨b2, o2, nv2, kv2, rfl, hbb2, d0, d1, d2, d3, d4, hat2⟩ := (Lies.on HKV2.out (Stays.below HBR.out base2)).at i hk2
        obtain ⟨an', cn', rfl⟩ := hat.names.slice
        obtain ⟨ak', ck', rfl⟩ := hat.kids.slice
        obtain ⟨an2', cn2', rfl⟩ := hat2.names.slice
        obtain ⟨ak2', ck2', rfl⟩ := hat2.kids.slice
        have hstep := alphas_drop E ks ks2 i hk1 hk2
        have IHT : Hid (AlOk ks[i]) := IH.out i hk1
        have hg := wts_get ks i hk1
        obtain ⟨t, ht⟩ : ∃ t, ks[i] = t := ⟨_, rfl⟩
        obtain ⟨t2, ht2⟩ : ∃ t2, ks2[i] = t2 := ⟨_, rfl⟩
        rw [ht] at c0 c1 c2 c3 c4 hat IHT hstep hg
        rw [ht2] at d0 d1 d2 d3 d4 hat2 hstep
        have HAT : Hid (LiesAt wr base1 t _ _) := hat
        have HAT2 : Hid (LiesAt wr base2 t2 _ _) := hat2
        have hlt2 : (i : Int) < (k : Int) := by omega
        have hv2 : R = (t.alpha E t2 && alphas E (ks.drop (i + 1)) (ks2.drop (i + 1))) := by rw [← hstep]; exact hv.out
        have hwt : (ps ++ ns.zip ns2).length + t.wt ≤ 4194304 := by rw [HPL.out]; omega
        have HPR : Hid (PairsAt wr B3 (.slice (some ⟨g3, 0, none⟩) L3 cap3) (ps ++ ns.zip ns2)) := PairsAt.on HP3.out (Stays.below HBR.out B3)
        have HC := IHT.out t2 (ps ++ ns.zip ns2) _ an' cn' ak' ck' an2' cn2' ak2' ck2' wr.drew B3 base1 base2 (PairsAt.on HPR.out Stays.drew) (HAT.out.on Stays.drew) (HAT2.out.on Stays.drew) hwt
        rw [← HE.out] at HC
        obtain ⟨q, hq⟩ : ∃ q, t.alpha E t2 = q := ⟨_, rfl⟩
        rw [hq] at HC hv2
        have HCC : Hid (Calls _ _ _ _ _) := HC
        have HV2 : Hid (R = (q && alphas E (ks.drop (i + 1)) (ks2.drop (i + 1)))) := hv2
        clear hat hat2 ht ht2 hstep hv hv2 hwt hq HC hg hk1 hk2 IHT
        go_wp2_with fail
        go_region_held3 (fun w' => (w'.cell? ⟨w.heap.size, 4, none⟩ = some (.slice (some ⟨b, o, none⟩) k ck) ∧ w'.cell? ⟨w.heap.size + 1, 4, none⟩ = some (.slice (some ⟨b2, o2, none⟩) k ck2)) ∧ (w'.cell? ⟨b, o + i * 5, none⟩ = some (.int .i64 t.sort) ∧ w'.cell? ⟨b, o + i * 5 + 1, none⟩ = some (.string t.text) ∧ w'.cell? ⟨b, o + i * 5 + 2, none⟩ = some (.bool t.rest) ∧ w'.cell? ⟨b, o + i * 5 + 3, none⟩ = some (.slice an' t.names.length cn') ∧ w'.cell? ⟨b, o + i * 5 + 4, none⟩ = some (.slice ak' t.kids.length ck')) ∧
            (w'.cell? ⟨b2, o2 + i * 5, none⟩ = some (.int .i64 t2.sort) ∧ w'.cell? ⟨b2, o2 + i * 5 + 1, none⟩ = some (.string t2.text) ∧ w'.cell? ⟨b2, o2 + i * 5 + 2, none⟩ = some (.bool t2.rest) ∧ w'.cell? ⟨b2, o2 + i * 5 + 3, none⟩ = some (.slice an2' t2.names.length cn2') ∧ w'.cell? ⟨b2, o2 + i * 5 + 4, none⟩ = some (.slice ak2' t2.kids.length ck2')))
          ((repeat' apply And.intro) <;> first | (with_reducible assumption) | (go_keep; done))
          (first | (go_at_call 10; refine (HCC.out).mono ?_; rintro e w4 ⟨rfl, hb4⟩; have HB4 : Hid (Below w3.heap.size w3 w4) := bel_go (belD HBR.out) hb4; have e04 := cell_on hb4 k04; have e14 := cell_on hb4 k14; have ec0 := cell_on hb4 c0; have ec1 := cell_on hb4 c1; have ec2 := cell_on hb4 c2; have ec3 := cell_on hb4 c3; have ec4 := cell_on hb4 c4; have ed0 := cell_on hb4 d0; have ed1 := cell_on hb4 d1; have ed2 := cell_on hb4 d2; have ed3 := cell_on hb4 d3; have ed4 := cell_on hb4 d4; clear hb4))
        clear c0 c1 c2 c3 c4 d0 d1 d2 d3 d4 ec0 ec1 ec2 ec3 ec4 ed0 ed1 ed2 ed3 ed4 k04 k14 e04 e14
        cases q
        · have e : Hid (R = false) := by rw [HV2.out]; rfl
          go_wp2
          go_ret
          rw [e.out]
          exact ⟨rfl, bel_go HB3.out HB4.out⟩
        · have HV3 : Hid (R = alphas E (ks.drop (i + 1)) (ks2.drop (i + 1))) := by have := HV2.out; rw [Bool.true_and] at this; exact this
          clear HV2
          go_wp2
          go_roundw
          case rel => exact ⟨i + 1, by go_num, by omega, HV3, HB4.out⟩
          case measure => simp [intOf] <;> omega
      · have hie : i = k := by omega
        have e : Hid (R = true) := by have := hv.out; rw [List.drop_of_length_le (by rw [EK.out]; omega), alphas_nil] at this; exact this
        subst hie
        clear hv
        go_wp2
        go_ret
        rw [e.out]
        exact ⟨rfl, bel_go HB3.out HBR.out⟩
  all_goals
    go_wp2_with fail
    rw [← HV.out]
    refine (l11Name_any ps _ xx yy _ base (PairsAt.on HP.out (Stays.below HBV.out base)) (by omega)).mono ?_
    rintro e1 w1 ⟨rfl, hw1⟩
    rw [HA.out rfl, hw1]
    clear hw1 w1
    go_wp2_with fail
    refine (l11Bound_any ps _ n ns an cn ns2 an2 cn2 _ base base1 base2 (PairsAt.on HP.out (Stays.below HBV.out base)) EN.out EN2.out (Strs.on HN.out (Stays.below HBV.out base1)) (Strs.on HN2.out (Stays.below HBV.out base2)) (by omega)).mono ?_
    rintro e w3 ⟨⟨v3, rfl, hp3⟩, hb3⟩
    obtain ⟨g3, cap3, rfl⟩ := hp3.shape
    have HB3 : Hid (Below w.heap.size w w3) := bel_go HBV.out hb3
    have Y0 : Hid (boxAt w3 _ _ _) := X0.out.on hb3
    have Y1 : Hid (boxAt w3 _ _ _) := X1.out.on hb3
    obtain ⟨B3, hB3⟩ : ∃ B3, V.heap.size = B3 := ⟨_, rfl⟩
    obtain ⟨L3, hL3⟩ : ∃ L3, (ps ++ ns.zip ns2).length = L3 := ⟨_, rfl⟩
    have HL3 : Hid ((ps ++ ns.zip ns2).length = L3) := hL3
    rw [hB3, hL3] at hp3
    rw [hL3]
    have HP3 : Hid (PairsAt w3 B3 (.slice (some ⟨g3, 0, none⟩) L3 cap3) (ps ++ ns.zip ns2)) := hp3
    have HKV : Hid (Lies w3 base1 (.slice ak k ck) ks) := Lies.on HK.out (Stays.below HB3.out base1)
    have HKV2 : Hid (Lies w3 base2 (.slice ak2 k ck2) ks2) := Lies.on HK2.out (Stays.below HB3.out base2)
    clear hp3 hb3 hB3 hL3 X0 X1 HBV HV k03 k13
    go_wp2_with fail
    go_loopw [7] (fun u wr => ∃ (i : Nat), u = .int .i64 i ∧ i ≤ k ∧ Hid (R = alphas E (ks.drop i) (ks2.drop i)) ∧ Below w3.heap.size w3 wr)
      (fun u _ => (k : Int).toNat - (intOf u).toNat)
    case atStart => exact ⟨0, by go_num, Nat.zero_le _, by rw [List.drop_zero, List.drop_zero]; exact HR2.out, Below.refl _ _⟩
    case round =>
      obtain ⟨i, rfl, hi, hv, hb⟩ := hrel
      have HBR : Hid (Below w3.heap.size w3 wr) := hb
      have k04 := (Y0.out.on hb).cell 4 rfl
      have k14 := (Y1.out.on hb).cell 4 rfl
      clear hb
      by_cases hlt : i < k
      · have hk1 : i < ks.length := by rw [EK.out]; exact hlt
        have hk2 : i < ks2.length := by rw [EK2.out]; exact hlt
        obtain ⟨b, o, nv, kv, rfl, hbb, c0, c1, c2, c3, c4, hat⟩ := (Lies.on HKV.out (Stays.below HBR.out base1)).at i hk1
        obtain ⟨b2, o2, nv2, kv2, rfl, hbb2, d0, d1, d2, d3, d4, hat2⟩ := (Lies.on HKV2.out (Stays.below HBR.out base2)).at i hk2
        obtain ⟨an', cn', rfl⟩ := hat.names.slice
        obtain ⟨ak', ck', rfl⟩ := hat.kids.slice
        obtain ⟨an2', cn2', rfl⟩ := hat2.names.slice
        obtain ⟨ak2', ck2', rfl⟩ := hat2.kids.slice
        have hstep := alphas_drop E ks ks2 i hk1 hk2
        have IHT : Hid (AlOk ks[i]) := IH.out i hk1
        have hg := wts_get ks i hk1
        obtain ⟨t, ht⟩ : ∃ t, ks[i] = t := ⟨_, rfl⟩
        obtain ⟨t2, ht2⟩ : ∃ t2, ks2[i] = t2 := ⟨_, rfl⟩
        rw [ht] at c0 c1 c2 c3 c4 hat IHT hstep hg
        rw [ht2] at d0 d1 d2 d3 d4 hat2 hstep
        have HAT : Hid (LiesAt wr base1 t _ _) := hat
        have HAT2 : Hid (LiesAt wr base2 t2 _ _) := hat2
        have hlt2 : (i : Int) < (k : Int) := by omega
        have hv2 : R = (t.alpha E t2 && alphas E (ks.drop (i + 1)) (ks2.drop (i + 1))) := by rw [← hstep]; exact hv.out
        have hwt : (ps ++ ns.zip ns2).length + t.wt ≤ 4194304 := by rw [HPL.out]; omega
        have HPR : Hid (PairsAt wr B3 (.slice (some ⟨g3, 0, none⟩) L3 cap3) (ps ++ ns.zip ns2)) := PairsAt.on HP3.out (Stays.below HBR.out B3)
        have HC := IHT.out t2 (ps ++ ns.zip ns2) _ an' cn' ak' ck' an2' cn2' ak2' ck2' wr.drew B3 base1 base2 (PairsAt.on HPR.out Stays.drew) (HAT.out.on Stays.drew) (HAT2.out.on Stays.drew) hwt
        rw [← HE.out] at HC
        obtain ⟨q, hq⟩ : ∃ q, t.alpha E t2 = q := ⟨_, rfl⟩
        rw [hq] at HC hv2
        have HCC : Hid (Calls _ _ _ _ _) := HC
        have HV2 : Hid (R = (q && alphas E (ks.drop (i + 1)) (ks2.drop (i + 1)))) := hv2
        clear hat hat2 ht ht2 hstep hv hv2 hwt hq HC hg hk1 hk2 IHT
        go_wp2_with fail
        go_region_held3 (fun w' => (w'.cell? ⟨w.heap.size, 4, none⟩ = some (.slice (some ⟨b, o, none⟩) k ck) ∧ w'.cell? ⟨w.heap.size + 1, 4, none⟩ = some (.slice (some ⟨b2, o2, none⟩) k ck2)) ∧ (w'.cell? ⟨b, o + i * 5, none⟩ = some (.int .i64 t.sort) ∧ w'.cell? ⟨b, o + i * 5 + 1, none⟩ = some (.string t.text) ∧ w'.cell? ⟨b, o + i * 5 + 2, none⟩ = some (.bool t.rest) ∧ w'.cell? ⟨b, o + i * 5 + 3, none⟩ = some (.slice an' t.names.length cn') ∧ w'.cell? ⟨b, o + i * 5 + 4, none⟩ = some (.slice ak' t.kids.length ck')) ∧
            (w'.cell? ⟨b2, o2 + i * 5, none⟩ = some (.int .i64 t2.sort) ∧ w'.cell? ⟨b2, o2 + i * 5 + 1, none⟩ = some (.string t2.text) ∧ w'.cell? ⟨b2, o2 + i * 5 + 2, none⟩ = some (.bool t2.rest) ∧ w'.cell? ⟨b2, o2 + i * 5 + 3, none⟩ = some (.slice an2' t2.names.length cn2') ∧ w'.cell? ⟨b2, o2 + i * 5 + 4, none⟩ = some (.slice ak2' t2.kids.length ck2')))
          ((repeat' apply And.intro) <;> first | (with_reducible assumption) | (go_keep; done))
          (first | (go_at_call 10; refine (HCC.out).mono ?_; rintro e w4 ⟨rfl, hb4⟩; have HB4 : Hid (Below w3.heap.size w3 w4) := bel_go (belD HBR.out) hb4; have e04 := cell_on hb4 k04; have e14 := cell_on hb4 k14; have ec0 := cell_on hb4 c0; have ec1 := cell_on hb4 c1; have ec2 := cell_on hb4 c2; have ec3 := cell_on hb4 c3; have ec4 := cell_on hb4 c4; have ed0 := cell_on hb4 d0; have ed1 := cell_on hb4 d1; have ed2 := cell_on hb4 d2; have ed3 := cell_on hb4 d3; have ed4 := cell_on hb4 d4; clear hb4))
        clear c0 c1 c2 c3 c4 d0 d1 d2 d3 d4 ec0 ec1 ec2 ec3 ec4 ed0 ed1 ed2 ed3 ed4 k04 k14 e04 e14
        cases q
        · have e : Hid (R = false) := by rw [HV2.out]; rfl
          go_wp2
          go_ret
          rw [e.out]
          exact ⟨rfl, bel_go HB3.out HB4.out⟩
        · have HV3 : Hid (R = alphas E (ks.drop (i + 1)) (ks2.drop (i + 1))) := by have := HV2.out; rw [Bool.true_and] at this; exact this
          clear HV2
          go_wp2
          go_roundw
          case rel => exact ⟨i + 1, by go_num, by omega, HV3, HB4.out⟩
          case measure => simp [intOf] <;> omega
      · have hie : i = k := by omega
        have e : Hid (R = true) := by have := hv.out; rw [List.drop_of_length_le (by rw [EK.out]; omega), alphas_nil] at this; exact this
        subst hie
        clear hv
        go_wp2
        go_ret
        rw [e.out]
        exact ⟨rfl, bel_go HB3.out HBR.out⟩

end Go.Proofs.Ytooeapjlfmknfaa.Tr
