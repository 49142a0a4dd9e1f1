/-
  Contracts of dividing whole numbers with a sign, and of a whole number's text.
-/
import Derived.Test.YtaggfbffdbompaaDoorWhole3
import Derived.Test.YtaggfbffdbompaaDoorNumOf
namespace Go.Proofs.YtaggfbffdbompaaDoor
set_option maxRecDepth 100000
set_option linter.unusedVariables false
set_option linter.unusedSimpArgs false
open Go.RowKit
attribute [local go_sem ↓] Go.wp_at_zero Go.wp_at_succ
attribute [local go_sem] Oper.semAt_some

set_option maxHeartbeats 1600000 in
theorem sdivide_any (b : Bool) (ao : Option Addr) (len cap : Nat) (b2 : Bool) (ao2 : Option Addr) (len2 cap2 : Nat) (n m : Nat) (w : World) (hn : isN w (.slice ao len cap) n) (hm : isN w (.slice ao2 len2 cap2) m) (hm0 : 0 < m) (fn : fits n 8000) (fm : fits m 8000) :
    Calls Tryd.prog 26 #[.agg #[.bool b, .slice ao len cap], .agg #[.bool b2, .slice ao2 len2 cap2]] w fun e w' => (∃ a1 l1 c1 a3 l3 c3, e = .returned (.tuple #[.agg #[.bool (b != b2), .slice a1 l1 c1], .agg #[.bool b, .slice a3 l3 c3]]) ∧ Hid (isN w' (.slice a1 l1 c1) (n / m)) ∧ Hid (isN w' (.slice a3 l3 c3) (n % m))) ∧ Below w.heap.size w w' := by
  go_enter Tryd.func26, Tryd.ntmps26
  go_wp2_with fail
  obtain ⟨V, hV, hBV, x0, x1, x2, x3⟩ := boxes4 w #[Value.bool b, Value.slice ao len cap] #[Value.bool b2, Value.slice ao2 len2 cap2] #[Value.bool false, Value.slice none 0 0] #[Value.bool false, Value.slice none 0 0] 44 44 44 44
  rw [← hV]
  have HBV : Hid (Below w.heap.size w V) := hBV
  have Z0 : Hid (boxAt V _ _ _) := x0
  have Z1 : Hid (boxAt V _ _ _) := x1
  have Z2 : Hid (boxAt V _ _ _) := x2
  have Z3 : Hid (boxAt V _ _ _) := x3
  have HN : Hid (isN V (.slice ao len cap) n) := isN_below hn hBV
  have HM : Hid (isN V (.slice ao2 len2 cap2) m) := isN_below hm hBV
  clear hV hBV x0 x1 x2 x3 hn hm
  refine (divide_any _ _ n m _ HN.out HM.out hm0 fn fm).mono ?_
  rintro e w3 ⟨⟨v1, v2, rfl, h1, h2⟩, hb3⟩
  obtain ⟨a1, l1, c1, rfl⟩ := isN_slice h1
  obtain ⟨a3, l3, c3, rfl⟩ := isN_slice h2
  have M1 : Hid (isN w3 (.slice a1 l1 c1) (n / m)) := h1
  have M3 : Hid (isN w3 (.slice a3 l3 c3) (n % m)) := h2
  have HB9 : Hid (Below w.heap.size w w3) := HBV.out.trans (hb3.mono HBV.out.size)
  have Y0 : Hid (boxAt w3 _ _ _) := Z0.out.on hb3
  have Y1 : Hid (boxAt w3 _ _ _) := Z1.out.on hb3
  have Y2 : Hid (boxAt w3 _ _ _) := Z2.out.on hb3
  have Y3 : Hid (boxAt w3 _ _ _) := Z3.out.on hb3
  clear hb3 Z0 Z1 Z2 Z3 HBV h1 h2 HN HM
  have p0 := Y0.out.cell 0 rfl
  have p1 := Y0.out.cell 1 rfl
  have p2 := Y1.out.cell 0 rfl
  have p3 := Y1.out.cell 1 rfl
  have q0 := Y2.out.cell 0 rfl
  have f0 := Y2.out.frozen 0
  have q1 := Y2.out.cell 1 rfl
  have f1 := Y2.out.frozen 1
  have q2 := Y3.out.cell 0 rfl
  have f2 := Y3.out.frozen 0
  have q3 := Y3.out.cell 1 rfl
  have f3 := Y3.out.frozen 1
  have hlt2 := Y2.out.lt
  have hlt3 := Y3.out.lt
  go_wp2_with fail
  refine Go.wp_mono (Q := fun e a' w' => match e with | .normal => (∃ us : Array Value, a' = { tmps := us, defers := [] } ∧ us[4]? = some (.pointer (some ⟨w.heap.size + 1 + 1, 0, none⟩)) ∧ us[5]? = some (.pointer (some ⟨w.heap.size + 1 + 1 + 1, 0, none⟩))) ∧ ((w'.cell? ⟨w.heap.size + 1 + 1, 0, none⟩ = some (.bool (b != b2)) ∧ w'.cell? ⟨w.heap.size + 1 + 1, 1, none⟩ = some (.slice a1 l1 c1)) ∧ (w'.cell? ⟨w.heap.size + 1 + 1 + 1, 0, none⟩ = some (.bool b) ∧ w'.cell? ⟨w.heap.size + 1 + 1 + 1, 1, none⟩ = some (.slice a3 l3 c3))) ∧ (Hid (isN w' (.slice a1 l1 c1) (n / m)) ∧ Hid (isN w' (.slice a3 l3 c3) (n % m))) ∧ Below w.heap.size w w' | _ => False) ?_ ?_
  · go_region_held3 (fun w' => (w'.cell? ⟨w.heap.size, 0, none⟩ = some (.bool b)) ∧ (w'.cell? ⟨w.heap.size + 1, 0, none⟩ = some (.bool b2)))
      ((repeat' apply And.intro) <;> first | (with_reducible assumption) | ((with_reducible refine keep_drew (keep_set (keep_set ?_ ?_) ?_)) <;> first | omega | assumption) | ((with_reducible refine keep_drew (keep_set (keep_set (keep_set (keep_set ?_ ?_) ?_) ?_) ?_)) <;> first | omega | assumption) | (go_keep; done))
      (fail)
    all_goals
      have ha1 := isN_apart M1.out Y2.out (by decide)
      have ha2 := isN_apart M1.out Y3.out (by decide)
      have ha3 := isN_apart M3.out Y2.out (by decide)
      have ha4 := isN_apart M3.out Y3.out (by decide)
      refine ⟨⟨_, rfl, rfl, rfl⟩, ⟨⟨?_, ?_⟩, ?_, ?_⟩, ⟨isN_set (isN_set (isN_set (isN_set M1.out ha1) ha1) ha2) ha2, isN_set (isN_set (isN_set (isN_set M3.out ha3) ha3) ha4) ha4⟩, ?_⟩
      · rw [bnot_eq]; go_simp
      · go_simp
      · go_simp
      · go_simp
      · (repeat' first | exact HB9.out | refine bel_set0 ?_ ?_ | refine bel_drew0 ?_ | (dsimp only; omega))
  · intro e a' w' hq
    cases e
    case normal =>
      obtain ⟨⟨us, rfl, hus4, hus5⟩, ⟨⟨hv0, hv1⟩, hv2, hv3⟩, ⟨hm1, hm3⟩, hb⟩ := hq
      go_wp2
      simp only [bodyPost]
      refine ⟨trivial, _, ?_, ⟨a1, l1, c1, a3, l3, c3, rfl, hm1, hm3⟩, hb⟩
      simp only [results, Tryd.results26]
      go_simp
    all_goals exact hq.elim

theorem oper_make_own {P : Program} (w : World) {o : Oper} {a : Act} {K : Act → World → Prop} {Q : Exit → Act → World → Prop}
    (l c : Operand) (t : TypeId) (hop : o.op = Op.makeSlice t l c)
    (base : Nat) (e : TypeId) (i : TypeInfo) (z : Value) (size : Nat) (h1 : P.underlying t = some (.slice e)) (h2 : P.info? e = some i) (h3 : i.zero = some z) (h4 : i.size = size)
    (kl kc : IntKind) (C : Int) (n : Nat) (hl : a.eval l = .int kl 0) (hc : a.eval c = .int kc C) (hC : C = (n : Int)) (b2 : i.bytes * n ≤ 281474976710656) (b3 : n ≤ maxLen) (b4 : base ≤ w.heap.size)
    (hK : ∀ w', w'.ownsRow base e size (.slice (some ⟨w.heap.size, 0, none⟩) 0 n) 0 [] → w.grownBy w' none → K (a.put o.dst (.slice (some ⟨w.heap.size, 0, none⟩) 0 n)) w') :
    o.wp P a w K Q := by
  obtain ⟨w', hrun, r1, r2⟩ := run_make_own (P := P) w base t e i z size h1 h2 h3 h4 kl kc n b2 b3 b4
  subst hC
  unfold Oper.wp
  simp [execOp, hop, hl, hc, hrun, Result.andThen]
  exact hK _ r1 r2

set_option maxHeartbeats 1600000 in
theorem numOfWhole_any (b : Bool) (ao : Option Addr) (len cap : Nat) (n k : Nat) (w : World) (hn : isN w (.slice ao len cap) n) (fn : fits n 10000) (hk : k ≤ 1000000) (htab : TB w) :
    Calls Tryd.prog 27 #[.agg #[.bool b, .slice ao len cap], .int .i64 k] w fun e w' => e = .returned (.agg #[.bool (b && decide (n ≠ 0)), .string (decS n), .string ⟨#[49]⟩]) ∧ Below w.heap.size w w' := by
  obtain ⟨i0, hi, hz0, hz1, hz2⟩ := info_parts infoU8
  obtain ⟨S, hS⟩ : ∃ S : ByteArray, S = decS n := ⟨_, rfl⟩
  obtain ⟨c, hc'⟩ : ∃ c, c = (b && decide (n ≠ 0)) := ⟨_, rfl⟩
  rw [← hS, ← hc']
  have HS : Hid (S = decS n) := hS
  obtain ⟨z, hz⟩ : ∃ z, z = signI b n := ⟨_, rfl⟩
  have HZ : Hid (signI b n = z) := hz.symm
  have hzc : decide (z < 0) = c := by
    rw [hc', hz]; unfold signI
    by_cases h0 : n = 0
    · simp [h0]
    · cases b <;> simp [h0]
  clear hS hc' hz
  go_enter Tryd.func27, Tryd.ntmps27
  go_wp2_with fail
  obtain ⟨V, hV, hBV, x0, x1⟩ := boxes2 w #[Value.bool b, Value.slice ao len cap] #[Value.bool false, Value.string ⟨#[]⟩, Value.string ⟨#[]⟩] 44 25
  rw [← hV]
  have hs0 : V.heap.size = w.heap.size + 1 + 1 := by rw [hV]; show ((w.heap.push _).push _).size = _; simp
  have HS0 : Hid (V.heap.size = w.heap.size + 1 + 1) := hs0
  have HBV : Hid (Below w.heap.size w V) := hBV
  have X0 : Hid (boxAt V _ _ _) := x0
  have X1 : Hid (boxAt V _ _ _) := x1
  have HN : Hid (isN V (.slice ao len cap) n) := isN_below hn hBV
  have HT : Hid (TB V) := htab.on hBV
  have k01 := x0.cell 1 rfl
  clear hV hBV x0 x1 hn htab hs0
  refine Go.wp_mono (Q := fun e a' w' => match e with | .normal => (∃ (v' : Value) (l : List UInt8), Hid (Dm.isDec l n) ∧ Hid (w'.ownsRow V.heap.size 5 1 v' l.length (bV l)) ∧ a' = { tmps := #[.agg #[.bool b, .slice ao len cap], .int .i64 k, .pointer (some ⟨w.heap.size, 0, none⟩), undef, .pointer (some ⟨w.heap.size + 1, 0, none⟩), v', .pointer (some ⟨w.heap.size, 1, none⟩), .slice ao len cap, .int .i64 k, .slice (some ⟨V.heap.size, 0, none⟩) 0 k, v', undef, undef, undef, undef, undef, undef], defers := [] }) ∧ Hid (Below V.heap.size V w') | _ => False) ?_ ?_
  · refine wp_region_any (by kernel_rfl) ?_
    change wpAny _ _ _ _ _ _ _ (World.drew _)
    refine wpAny_take (i := 0) (v := .pointer (some ⟨w.heap.size, 1, none⟩)) rfl (by kernel_rfl) (by kernel_rfl) (by kernel_rfl) (fun _ _ _ h => h) (Or.inl ⟨by rfl, ?_⟩) ?_
    · intro wx; go_simp
    refine wpAny_take (i := 2) (v := .int .i64 k) rfl (by kernel_rfl) (by kernel_rfl) (by kernel_rfl) (fun _ _ _ h => h) (Or.inl ⟨by rfl, ?_⟩) ?_
    · intro wx; go_simp
    refine wpAny_ready (rs := [1, 3]) (by kernel_rfl) (by simp) ?_
    refine AllReady.cons rfl (fun K hK => ?_) (AllReady.cons rfl (fun K hK => ?_) AllReady.nil)
    · go_simp
      refine hK _ _ ?_; clear hK K
      refine wpAny_ready (rs := [3]) (by kernel_rfl) (by simp) ?_
      refine AllReady.cons rfl (fun K hK => ?_) AllReady.nil
      refine oper_make_own _ (.const (.int .i64 0)) (.tmp 8) 73 rfl V.heap.size 5 i0 (.int .u8 0) 1 Tryd.underlying73 hi hz0 hz1 .i64 .i64 k k rfl rfl rfl (by rw [hz2]; omega) (by unfold maxLen; omega) (Nat.le_refl _) ?_
      intro w1 hown1 hgr1
      have hb1 : Below V.heap.size V w1 := ((Below.refl _ V).drew).grown hgr1 (Nat.le_refl _) (by intro k hk; cases hk)
      have HO1 : Hid (w1.ownsRow V.heap.size 5 1 (.slice (some ⟨V.heap.size, 0, none⟩) 0 k) 0 []) := hown1
      have HB1 : Hid (Below V.heap.size V w1) := hb1
      have k01 := (X0.out.on hb1).cell 1 rfl
      clear hown1 hgr1 hb1
      refine hK _ _ ?_; clear hK K
      refine wpAny_ready (rs := [4]) (by kernel_rfl) (by simp) ?_
      refine AllReady.cons rfl (fun K hK => ?_) AllReady.nil
      go_simp
      refine (appendDecimal_anyB V.heap.size (some ⟨V.heap.size, 0, none⟩) k _ n w1 (isN_below HN.out HB1.out) fn (HT.out.on HB1.out) HB1.out.size (fun g hg => by obtain ⟨xs, hr, _⟩ := HN.out; exact (World.ownsRow.lt hr g hg).2) HO1.out).mono ?_
      rintro e w2 ⟨⟨v', l, rfl, hd, ho⟩, hb2⟩
      have HO2 : Hid (w2.ownsRow V.heap.size 5 1 v' l.length (bV l)) := ho
      have HD2 : Hid (Dm.isDec l n) := hd
      have HB2 : Hid (Below V.heap.size V w2) := HB1.out.trans hb2
      clear ho hd hb2
      refine hK _ _ ?_; clear hK K
      refine wpAny_ready (rs := [5]) (by kernel_rfl) (by simp) ?_
      refine AllReady.cons rfl (fun K hK => ?_) AllReady.nil
      go_simp
      refine hK _ _ ?_; clear hK K
      refine wpAny_done (by kernel_rfl) ?_ _
      exact ⟨⟨v', l, HD2, HO2, rfl⟩, HB2⟩
    · refine oper_make_own _ (.const (.int .i64 0)) (.tmp 8) 73 rfl V.heap.size 5 i0 (.int .u8 0) 1 Tryd.underlying73 hi hz0 hz1 .i64 .i64 k k rfl rfl rfl (by rw [hz2]; omega) (by unfold maxLen; omega) (Nat.le_refl _) ?_
      intro w1 hown1 hgr1
      have hb1 : Below V.heap.size V w1 := ((Below.refl _ V).drew).grown hgr1 (Nat.le_refl _) (by intro k hk; cases hk)
      have HO1 : Hid (w1.ownsRow V.heap.size 5 1 (.slice (some ⟨V.heap.size, 0, none⟩) 0 k) 0 []) := hown1
      have HB1 : Hid (Below V.heap.size V w1) := hb1
      have k01 := (X0.out.on hb1).cell 1 rfl
      clear hown1 hgr1 hb1
      refine hK _ _ ?_; clear hK K
      refine wpAny_ready (rs := [1]) (by kernel_rfl) (by simp) ?_
      refine AllReady.cons rfl (fun K hK => ?_) AllReady.nil
      go_simp
      refine hK _ _ ?_; clear hK K
      refine wpAny_ready (rs := [4]) (by kernel_rfl) (by simp) ?_
      refine AllReady.cons rfl (fun K hK => ?_) AllReady.nil
      go_simp
      refine (appendDecimal_anyB V.heap.size (some ⟨V.heap.size, 0, none⟩) k _ n w1 (isN_below HN.out HB1.out) fn (HT.out.on HB1.out) HB1.out.size (fun g hg => by obtain ⟨xs, hr, _⟩ := HN.out; exact (World.ownsRow.lt hr g hg).2) HO1.out).mono ?_
      rintro e w2 ⟨⟨v', l, rfl, hd, ho⟩, hb2⟩
      have HO2 : Hid (w2.ownsRow V.heap.size 5 1 v' l.length (bV l)) := ho
      have HD2 : Hid (Dm.isDec l n) := hd
      have HB2 : Hid (Below V.heap.size V w2) := HB1.out.trans hb2
      clear ho hd hb2
      refine hK _ _ ?_; clear hK K
      refine wpAny_ready (rs := [5]) (by kernel_rfl) (by simp) ?_
      refine AllReady.cons rfl (fun K hK => ?_) AllReady.nil
      go_simp
      refine hK _ _ ?_; clear hK K
      refine wpAny_done (by kernel_rfl) ?_ _
      exact ⟨⟨v', l, HD2, HO2, rfl⟩, HB2⟩
  · intro e a' w' hq
    cases e
    case normal =>
      obtain ⟨⟨v', l, hd, ho, rfl⟩, hb⟩ := hq
      have hlp : 0 < l.length := List.length_pos_iff.2 hd.out.1
      obtain ⟨g, gc, rfl, hg, hgs, hc, hcm⟩ := own_some ho.out (by omega)
      have hcv := own_string l rfl ho.out
      have X0' : Hid (boxAt w' _ _ _) := X0.out.on hb.out
      have X1' : Hid (boxAt w' _ _ _) := X1.out.on hb.out
      have HN' : Hid (isN w' (.slice ao len cap) n) := isN_below HN.out hb.out
      have HB' : Hid (Below w.heap.size w w') := HBV.out.trans (hb.out.mono HBV.out.size)
      have hSl : (⟨l.toArray⟩ : ByteArray) = S := by
        rw [HS.out]; exact dec_eq (by show Dm.isDec (l.toArray).toList n; rw [List.toList_toArray]; exact hd.out)
      have HSL : Hid ((⟨l.toArray⟩ : ByteArray) = S) := hSl
      rw [hSl] at hcv
      have HO : Hid (w'.ownsRow V.heap.size 5 1 (.slice (some ⟨g, 0, none⟩) l.length gc) l.length (bV l)) := ho.out
      have k00 := X0'.out.cell 0 rfl
      have k01 := X0'.out.cell 1 rfl
      have k02 := X1'.out.cell 0 rfl
      have k03 := X1'.out.cell 1 rfl
      have k04 := X1'.out.cell 2 rfl
      have g0 := X1'.out.frozen 0
      have g1 := X1'.out.frozen 1
      have g2 := X1'.out.frozen 2
      have hlt1 := X1'.out.lt
      have hcv1 := own_string l rfl HO.out.drew
      rw [HSL.out] at hcv1
      clear hSl hd ho hb X0 X1 HN HBV HT HS
      go_wp2_with fail
      refine Go.wp_mono (Q := fun e a' w'' => match e with | .normal => (∃ us : Array Value, a' = { tmps := us, defers := [] } ∧ us[4]? = some (.pointer (some ⟨w.heap.size + 1, 0, none⟩))) ∧ (w''.cell? ⟨w.heap.size + 1, 0, none⟩ = some (.bool c) ∧ w''.cell? ⟨w.heap.size + 1, 1, none⟩ = some (.string S) ∧ w''.cell? ⟨w.heap.size + 1, 2, none⟩ = some (.string ⟨#[49]⟩)) ∧ Below w.heap.size w w'' | _ => False) ?_ ?_
      · go_region_with (go_at_call 29; refine (sign_w b ao len cap n z _ HZ (isN_below HN'.out (below_drew _))).mono ?_; rintro e w5 ⟨rfl, hb5⟩; have hcv5 := own_string l rfl (own_below HO.out ((below_drew _).trans hb5)); rw [HSL.out] at hcv5; have y0 := X0'.out.drew.on hb5; have y1 := X1'.out.drew.on hb5; have j00 := y0.cell 0 rfl; have j01 := y0.cell 1 rfl; have j02 := y1.cell 0 rfl; have j03 := y1.cell 1 rfl; have j04 := y1.cell 2 rfl; have e0 := y1.frozen 0; have e1 := y1.frozen 1; have e2 := y1.frozen 2; have HB5 : Hid (Below w'.drew.heap.size w'.drew w5) := hb5; clear hb5 y0 y1)
        all_goals
          dsimp only
          refine ⟨⟨_, rfl, rfl⟩, ⟨?_, ?_, ?_⟩, ?_⟩
          · go_simp
          · go_simp
          · go_simp
          · have HBx : Below w.heap.size w w5 := (HB'.out.drew).trans (HB5.out.mono HB'.out.size)
            (repeat' first | exact HBx | refine bel_set0 ?_ ?_ | refine bel_drew0 ?_ | (dsimp only; omega))
      · intro e a' w'' hq
        cases e
        case normal =>
          obtain ⟨⟨us, rfl, hus4⟩, ⟨hv0, hv1, hv2⟩, hb⟩ := hq
          go_wp2
          simp only [bodyPost]
          refine ⟨trivial, _, ?_, rfl, hb⟩
          simp only [results, Tryd.results27]
          go_simp
        all_goals exact hq.elim
    all_goals exact hq.elim

end Go.Proofs.YtaggfbffdbompaaDoor
