/-
  The contract of dividing.
-/
import Derived.Test.YtaggfbffdbompaaDoorOnce
import Derived.Test.YtaggfbffdbompaaDoorRound
namespace Go.Proofs.YtaggfbffdbompaaDoor
set_option maxRecDepth 100000
set_option linter.unusedVariables false
set_option linter.unusedSimpArgs false
open Go.RowKit Go.Shelf

attribute [local go_sem] Oper.semAt_some

theorem div_small (n y : Nat) (h : n < y) : n / y = 0 ∧ n % y = n := ⟨Nat.div_eq_of_lt h, Nat.mod_eq_of_lt h⟩

/-- With both so many times as great the same comes of it. -/

theorem div_scaled (n y s q r : Nat) (hs : 0 < s) (hr : r < y * s) (h : q * (y * s) + r = n * s) : n / y = q ∧ n % y = r / s := by
  have hy : 0 < y := by
    rcases Nat.eq_zero_or_pos y with h0 | h0
    · rw [h0, Nat.zero_mul] at hr; omega
    · exact h0
  have h1 : (n * s) / (y * s) = q := by
    rw [← h, Nat.mul_comm q, Nat.mul_add_div (Nat.mul_pos hy hs), Nat.div_eq_of_lt hr, Nat.add_zero]
  have h2 : (n * s) % (y * s) = r := by
    rw [← h, Nat.mul_comm q, Nat.mul_add_mod, Nat.mod_eq_of_lt hr]
  rw [Nat.mul_div_mul_right _ _ hs] at h1
  rw [Nat.mul_mod_mul_right] at h2
  exact ⟨h1, by rw [← h2, Nat.mul_div_cancel _ hs]⟩

theorem boxed_nc {W W' : World} {row : Option Nat} {b t : Nat} {v : Value} (h : Boxed W b t v) (hg : W.grownBy W' row) (hr : ∀ r, row = some r → ∃ o : Obj, W.heap[r]? = some o ∧ o.isCells = false) : Boxed W' b t v :=
  h.kept hg (fun e => by
    obtain ⟨o, ho, hc⟩ := hr b e.symm
    have : W.heap[b]? = some (.cells #[v] t (0, 0)) := h
    rw [this] at ho
    cases ho
    exact absurd hc (by simp [Obj.isCells]))

theorem own_nc {W W' : World} {row : Option Nat} {base e size n : Nat} {v : Value} {xs : List Value} (h : W.ownsRow base e size v n xs) (hg : W.grownBy W' row) (hr : ∀ r, row = some r → ∃ o : Obj, W.heap[r]? = some o ∧ o.isCells = false) : W'.ownsRow base e size v n xs := by
  refine h.kept hg ?_
  rcases h.2 with ⟨rfl, _⟩ | ⟨g, cap, cur, rfl, _, hgb, _⟩
  · exact .inl rfl
  · refine .inr (fun e => ?_)
    obtain ⟨o, ho, hc⟩ := hr g e.symm
    rw [hgb] at ho
    cases ho
    exact absurd hc (by simp [Obj.isCells])

/-- A store into a box of a slice turns no row of groups. -/

theorem own_ty {W : World} {base n b : Nat} {v u : Value} {xs : List Value} (h : W.ownsRow base 92 1 v n xs) (hb : Boxed W b 42 u) (u' : Value) : (W.setCell ⟨b, 0, none⟩ u').ownsRow base 92 1 v n xs := by
  refine own_other h _ _ (fun e => ?_)
  exact hb.not_row (t := 42) (by decide) h e.symm

/-- 'append(row, rest...)', a row that is owned, and one that is nil or not. -/

theorem wpListIn_append_rest {F : Fence} {n : Nat} {P : Program} (w : World) {ops : Array Oper} {rest : List Oper} {o : Oper} {a : Act} {Q : Exit → Act → World → Prop}
    (hg : o.guard = none) (s x : Operand) (t : TypeId) (hop : o.op = Op.call { callee := Callee.builtin Builtin.append, args := #[s, x], argTypes := #[t, t] })
    (base : Nat) (e : TypeId) (i : TypeInfo) (z : Value) (bytes : Nat) (h1 : P.underlying t = some (.slice e)) (h2 : P.info? e = some i) (h3 : i.zero = some z) (h4 : i.size = 1) (h5 : i.bytes = bytes) (h6 : z.cells.size = 1)
    (v : Value) (k : Nat) (xs : List Value) (hs : a.eval s = v) (hown : w.ownsRow base e 1 v k xs) (rv : Value) (b' m : Nat) (news : List Value) (hx : a.eval x = rv) (hrv : w.ownsRow b' e 1 rv m news)
    (h1c : ∀ u ∈ news, u.oneCell' = true) (b1 : k + m ≤ maxLen) (b2 : (k + m) * bytes ≤ 140737488355328) (b3 : base ≤ w.heap.size)
    (hK : ∀ v' w', w'.ownsRow base e 1 v' (k + m) (xs ++ news) → w.grownBy w' v.ownBlock → wpListIn F n P ops Q rest (a.put o.dst v') w') :
    wpListIn F n P ops Q (o :: rest) a w := by
  rcases own_shape hrv with ⟨rfl, rfl⟩ | ⟨g, cap, rfl, _, _, _, _⟩
  · have hn : news = [] := List.length_eq_zero_iff.1 (by have := hrv.1; omega)
    subst hn
    refine wpListIn_plain hg fun K hK' => ?_
    have hrun := run_append_owned_none (P := P) (w := w) base t o.type e i 1 h1 h2 v k xs hown
    unfold Oper.wpIn
    refine ⟨?_, ?_⟩
    · simp [Oper.about, hop, resolve, Target.leads, Sem.run_pure]
    · rw [Oper.semAt_plain F _ _ (by rw [hop]; intro c hc'; cases hc')]
      simp [execOp, hop, resolve, invoke, builtin, hs, hx, hrun, Result.andThen]
      exact hK' _ _ (hK v w (by rw [List.append_nil]; exact hown) (World.grownBy.refl _ _))
  · refine wpListIn_append_own w hg s x t hop base e i z 1 bytes h1 h2 h3 h4 h5 h6 (by omega) v k xs hs hown ⟨g, 0, none⟩ m cap news hx (by have := hrv.1; omega) (hrv.cells (g := g) rfl) h1c b1 b2 b3 (fun v' w' r1 r2 _ => hK v' w' r1 r2)

/-- What stands between two rounds of divide. -/
def DvInv (w : World) (DB R0 QB RB B : Nat) (xs : List Nat) (dv : Value) (D : Nat) (pre : List (Fin xs.length)) (W : World) : Prop :=
  ∃ (ys : List Nat) (r : Nat) (rv : Value), ys.length = xs.length ∧ r < D ∧ Boxed W DB 42 dv ∧ Boxed W QB 42 (.slice (some ⟨R0, 0, none⟩) xs.length xs.length) ∧ Boxed W RB 42 rv ∧
    isN W rv r ∧ isN W dv D ∧ W.ownsRow R0 92 1 (.slice (some ⟨R0, 0, none⟩) xs.length xs.length) xs.length (u64V ys) ∧
    (pre = dnk xs.length pre.length → Lm.small (ys.drop (xs.length - pre.length)) ∧ Lm.lval (ys.drop (xs.length - pre.length)) * D + r = Lm.lval (xs.drop (xs.length - pre.length))) ∧
    Below w.heap.size w W ∧ B ≤ W.heap.size

theorem isN_nc {W W' : World} {row : Option Nat} {v : Value} {n : Nat} (h : isN W v n) (hg : W.grownBy W' row) (hr : ∀ r, row = some r → ∃ o : Obj, W.heap[r]? = some o ∧ o.isCells = false) : isN W' v n := by
  obtain ⟨xs, h1, h2⟩ := h
  exact ⟨xs, own_nc h1 hg hr, h2⟩

theorem DvInv.own {w : World} {DB R0 QB RB B : Nat} {xs : List Nat} {dv : Value} {D : Nat} (hw : w.heap.size ≤ B) : OwnFrom B (DvInv w DB R0 QB RB B xs dv D) := by
  intro pre W W' row ⟨ys, r, rv, a1, a2, a3, a4, a5, a6, a7, a8, a9, a10, a11⟩ hg hr
  have hr' : ∀ r, row = some r → ∃ o : Obj, W.heap[r]? = some o ∧ o.isCells = false := fun r e => (hr r e).2
  exact ⟨ys, r, rv, a1, a2, boxed_nc a3 hg hr', boxed_nc a4 hg hr', boxed_nc a5 hg hr', isN_nc a6 hg hr', isN_nc a7 hg hr', own_nc a8 hg hr', a9,
    a10.grown hg (by omega) (fun k e => by have := (hr k e).1; omega), Nat.le_trans a11 hg.size⟩

/-- A round of divide, said of the world that it leaves. -/

theorem dv_round {w W w1 w2 w5 : World} {w3s s4 B : Nat} {xs : List Nat} {dv : Value} {D : Nat} {pre : List (Fin xs.length)} {ys : List Nat} {r r2 q : Nat} {v' v3 : Value} (hs4 : w3s + 1 < s4) (hB : B = s4 + 3) (hlx : Lm.small xs) (hD : 0 < D)
    (a1 : ys.length = xs.length) (a2 : r < D)
    (a9 : pre = dnk xs.length pre.length → Lm.small (ys.drop (xs.length - pre.length)) ∧ Lm.lval (ys.drop (xs.length - pre.length)) * D + r = Lm.lval (xs.drop (xs.length - pre.length)))
    (a10 : Below w.heap.size w W) (a11 : B ≤ W.heap.size) (hpre : pre.length < xs.length) (i : Nat) (hi : i < xs.length) (g : Nat) (hg : g = xs[i])
    (k5 : Below W.heap.size W w1) (hw2 : w2 = w1.setCell ⟨s4 + 1, 0, none⟩ v') (uD : Boxed w2 w3s 42 dv) (uQ : Boxed w2 s4 42 (.slice (some ⟨w3s + 1, 0, none⟩) xs.length xs.length)) (u5 : Boxed w2 (s4 + 1) 42 v')
    (o2 : w2.ownsRow (w3s + 1) 92 1 (.slice (some ⟨w3s + 1, 0, none⟩) xs.length xs.length) xs.length (u64V ys)) (nD : isN w2 dv D) (hb5 : Below w2.heap.size w2 w5)
    (hr2 : r2 = g + 1000000000 * r) (hlt : r2 < D * 1000000000) (hq : q = r2 / D) (hv5 : isN w5 v3 (r2 % D)) (hob : ∀ k, v3.ownBlock = some k → k ≠ w3s + 1) (hw3 : w.heap.size ≤ w3s) (hDb : ∀ k, dv.ownBlock = some k → k ≠ w3s + 1) :
    KeepsFrom B W ((w5.setCell ⟨w3s + 1, i, none⟩ (.int .u64 (q : Nat))).setCell ⟨s4 + 1, 0, none⟩ v3) ∧
    KpB w3s (s4 + 1 + 1) W ((w5.setCell ⟨w3s + 1, i, none⟩ (.int .u64 (q : Nat))).setCell ⟨s4 + 1, 0, none⟩ v3) ∧
    DvInv w w3s (w3s + 1) s4 (s4 + 1) B xs dv D (pre ++ [⟨i, hi⟩]) ((w5.setCell ⟨w3s + 1, i, none⟩ (.int .u64 (q : Nat))).setCell ⟨s4 + 1, 0, none⟩ v3) := by
  have hg9 : g < 1000000000 := by rw [hg]; exact hlx _ (List.getElem_mem _)
  have hq9 : q < 1000000000 := by rw [hq]; exact Nat.div_lt_of_lt_mul hlt
  have hdm : r * 1000000000 + g = q * D + r2 % D := by
    have := Nat.div_add_mod r2 D
    rw [← hq, Nat.mul_comm D q] at this
    omega
  have z1 := k5.size
  have z2 : w2.heap.size = w1.heap.size := by rw [hw2, World.size_setCell]
  have z5 := hb5.size
  have kf : KeepsFrom B W ((w5.setCell ⟨w3s + 1, i, none⟩ (.int .u64 (q : Nat))).setCell ⟨s4 + 1, 0, none⟩ v3) := by
    refine (keepsFrom_below k5).trans (KeepsFrom.trans ?_ ((keepsFrom_below hb5).trans ?_))
    · rw [hw2]; exact (KeepsOthers.setCell _ _ _).from _
    · exact ((KeepsOthers.setCell _ _ _).trans (KeepsOthers.setCell _ _ _)).from _
  have bl : Below w3s W ((w5.setCell ⟨w3s + 1, i, none⟩ (.int .u64 (q : Nat))).setCell ⟨s4 + 1, 0, none⟩ v3) := by
    have h1 : Below w3s W w1 := k5.mono (by omega)
    have h2 : Below w3s W w2 := by rw [hw2]; exact h1.setCell (p := ⟨s4 + 1, 0, none⟩) (by simp; omega) _
    have h3 : Below w3s W w5 := h2.trans (hb5.mono (by omega))
    exact (h3.setCell (p := ⟨w3s + 1, i, none⟩) (by simp) _).setCell (p := ⟨s4 + 1, 0, none⟩) (by simp; omega) _
  have bs : ((w5.setCell ⟨w3s + 1, i, none⟩ (.int .u64 (q : Nat))).setCell ⟨s4 + 1, 0, none⟩ v3).heap[s4 + 1 + 1]? = W.heap[s4 + 1 + 1]? := by
    refine (Below.heap_setCell _ ⟨s4 + 1, 0, none⟩ _ (s4 + 1 + 1) (by simp)).trans ?_
    refine (Below.heap_setCell _ ⟨w3s + 1, i, none⟩ _ (s4 + 1 + 1) (by simp; omega)).trans ?_
    refine (hb5.block (s4 + 1 + 1) (by omega)).trans ?_
    rw [hw2]
    exact (Below.heap_setCell _ ⟨s4 + 1, 0, none⟩ _ (s4 + 1 + 1) (by simp)).trans (k5.block (s4 + 1 + 1) (by omega))
  have eD := boxed_below uD hb5 uD.lt
  have eQ := boxed_below uQ hb5 uQ.lt
  have eR := boxed_below u5 hb5 u5.lt
  have oR := (own_below o2 hb5).stored i (.int .u64 (q : Nat))
  rw [u64V_set] at oR
  have eR2 : Boxed (w5.setCell ⟨w3s + 1, i, none⟩ (.int .u64 (q : Nat))) (s4 + 1) 42 v' := boxed_other eR (by simp; omega)
  have n3 : isN ((w5.setCell ⟨w3s + 1, i, none⟩ (.int .u64 (q : Nat))).setCell ⟨s4 + 1, 0, none⟩ v3) v3 (r2 % D) := by
    obtain ⟨ps, h1, h2⟩ := hv5
    exact ⟨ps, own_ty (own_other h1 _ _ (fun e => hob _ e (by simp))) eR2 _, h2⟩
  have nD2 : isN ((w5.setCell ⟨w3s + 1, i, none⟩ (.int .u64 (q : Nat))).setCell ⟨s4 + 1, 0, none⟩ v3) dv D := by
    obtain ⟨ps, h1, h2⟩ := isN_below nD hb5
    exact ⟨ps, own_ty (own_other h1 _ _ (fun e => hDb _ e (by simp))) eR2 _, h2⟩
  refine ⟨kf, ⟨bl, bs⟩, ys.set i q, r2 % D, v3, by simpa using a1, Nat.mod_lt _ hD, boxed_other (boxed_other eD (by simp)) (by simp; omega), boxed_other (boxed_other eQ (by simp; omega)) (by simp), eR2.set _, n3, nD2, own_ty oR.1 eR2 _, ?_, a10.trans (bl.mono hw3), ?_⟩
  · intro hp
    obtain ⟨hp1, hp2⟩ := dnk_snoc hp hpre
    dsimp only at hp2
    obtain ⟨c1, c2⟩ := a9 hp1
    have e1 : xs.length - (pre ++ [(⟨i, hi⟩ : Fin xs.length)]).length = i := by simp; omega
    have e2 : xs.length - pre.length = i + 1 := by omega
    rw [e2] at c1 c2
    rw [e1]
    have d1 : (ys.set i q).drop i = q :: ys.drop (i + 1) := by
      rw [List.drop_eq_getElem_cons (by simpa using (by omega : i < ys.length)), List.drop_set_of_lt (by omega)]
      simp
    rw [d1, List.drop_eq_getElem_cons hi, ← hg]
    refine ⟨?_, ?_⟩
    · intro z hz
      rcases List.mem_cons.1 hz with h | h
      · rw [h]; exact hq9
      · exact c1 z h
    · simp only [Lm.lval]
      exact divW_step _ _ _ _ _ _ _ c2 hdm
  · rw [World.size_setCell, World.size_setCell]; omega

set_option maxRecDepth 100000 in
set_option maxHeartbeats 4000000 in
theorem divide_any (v u : Value) (n y : Nat) (w : World) (hv : isN w v n) (hu : isN w u y) (hy : 0 < y) (hL : fits n 8000) (hM : fits y 8000) :
    Calls Tryd.prog 50 #[v, u] w fun e w' => (∃ (v1 v2 : Value), e = .returned (.tuple #[v1, v2]) ∧ isN w' v1 (n / y) ∧ isN w' v2 (n % y)) ∧ Below w.heap.size w w' := by
  obtain ⟨i0, hi, hz0, hz1, hz2⟩ := info_parts infoU64
  have HV : Hid (isN w v n) := hv
  have HU : Hid (isN w u y) := hu
  obtain ⟨zs, hq, hm⟩ := hu
  have hzne := Lm.isNat_pos_ne zs y hm (by omega)
  obtain ⟨g2, cap2, rfl, hg2, hc2, hcm2⟩ := rowN_some hq hzne
  have hlz := List.length_pos_iff.2 hzne
  have hlz2 := Lm.isNat_length zs y 8000 hm hM.out
  by_cases h1 : zs.length = 1
  · have c0 := rowN_cell hq rfl 0 (by omega)
    have hy1 : y = zs[0] := by
      match zs, h1 with
      | [a], _ => have := hm.1; simpa [Lm.lval] using this.symm
    rw [← hy1] at c0
    have hy9 : y < 1000000000 := by rw [hy1]; exact hm.2.1 _ (List.getElem_mem _)
    have hb1 : ((zs.length : Int) == 1) = true := by rw [beq_iff_eq]; omega
    clear hv hq hm hzne hy1 h1
    go_enter Tryd.func50, Tryd.ntmps50
    go_wp2_with fail
    refine (divideWord_f v n y _ HV.out hy (by omega) (hL.mono (Nat.le_refl _) (by omega))).mono ?_
    rintro e w1 ⟨⟨v1, r, rfl, hr, hv1⟩, hb⟩
    have HV1 : Hid (isN w1 v1 (n / y)) := hv1
    have hr9 : r ≤ 10000000000000000000 := by rw [hr.out]; have := Nat.mod_lt n hy; omega
    clear hv1
    go_wp2_with fail
    refine (natOfWord_any r _ hr9).mono ?_
    rintro e w2 ⟨⟨v2, rfl, hv2⟩, hb2⟩
    rw [hr.out] at hv2
    have HV2 : Hid (isN w2 v2 (n % y)) := hv2
    have HV3 : Hid (isN w2 v1 (n / y)) := isN_below HV1.out hb2
    have hb3 := hb.trans (hb2.mono hb.size)
    clear hv2 hr
    go_wp2
    go_ret2
    exact ⟨⟨v1, v2, rfl, HV3.out, HV2.out⟩, hb3⟩
  · have hb1 : ((zs.length : Int) == 1) = false := beq_eq_false_iff_ne.2 (by omega)
    by_cases h2 : n < y
    · have hds := div_small n y h2
      have HDS : Hid (n / y = 0 ∧ n % y = n) := hds
      have hH2 : Hid (n < y) := h2
      clear hv hq hm hzne h1 hds h2
      go_enter Tryd.func50, Tryd.ntmps50
      go_wp2_with fail
      refine (compare_f v _ n y _ HV.out HU.out (hL.mono (Nat.le_refl _) (by omega)) (hM.mono (Nat.le_refl _) (by omega))).mono ?_
      rintro e w1 ⟨⟨c, rfl, hc, hc1, hc2⟩, hb⟩
      have hc0 : c < 0 := by rw [hc.out, cmpI_lt hH2.out]; omega
      have HV3 : Hid (isN w1 v n) := isN_below HV.out hb
      clear hc
      go_wp2
      go_ret2
      exact ⟨⟨_, v, rfl, by rw [HDS.out.1]; exact ⟨[], World.ownsRow_nil _ _ _ _, Lm.isNat_nil⟩, by rw [HDS.out.2]; exact HV3.out⟩, hb⟩
    · have hlt1 : 1 < zs.length := by omega
      obtain ⟨zt, hz⟩ : ∃ zt, zt = zs[zs.length - 1]'(by omega) := ⟨_, rfl⟩
      have cz := rowN_cell hq rfl (zs.length - 1) (by omega)
      rw [← hz] at cz
      have hz9 : zt < 1000000000 := by rw [hz]; exact hm.2.1 _ (List.getElem_mem _)
      have hzp : 0 < zt := by
        have h3 := hm.2.2
        rw [List.getLast?_eq_getElem?, List.getElem?_eq_getElem (by omega)] at h3
        have : zt ≠ 0 := fun e => h3 (by rw [← hz, e])
        omega
      obtain ⟨s, hs⟩ : ∃ s, s = 1000000000 / (zt + 1) := ⟨_, rfl⟩
      have hsp : 0 < s := by rw [hs]; exact Nat.div_pos (by omega) (by omega)
      have hs9 : s < 1000000000 := by rw [hs]; exact Nat.div_lt_self (by omega) (by omega)
      have hsi : (1000000000 : Int) / ((zt : Int) + 1) = (s : Int) := by rw [hs]; simp
      have hH2 : Hid (y ≤ n) := by show _ ≤ _; omega
      clear hv hq hm hzne h1 hs hz h2
      refine (callsIn_wide (n := 9)).1 ?_
      refine callsIn_of_wp_marks Tryd.func50 rfl trivial ?_ rfl
      simp only [Tryd.ntmps50, List.size_toArray, List.length_cons, List.length_nil, Nat.reduceAdd, Nat.reduceSub, Array.replicate_succ, Array.replicate_zero, List.push_toArray, List.append_toArray, List.nil_append, List.cons_append]
      gi_wp2_with fail
      refine ⟨trivial, (callsIn_wide.2 (compare_f v _ n y _ HV.out HU.out (hL.mono (Nat.le_refl _) (by omega)) (hM.mono (Nat.le_refl _) (by omega)))).mono ?_⟩
      rintro e w1 ⟨⟨c, rfl, hc, hc1, hc2⟩, hb⟩
      have hc0 : ¬ c < 0 := by rw [hc.out]; have := cmpI_nonneg hH2.out; omega
      have HV1 : Hid (isN w1 v n) := isN_below HV.out hb
      have HU1 : Hid (isN w1 _ y) := isN_below HU.out hb
      have cz1 := (hb.cell (p := ⟨g2, zs.length - 1, none⟩) hg2).trans cz
      have hBs1 := hb.size
      clear hc cz
      gi_wp2_with fail
      refine ⟨trivial, (callsIn_wide.2 (timesPlus_i v n (s : Int) 0 _ HV1.out (by omega) (by omega) (by omega) (by omega) (hL.mono (Nat.le_refl _) (by omega)))).mono ?_⟩
      rintro e w2 ⟨⟨sv, rfl, hsv⟩, hb2⟩
      have HS2 : Hid (isN w2 sv (n * s)) := by
        have e : n * (s : Int).toNat + (0 : Int).toNat = n * s := by simp
        show isN w2 sv (n * s)
        rw [← e]; exact hsv
      have HU2 : Hid (isN w2 _ y) := isN_below HU1.out hb2
      have hb2' := hb.trans (hb2.mono hBs1)
      have hBs2 := hb2'.size
      clear hsv hb2
      gi_wp2_with fail
      refine ⟨trivial, (callsIn_wide.2 (timesPlus_i _ y (s : Int) 0 _ HU2.out (by omega) (by omega) (by omega) (by omega) (hM.mono (Nat.le_refl _) (by omega)))).mono ?_⟩
      rintro e w3 ⟨⟨dv, rfl, hdv⟩, hb3⟩
      have HD3 : Hid (isN w3 dv (y * s)) := by
        have e : y * (s : Int).toNat + (0 : Int).toNat = y * s := by simp
        show isN w3 dv (y * s)
        rw [← e]; exact hdv
      have HS3 : Hid (isN w3 sv (n * s)) := isN_below HS2.out hb3
      have hb3' := hb2'.trans (hb3.mono hBs2)
      have hBs3 := hb3'.size
      clear hdv hb3
      obtain ⟨xs, hxr, hxn⟩ := HS3.out
      have hF : fits (n * s) 8001 := hL.mul (by omega)
      have hlx := Lm.isNat_length xs (n * s) 8001 hxn hF.out
      obtain ⟨ao, cap, rfl, hao⟩ := rowN_open hxr
      obtain ⟨ds, hdr, hdn⟩ := HD3.out
      obtain ⟨ao2, cap3, rfl, hao2⟩ := rowN_open hdr
      have HXR : Hid (rowN w3 (.slice ao xs.length cap) xs) := hxr
      have HXN : Hid (Lm.isNat xs (n * s)) := hxn
      clear hxr hxn hdr hdn hao hao2
      gi_wp2_with (gi_at_make; refine wpListIn_make_full (w3.alloc (.cells #[.slice ao2 ds.length cap3] 42)) rfl _ _ 42 rfl (w3.heap.size + 1) 92 i0 (.int .u64 0) 1 Tryd.underlying42 hi hz0 hz1 .i64 .i64 xs.length xs.length xs.length rfl rfl rfl rfl (by rw [hz2]; omega) (by unfold maxLen; omega) (by simp) ?_)
      intro w4 hown4 hgr4
      rw [toList_madeCells_one] at hown4
      have hb4 : Below w3.heap.size w3 w4 := ((Below.refl _ w3).alloc (Nat.le_refl _) _).grown hgr4 (by simp) (by intro k hk; cases hk)
      have hs4 : w3.heap.size + 1 < w4.heap.size := (hown4.lt (w3.heap.size + 1) rfl).2
      have hcd : Boxed w4 w3.heap.size 42 (.slice ao2 ds.length cap3) := (Boxed.new w3 42 (.slice ao2 ds.length cap3)).kept hgr4 (by simp)
      have HX4 : Hid (rowN w4 (.slice ao xs.length cap) xs) := rowN_below HXR.out hb4
      have HD4 : Hid (isN w4 (.slice ao2 ds.length cap3) (y * s)) := isN_below HD3.out hb4
      have HDB : Hid (∀ k, (Value.slice ao2 ds.length cap3).ownBlock = some k → k ≠ w3.heap.size + 1) := by
        obtain ⟨ps, h1, _⟩ := HD3.out
        intro k hk
        have := (World.ownsRow.lt h1 k hk).2; omega
      have hlt4 : ∀ g, (Value.slice ao xs.length cap).ownBlock = some g → g < w3.heap.size := fun g hg => (World.ownsRow.lt HXR.out g hg).2
      clear hgr4
      gi_wp2_with fail
      refine ⟨trivial, (back_in Fence.wide 8 trivial rfl _ _ ⟨_, _, _, rfl⟩).mono ?_⟩
      rintro e w' ⟨rfl, rfl⟩
      gi_wp2_with fail
      have q1 := Boxed.new w4 42 (.slice (some ⟨w3.heap.size + 1, 0, none⟩) xs.length xs.length)
      have r1 := Boxed.new (w4.alloc (Obj.cells #[Value.slice (some { block := w3.heap.size + 1, off := 0 }) xs.length xs.length] 42)) 42 (.slice none 0 0)
      have s1 := Boxed.new ((w4.alloc (Obj.cells #[Value.slice (some { block := w3.heap.size + 1, off := 0 }) xs.length xs.length] 42)).alloc (Obj.cells #[Value.slice none 0 0] 42)) 42 (.slice ao xs.length cap)
      have q3 := (q1.alloc (Obj.cells #[Value.slice none 0 0] 42)).alloc (Obj.cells #[Value.slice ao xs.length cap] 42)
      have r3 := r1.alloc (Obj.cells #[Value.slice ao xs.length cap] 42)
      have d3 := ((hcd.alloc (Obj.cells #[Value.slice (some { block := w3.heap.size + 1, off := 0 }) xs.length xs.length] 42)).alloc (Obj.cells #[Value.slice none 0 0] 42)).alloc (Obj.cells #[Value.slice ao xs.length cap] 42)
      have o3 := ((hown4.alloc (Obj.cells #[Value.slice (some { block := w3.heap.size + 1, off := 0 }) xs.length xs.length] 42)).alloc (Obj.cells #[Value.slice none 0 0] 42)).alloc (Obj.cells #[Value.slice ao xs.length cap] 42)
      have b3 := (((Below.refl w4.heap.size w4).alloc (Nat.le_refl _) (Obj.cells #[Value.slice (some { block := w3.heap.size + 1, off := 0 }) xs.length xs.length] 42)).alloc (by simp) (Obj.cells #[Value.slice none 0 0] 42)).alloc (by simp; omega) (Obj.cells #[Value.slice ao xs.length cap] 42)
      have hsz : (((w4.alloc (Obj.cells #[Value.slice (some { block := w3.heap.size + 1, off := 0 }) xs.length xs.length] 42)).alloc (Obj.cells #[Value.slice none 0 0] 42)).alloc (Obj.cells #[Value.slice ao xs.length cap] 42)).heap.size = w4.heap.size + 3 := by simp
      simp only [World.size_alloc] at r1 r3 s1
      generalize ((w4.alloc (Obj.cells #[Value.slice (some { block := w3.heap.size + 1, off := 0 }) xs.length xs.length] 42)).alloc (Obj.cells #[Value.slice none 0 0] 42)).alloc (Obj.cells #[Value.slice ao xs.length cap] 42) = L at *
      have hxL := rowN_below HX4.out b3
      have hdL := isN_below HD4.out b3
      have hbL : Below w.heap.size w L := (hb3'.trans (hb4.mono hBs3)).trans (b3.mono (by omega))
      clear q1 r1 hown4 hcd hb4
      refine wpIn_rangeFunc_ownG rfl (by omega) (gf := 95) (lb := #[.pointer (some ⟨w4.heap.size + 1 + 1, 0, none⟩)]) rfl trivial (enters_of Tryd.func95 (by kernel_rfl) rfl)
        (back_stops Fence.wide 8 trivial rfl (by omega) (w4.heap.size + 1 + 1) w3.heap.size (.slice ao xs.length cap) xs (by omega) L (by omega) (by omega) s1.cell hxL hlt4) KpB.trans (KpB_b (by omega) (by omega)) (Below.refl _ _) (fun _ => rfl)
        (DvInv w w3.heap.size (w3.heap.size + 1) w4.heap.size (w4.heap.size + 1) L.heap.size xs (.slice ao2 ds.length cap3) (y * s))
        (fun _ _ _ => False)
        (DvInv.own (by omega))
        (fun _ _ _ _ _ hs _ _ => hs)
        ⟨List.replicate xs.length 0, 0, .slice none 0 0, by simp, Nat.mul_pos hy hsp, d3, q3, r3, ⟨[], World.ownsRow_nil _ _ _ _, Lm.isNat_nil⟩, hdL, by simpa [u64V] using o3, fun _ => by simp [Lm.lval, Lm.small_nil], hbL, Nat.le_refl _⟩
        (fun x => { tmps := #[v, .slice (some ⟨g2, 0, none⟩) zs.length cap2, undef, undef, .slice none 0 0, .slice none 0 0, undef, undef, .int .u64 s, .slice ao xs.length cap, .pointer (some ⟨w3.heap.size, 0, none⟩), .pointer (some ⟨w4.heap.size, 0, none⟩), .pointer (some ⟨w4.heap.size + 1, 0, none⟩), .int .i64 (x.1 : Nat), .int .u64 (xs[x.1]'x.2 : Nat), undef, undef,
          .slice (some ⟨g2, 0, none⟩) zs.length cap2, .int .i64 zs.length, .bool false, undef, undef, undef, undef, undef, undef, undef, undef, undef, undef, undef, v, .slice (some ⟨g2, 0, none⟩) zs.length cap2, .int .i64 c, .bool (decide (c < 0)), undef, .slice (some ⟨g2, 0, none⟩) zs.length cap2, .slice (some ⟨g2, 0, none⟩) zs.length cap2, .int .i64 zs.length, .int .i64 ((zs.length : Int) - 1), .pointer (some ⟨g2, zs.length - 1, none⟩),
          .int .u64 zt, .int .u64 ((zt : Int) + 1), .int .u64 s, v, .int .u64 s, .slice ao xs.length cap, .slice (some ⟨g2, 0, none⟩) zs.length cap2, .int .u64 s, .slice ao2 ds.length cap3, .slice ao xs.length cap, .int .i64 xs.length, .slice (some ⟨w3.heap.size + 1, 0, none⟩) xs.length xs.length, .slice ao xs.length cap, .func (.func 95) #[] #[.pointer (some ⟨w4.heap.size + 1 + 1, 0, none⟩)], .int .i64 (x.1 : Nat), .int .u64 (xs[x.1]'x.2 : Nat),
          undef, undef, undef, undef, undef, undef, undef, undef, undef, undef, undef, undef, undef, undef, undef, undef, undef, undef, undef, undef, undef, undef, undef], defers := [] }) ?assign ?body ?done ?stop
      case assign =>
        intro l x W K hK
        simp only [encG]
        gi_wp2
        exact hK
      case body =>
        rintro l pre x W ⟨ys, r, rv, a1, a2, a3, a4, a5, a6, a7, a8, a9, a10, a11⟩ hpre
        obtain ⟨i, hi'⟩ := x
        dsimp only
        obtain ⟨g, hg⟩ : ∃ g, g = xs[i] := ⟨_, rfl⟩
        have hg9 : g < 1000000000 := by rw [hg]; exact HXN.out.2.1 _ (List.getElem_mem _)
        rw [← hg]
        obtain ⟨rs, hrr, hrn⟩ := a6
        have hFD : fits (y * s) 8001 := hM.mul (by omega)
        have hFr : fits r 8001 := hFD.mono (Nat.le_of_lt a2) (Nat.le_refl _)
        have hlr := Lm.isNat_length rs r 8001 hrn hFr.out
        obtain ⟨aor, capr, rfl, haor⟩ := rowN_open hrr
        have A1 : Hid (ys.length = xs.length) := a1
        have A2 : Hid (r < y * s) := a2
        have A7 : Hid (isN W (.slice ao2 ds.length cap3) (y * s)) := a7
        have A9 : Hid _ := a9
        have HG : Hid (g = xs[i]) := hg
        have HRN : Hid (Lm.isNat rs r) := hrn
        have lD := a3.lt
        have lQ := a4.lt
        have lR := a5.lt
        have c5 := (a5.alloc (.cells #[.int .u64 g] 92)).cell
        clear a1 a2 a7 a9 hg hrn q3 r3 d3 o3 b3 hxL hdL hbL s1 cz1
        gi_wp2_with (gi_at_builtin; refine wpListIn_append_rest _ rfl _ _ 42 rfl W.heap.size 92 i0 (.int .u64 0) 8 Tryd.underlying42 hi hz0 hz1 hz2 rfl (.slice (some ⟨W.heap.size, 0, none⟩) 1 1) 1 [.int .u64 g] rfl (World.ownsRow_lit W #[.int .u64 g] 1 (Nat.le_refl _) (by unfold maxLen; omega) rfl) (.slice aor rs.length capr) 0 rs.length (u64V rs) rfl (World.ownsRow.alloc hrr _) (u64V_one rs) (by unfold maxLen; omega) (by omega) (by simp) ?_)
        intro cv w5 hown5 hgr5
        have b5 : Boxed w5 (w4.heap.size + 1) 42 _ := (a5.alloc _).kept hgr5 (by simp [Value.ownBlock]; omega)
        have bQ : Boxed w5 w4.heap.size 42 _ := (a4.alloc _).kept hgr5 (by simp [Value.ownBlock]; omega)
        have bD : Boxed w5 w3.heap.size 42 _ := (a3.alloc _).kept hgr5 (by simp [Value.ownBlock]; omega)
        have k5 : Below W.heap.size W w5 := ((Below.refl _ W).alloc (Nat.le_refl _) _).grown hgr5 (by simp) (by intro k hk; simp [Value.ownBlock] at hk; omega)
        have hrow5 : rowN w5 cv (g :: rs) := by
          have := own_base hown5 (Nat.zero_le _)
          unfold rowN
          rw [List.length_cons, Nat.add_comm]
          exact this
        have hsm : Lm.small (g :: rs) := by
          intro z hz
          rcases List.mem_cons.1 hz with h | h
          · rw [h]; exact hg9
          · exact HRN.out.2.1 z h
        have hl5 : (g :: rs).length ≤ 1000000 := by rw [List.length_cons]; omega
        have HROW : Hid (rowN w5 cv (g :: rs)) := hrow5
        have HCV : Hid (∀ k, cv.ownBlock = some k → W.heap.size ≤ k) := fun k hk => (hown5.lt k hk).1
        have HSM : Hid (Lm.small (g :: rs)) := hsm
        have HL5 : Hid ((g :: rs).length ≤ 1000000) := hl5
        clear hown5 hgr5 hrow5 hsm hl5 c5
        gi_wp2_with fail
        refine ⟨trivial, (CallsIn.inRound l (callsIn_wide.2 (trim_at cv (g :: rs) _ HROW.out HSM.out HL5.out))).mono ?_⟩
        rintro e w' ⟨⟨v', rfl, hv', hob⟩, rfl⟩
        have e2 : Lm.lval (g :: rs) = g + 1000000000 * r := by simp only [Lm.lval]; rw [HRN.out.1]
        rw [e2] at hv'
        obtain ⟨r2, hr2⟩ : ∃ r2, r2 = g + 1000000000 * r := ⟨_, rfl⟩
        rw [← hr2] at hv'
        have HR2 : Hid (r2 = g + 1000000000 * r) := hr2
        have hlt2 : r2 < y * s * 1000000000 := by have := A2.out; omega
        have HLT : Hid (r2 < y * s * 1000000000) := hlt2
        obtain ⟨ts, ht, htn⟩ := hv'
        obtain ⟨ao5, cap5, rfl, hao5⟩ := rowN_open ht
        have HOB : Hid (∀ k, (Value.slice ao5 ts.length cap5).ownBlock = some k → W.heap.size ≤ k) := fun k hk => HCV.out k (hob.out k hk)
        clear hob
        have HV' : Hid (isN w' (.slice ao5 ts.length cap5) r2) := ⟨ts, ht, htn⟩
        have c5 := b5.cell
        have f5 := b5.frozen
        clear e2 hr2 ht htn hao5 hlt2
        gi_wp2
        obtain ⟨w2, hw2⟩ : ∃ w2, w2 = w'.setCell ⟨w4.heap.size + 1, 0, none⟩ (.slice ao5 ts.length cap5) := ⟨_, rfl⟩
        rw [← hw2]
        have u5 : Boxed w2 (w4.heap.size + 1) 42 (.slice ao5 ts.length cap5) := by rw [hw2]; exact b5.set _
        have uQ : Boxed w2 w4.heap.size 42 (.slice (some ⟨w3.heap.size + 1, 0, none⟩) xs.length xs.length) := by rw [hw2]; exact boxed_other bQ (by simp)
        have uD : Boxed w2 w3.heap.size 42 (.slice ao2 ds.length cap3) := by rw [hw2]; exact boxed_other bD (by simp; omega)
        have sz2 : w'.heap.size = w2.heap.size := by rw [hw2, World.size_setCell]
        have kw : Below (w4.heap.size + 1) w' w2 := by rw [hw2]; exact (Below.refl _ _).setCell (p := ⟨w4.heap.size + 1, 0, none⟩) (Nat.le_refl _) _
        have hHW2 : Hid (w2 = w'.setCell ⟨w4.heap.size + 1, 0, none⟩ (.slice ao5 ts.length cap5)) := hw2
        have n5 : Hid (isN w2 (.slice ao5 ts.length cap5) r2) := by
          obtain ⟨ps, h1, h2⟩ := HV'.out
          refine ⟨ps, ?_, h2⟩
          rw [hw2]; exact own_ty h1 b5 _
        have nD : Hid (isN w2 (.slice ao2 ds.length cap3) (y * s)) := by
          obtain ⟨ps, h1, h2⟩ := isN_below A7.out k5
          refine ⟨ps, ?_, h2⟩
          rw [hw2]; exact own_ty h1 b5 _
        have o2 : Hid (w2.ownsRow (w3.heap.size + 1) 92 1 (.slice (some ⟨w3.heap.size + 1, 0, none⟩) xs.length xs.length) xs.length (u64V ys)) := by
          have h1 := own_below a8 k5
          show World.ownsRow _ _ _ _ _ _ _
          rw [hw2]; exact own_ty h1 b5 _
        have FR2 : fits r2 9000 := (hFD.mul (t := 1000000000) (Nat.le_refl _)).mono (Nat.le_of_lt HLT.out) (by omega)
        have FD2 : fits (y * s) 9000 := hFD.mono (Nat.le_refl _) (by omega)
        have hDp : 0 < y * s := Nat.mul_pos hy hsp
        have HDP : Hid (0 < y * s) := hDp
        have cQ := uQ.cell
        have cD := uD.cell
        have cR := u5.cell
        have f2 := u5.frozen
        have lt2Q := uQ.lt
        have lt2R := u5.lt
        clear hw2 b5 bQ bD c5 f5 hDp
        refine Go.wpIn_mono (Q := fun e a' w' => match e with | .normal => ∃ (w5 : World) (q : Nat) (v3 : Value), Below w2.heap.size w2 w5 ∧ Hid (q = r2 / (y * s)) ∧ Hid (isN w5 v3 (r2 % (y * s))) ∧ Hid (∀ k, v3.ownBlock = some k → k ≠ w3.heap.size + 1) ∧ w' = (w5.setCell ⟨w3.heap.size + 1, i, none⟩ (.int .u64 q)).setCell ⟨w4.heap.size + 1, 0, none⟩ v3 | _ => False) ?_ ?_
        · refine wpIn_region_any (by kernel_rfl) ?_
          change wpAnyIn _ _ _ _ _ _ _ _ _ (World.drew _)
          refine wpAnyIn_round rfl (by kernel_rfl) _ _ _ _ ?_
          have HSZ : Hid (w3.heap.size + 1 < W.heap.size ∧ W.heap.size ≤ w2.heap.size) := ⟨by omega, by rw [← sz2]; exact k5.size⟩
          have HS4 : Hid (w3.heap.size + 1 < w4.heap.size) := hs4
          clear A9 a10 a11 a8 HRN HSM HROW HL5 kw hHW2 k5 hrr haor a3 a4 a5 HX4 HD4 HXR HXN HD3 HS3 HS2 HU2 HU1 HV1 HU HV hlt4 hs4
          refine wpAnyIn_take (i := 1) (v := .int .i64 (i : Nat)) rfl rfl (by kernel_rfl) (by kernel_rfl) (by kernel_rfl) (fun _ _ _ h => h) ⟨Or.inl ⟨by rfl, ?_⟩, fun _ => rfl⟩ ?_
          · intro wx; go_simp
          refine wpAnyIn_ready (rs := [0, 2, 3]) (by kernel_rfl) (by simp) ?_
          refine AllReadyIn.cons rfl (fun K hK => ?_) ?_
          · go_simp
            refine hK _ _ ?_; clear hK K
            refine wpAnyIn_ready (rs := [2, 3]) (by kernel_rfl) (by simp) ?_
            refine AllReadyIn.cons rfl (fun K hK => ?_) ?_
            · go_simp
              refine hK _ _ ?_; clear hK K
              refine wpAnyIn_ready (rs := [3]) (by kernel_rfl) (by simp) ?_
              refine AllReadyIn.cons rfl (fun K hK => ?_) ?_
              · go_simp
                refine hK _ _ ?_; clear hK K
                refine wpAnyIn_ready (rs := [4]) (by kernel_rfl) (by simp) ?_
                refine AllReadyIn.cons rfl (fun K hK => ?_) ?_
                · go_simp
                  refine ⟨trivial, (callsIn_wide.2 (divideOnce_any _ _ r2 (y * s) _ (by exact n5.out) (by exact nD.out) HDP.out HLT.out FD2)).mono ?_⟩
                  rintro e w5 ⟨⟨q, v3, rfl, hq5, ⟨ps3, hp3, hpn3⟩, hob3⟩, hb6⟩
                  obtain ⟨ao6, cap6, rfl, _⟩ := rowN_open hp3
                  have hv5 : Hid (isN w5 (.slice ao6 ps3.length cap6) (r2 % (y * s))) := ⟨ps3, hp3, hpn3⟩
                  have hb5 : Below w2.heap.size w2 w5 := ((Below.refl _ w2).drew).trans hb6
                  have o5 := own_below o2.out hb5
                  have eQ := (boxed_below uQ hb5 lt2Q).cell
                  have eR := (boxed_below u5 hb5 lt2R).cell
                  have eRf := (boxed_below u5 hb5 lt2R).frozen
                  have hne : w4.heap.size + 1 ≠ w3.heap.size + 1 := by have := HS4.out; omega
                  have eR2 := (boxed_other (u := .int .u64 q) (p := ⟨w3.heap.size + 1, i, none⟩) (boxed_below u5 hb5 lt2R) hne).cell
                  have eR2f := (boxed_other (u := .int .u64 q) (p := ⟨w3.heap.size + 1, i, none⟩) (boxed_below u5 hb5 lt2R) hne).frozen
                  have eKf := o5.frozenAt i
                  obtain ⟨u6, eK⟩ : ∃ u, w5.cell? ⟨w3.heap.size + 1, i, none⟩ = some u := by
                    have h1 := o5.cellAt i (by omega)
                    have h2 := o5.1
                    rw [h1]
                    exact ⟨_, List.getElem?_eq_getElem (by omega)⟩
                  have hob5 : Hid (∀ k, (Value.slice ao6 ps3.length cap6).ownBlock = some k → k ≠ w3.heap.size + 1) := by
                    intro k hk
                    have h1 := HSZ.out
                    rcases hob3.out k hk with h | h
                    · have := HOB.out k h; omega
                    · have h : w2.heap.size ≤ k := h
                      omega
                  clear hp3 hpn3 hb6 o5 hob3
                  refine hK _ _ ?_; clear hK K
                  refine wpAnyIn_take (i := 5) (v := .tuple #[.int .u64 q, .slice ao6 ps3.length cap6]) rfl rfl (by kernel_rfl) (by kernel_rfl) (by kernel_rfl) (fun _ _ _ h => h) ⟨Or.inl ⟨by rfl, ?_⟩, fun _ => rfl⟩ ?_
                  · intro wx; go_simp
                  refine wpAnyIn_take (i := 6) (v := .int .u64 q) rfl rfl (by kernel_rfl) (by kernel_rfl) (by kernel_rfl) (fun _ _ _ h => h) ⟨Or.inl ⟨by rfl, ?_⟩, fun _ => rfl⟩ ?_
                  · intro wx; go_simp
                  refine wpAnyIn_take (i := 7) (v := .slice ao6 ps3.length cap6) rfl rfl (by kernel_rfl) (by kernel_rfl) (by kernel_rfl) (fun _ _ _ h => h) ⟨Or.inl ⟨by rfl, ?_⟩, fun _ => rfl⟩ ?_
                  · intro wx; go_simp
                  refine wpAnyIn_ready (rs := [8]) (by kernel_rfl) (by simp) ?_
                  refine AllReadyIn.cons rfl (fun K hK => ?_) ?_
                  · go_simp
                    refine hK _ _ ?_; clear hK K
                    refine wpAnyIn_ready (rs := [9]) (by kernel_rfl) (by simp) ?_
                    refine AllReadyIn.cons rfl (fun K hK => ?_) ?_
                    · go_simp
                      refine hK _ _ ?_; clear hK K
                      refine wpAnyIn_ready (rs := [10]) (by kernel_rfl) (by simp) ?_
                      refine AllReadyIn.cons rfl (fun K hK => ?_) ?_
                      · go_simp
                        refine hK _ _ ?_; clear hK K
                        refine wpAnyIn_done (by kernel_rfl) ?_ _
                        exact ⟨w5, q, _, hb5, hq5, hv5, hob5, rfl⟩
                      exact AllReadyIn.nil
                    exact AllReadyIn.nil
                  exact AllReadyIn.nil
                exact AllReadyIn.nil
              exact AllReadyIn.nil
            refine AllReadyIn.cons rfl (fun K hK => ?_) ?_
            · go_simp
              refine hK _ _ ?_; clear hK K
              refine wpAnyIn_ready (rs := [2]) (by kernel_rfl) (by simp) ?_
              refine AllReadyIn.cons rfl (fun K hK => ?_) ?_
              · go_simp
                refine hK _ _ ?_; clear hK K
                refine wpAnyIn_ready (rs := [4]) (by kernel_rfl) (by simp) ?_
                refine AllReadyIn.cons rfl (fun K hK => ?_) ?_
                · go_simp
                  refine ⟨trivial, (callsIn_wide.2 (divideOnce_any _ _ r2 (y * s) _ (by exact n5.out) (by exact nD.out) HDP.out HLT.out FD2)).mono ?_⟩
                  rintro e w5 ⟨⟨q, v3, rfl, hq5, ⟨ps3, hp3, hpn3⟩, hob3⟩, hb6⟩
                  obtain ⟨ao6, cap6, rfl, _⟩ := rowN_open hp3
                  have hv5 : Hid (isN w5 (.slice ao6 ps3.length cap6) (r2 % (y * s))) := ⟨ps3, hp3, hpn3⟩
                  have hb5 : Below w2.heap.size w2 w5 := ((Below.refl _ w2).drew).trans hb6
                  have o5 := own_below o2.out hb5
                  have eQ := (boxed_below uQ hb5 lt2Q).cell
                  have eR := (boxed_below u5 hb5 lt2R).cell
                  have eRf := (boxed_below u5 hb5 lt2R).frozen
                  have hne : w4.heap.size + 1 ≠ w3.heap.size + 1 := by have := HS4.out; omega
                  have eR2 := (boxed_other (u := .int .u64 q) (p := ⟨w3.heap.size + 1, i, none⟩) (boxed_below u5 hb5 lt2R) hne).cell
                  have eR2f := (boxed_other (u := .int .u64 q) (p := ⟨w3.heap.size + 1, i, none⟩) (boxed_below u5 hb5 lt2R) hne).frozen
                  have eKf := o5.frozenAt i
                  obtain ⟨u6, eK⟩ : ∃ u, w5.cell? ⟨w3.heap.size + 1, i, none⟩ = some u := by
                    have h1 := o5.cellAt i (by omega)
                    have h2 := o5.1
                    rw [h1]
                    exact ⟨_, List.getElem?_eq_getElem (by omega)⟩
                  have hob5 : Hid (∀ k, (Value.slice ao6 ps3.length cap6).ownBlock = some k → k ≠ w3.heap.size + 1) := by
                    intro k hk
                    have h1 := HSZ.out
                    rcases hob3.out k hk with h | h
                    · have := HOB.out k h; omega
                    · have h : w2.heap.size ≤ k := h
                      omega
                  clear hp3 hpn3 hb6 o5 hob3
                  refine hK _ _ ?_; clear hK K
                  refine wpAnyIn_take (i := 5) (v := .tuple #[.int .u64 q, .slice ao6 ps3.length cap6]) rfl rfl (by kernel_rfl) (by kernel_rfl) (by kernel_rfl) (fun _ _ _ h => h) ⟨Or.inl ⟨by rfl, ?_⟩, fun _ => rfl⟩ ?_
                  · intro wx; go_simp
                  refine wpAnyIn_take (i := 6) (v := .int .u64 q) rfl rfl (by kernel_rfl) (by kernel_rfl) (by kernel_rfl) (fun _ _ _ h => h) ⟨Or.inl ⟨by rfl, ?_⟩, fun _ => rfl⟩ ?_
                  · intro wx; go_simp
                  refine wpAnyIn_take (i := 7) (v := .slice ao6 ps3.length cap6) rfl rfl (by kernel_rfl) (by kernel_rfl) (by kernel_rfl) (fun _ _ _ h => h) ⟨Or.inl ⟨by rfl, ?_⟩, fun _ => rfl⟩ ?_
                  · intro wx; go_simp
                  refine wpAnyIn_ready (rs := [8]) (by kernel_rfl) (by simp) ?_
                  refine AllReadyIn.cons rfl (fun K hK => ?_) ?_
                  · go_simp
                    refine hK _ _ ?_; clear hK K
                    refine wpAnyIn_ready (rs := [9]) (by kernel_rfl) (by simp) ?_
                    refine AllReadyIn.cons rfl (fun K hK => ?_) ?_
                    · go_simp
                      refine hK _ _ ?_; clear hK K
                      refine wpAnyIn_ready (rs := [10]) (by kernel_rfl) (by simp) ?_
                      refine AllReadyIn.cons rfl (fun K hK => ?_) ?_
                      · go_simp
                        refine hK _ _ ?_; clear hK K
                        refine wpAnyIn_done (by kernel_rfl) ?_ _
                        exact ⟨w5, q, _, hb5, hq5, hv5, hob5, rfl⟩
                      exact AllReadyIn.nil
                    exact AllReadyIn.nil
                  exact AllReadyIn.nil
                exact AllReadyIn.nil
              exact AllReadyIn.nil
            exact AllReadyIn.nil
          refine AllReadyIn.cons rfl (fun K hK => ?_) ?_
          · go_simp
            refine hK _ _ ?_; clear hK K
            refine wpAnyIn_ready (rs := [0, 3]) (by kernel_rfl) (by simp) ?_
            refine AllReadyIn.cons rfl (fun K hK => ?_) ?_
            · go_simp
              refine hK _ _ ?_; clear hK K
              refine wpAnyIn_ready (rs := [3]) (by kernel_rfl) (by simp) ?_
              refine AllReadyIn.cons rfl (fun K hK => ?_) ?_
              · go_simp
                refine hK _ _ ?_; clear hK K
                refine wpAnyIn_ready (rs := [4]) (by kernel_rfl) (by simp) ?_
                refine AllReadyIn.cons rfl (fun K hK => ?_) ?_
                · go_simp
                  refine ⟨trivial, (callsIn_wide.2 (divideOnce_any _ _ r2 (y * s) _ (by exact n5.out) (by exact nD.out) HDP.out HLT.out FD2)).mono ?_⟩
                  rintro e w5 ⟨⟨q, v3, rfl, hq5, ⟨ps3, hp3, hpn3⟩, hob3⟩, hb6⟩
                  obtain ⟨ao6, cap6, rfl, _⟩ := rowN_open hp3
                  have hv5 : Hid (isN w5 (.slice ao6 ps3.length cap6) (r2 % (y * s))) := ⟨ps3, hp3, hpn3⟩
                  have hb5 : Below w2.heap.size w2 w5 := ((Below.refl _ w2).drew).trans hb6
                  have o5 := own_below o2.out hb5
                  have eQ := (boxed_below uQ hb5 lt2Q).cell
                  have eR := (boxed_below u5 hb5 lt2R).cell
                  have eRf := (boxed_below u5 hb5 lt2R).frozen
                  have hne : w4.heap.size + 1 ≠ w3.heap.size + 1 := by have := HS4.out; omega
                  have eR2 := (boxed_other (u := .int .u64 q) (p := ⟨w3.heap.size + 1, i, none⟩) (boxed_below u5 hb5 lt2R) hne).cell
                  have eR2f := (boxed_other (u := .int .u64 q) (p := ⟨w3.heap.size + 1, i, none⟩) (boxed_below u5 hb5 lt2R) hne).frozen
                  have eKf := o5.frozenAt i
                  obtain ⟨u6, eK⟩ : ∃ u, w5.cell? ⟨w3.heap.size + 1, i, none⟩ = some u := by
                    have h1 := o5.cellAt i (by omega)
                    have h2 := o5.1
                    rw [h1]
                    exact ⟨_, List.getElem?_eq_getElem (by omega)⟩
                  have hob5 : Hid (∀ k, (Value.slice ao6 ps3.length cap6).ownBlock = some k → k ≠ w3.heap.size + 1) := by
                    intro k hk
                    have h1 := HSZ.out
                    rcases hob3.out k hk with h | h
                    · have := HOB.out k h; omega
                    · have h : w2.heap.size ≤ k := h
                      omega
                  clear hp3 hpn3 hb6 o5 hob3
                  refine hK _ _ ?_; clear hK K
                  refine wpAnyIn_take (i := 5) (v := .tuple #[.int .u64 q, .slice ao6 ps3.length cap6]) rfl rfl (by kernel_rfl) (by kernel_rfl) (by kernel_rfl) (fun _ _ _ h => h) ⟨Or.inl ⟨by rfl, ?_⟩, fun _ => rfl⟩ ?_
                  · intro wx; go_simp
                  refine wpAnyIn_take (i := 6) (v := .int .u64 q) rfl rfl (by kernel_rfl) (by kernel_rfl) (by kernel_rfl) (fun _ _ _ h => h) ⟨Or.inl ⟨by rfl, ?_⟩, fun _ => rfl⟩ ?_
                  · intro wx; go_simp
                  refine wpAnyIn_take (i := 7) (v := .slice ao6 ps3.length cap6) rfl rfl (by kernel_rfl) (by kernel_rfl) (by kernel_rfl) (fun _ _ _ h => h) ⟨Or.inl ⟨by rfl, ?_⟩, fun _ => rfl⟩ ?_
                  · intro wx; go_simp
                  refine wpAnyIn_ready (rs := [8]) (by kernel_rfl) (by simp) ?_
                  refine AllReadyIn.cons rfl (fun K hK => ?_) ?_
                  · go_simp
                    refine hK _ _ ?_; clear hK K
                    refine wpAnyIn_ready (rs := [9]) (by kernel_rfl) (by simp) ?_
                    refine AllReadyIn.cons rfl (fun K hK => ?_) ?_
                    · go_simp
                      refine hK _ _ ?_; clear hK K
                      refine wpAnyIn_ready (rs := [10]) (by kernel_rfl) (by simp) ?_
                      refine AllReadyIn.cons rfl (fun K hK => ?_) ?_
                      · go_simp
                        refine hK _ _ ?_; clear hK K
                        refine wpAnyIn_done (by kernel_rfl) ?_ _
                        exact ⟨w5, q, _, hb5, hq5, hv5, hob5, rfl⟩
                      exact AllReadyIn.nil
                    exact AllReadyIn.nil
                  exact AllReadyIn.nil
                exact AllReadyIn.nil
              exact AllReadyIn.nil
            refine AllReadyIn.cons rfl (fun K hK => ?_) ?_
            · go_simp
              refine hK _ _ ?_; clear hK K
              refine wpAnyIn_ready (rs := [0, 4]) (by kernel_rfl) (by simp) ?_
              refine AllReadyIn.cons rfl (fun K hK => ?_) ?_
              · go_simp
                refine hK _ _ ?_; clear hK K
                refine wpAnyIn_ready (rs := [4]) (by kernel_rfl) (by simp) ?_
                refine AllReadyIn.cons rfl (fun K hK => ?_) ?_
                · go_simp
                  refine ⟨trivial, (callsIn_wide.2 (divideOnce_any _ _ r2 (y * s) _ (by exact n5.out) (by exact nD.out) HDP.out HLT.out FD2)).mono ?_⟩
                  rintro e w5 ⟨⟨q, v3, rfl, hq5, ⟨ps3, hp3, hpn3⟩, hob3⟩, hb6⟩
                  obtain ⟨ao6, cap6, rfl, _⟩ := rowN_open hp3
                  have hv5 : Hid (isN w5 (.slice ao6 ps3.length cap6) (r2 % (y * s))) := ⟨ps3, hp3, hpn3⟩
                  have hb5 : Below w2.heap.size w2 w5 := ((Below.refl _ w2).drew).trans hb6
                  have o5 := own_below o2.out hb5
                  have eQ := (boxed_below uQ hb5 lt2Q).cell
                  have eR := (boxed_below u5 hb5 lt2R).cell
                  have eRf := (boxed_below u5 hb5 lt2R).frozen
                  have hne : w4.heap.size + 1 ≠ w3.heap.size + 1 := by have := HS4.out; omega
                  have eR2 := (boxed_other (u := .int .u64 q) (p := ⟨w3.heap.size + 1, i, none⟩) (boxed_below u5 hb5 lt2R) hne).cell
                  have eR2f := (boxed_other (u := .int .u64 q) (p := ⟨w3.heap.size + 1, i, none⟩) (boxed_below u5 hb5 lt2R) hne).frozen
                  have eKf := o5.frozenAt i
                  obtain ⟨u6, eK⟩ : ∃ u, w5.cell? ⟨w3.heap.size + 1, i, none⟩ = some u := by
                    have h1 := o5.cellAt i (by omega)
                    have h2 := o5.1
                    rw [h1]
                    exact ⟨_, List.getElem?_eq_getElem (by omega)⟩
                  have hob5 : Hid (∀ k, (Value.slice ao6 ps3.length cap6).ownBlock = some k → k ≠ w3.heap.size + 1) := by
                    intro k hk
                    have h1 := HSZ.out
                    rcases hob3.out k hk with h | h
                    · have := HOB.out k h; omega
                    · have h : w2.heap.size ≤ k := h
                      omega
                  clear hp3 hpn3 hb6 o5 hob3
                  refine hK _ _ ?_; clear hK K
                  refine wpAnyIn_take (i := 5) (v := .tuple #[.int .u64 q, .slice ao6 ps3.length cap6]) rfl rfl (by kernel_rfl) (by kernel_rfl) (by kernel_rfl) (fun _ _ _ h => h) ⟨Or.inl ⟨by rfl, ?_⟩, fun _ => rfl⟩ ?_
                  · intro wx; go_simp
                  refine wpAnyIn_take (i := 6) (v := .int .u64 q) rfl rfl (by kernel_rfl) (by kernel_rfl) (by kernel_rfl) (fun _ _ _ h => h) ⟨Or.inl ⟨by rfl, ?_⟩, fun _ => rfl⟩ ?_
                  · intro wx; go_simp
                  refine wpAnyIn_take (i := 7) (v := .slice ao6 ps3.length cap6) rfl rfl (by kernel_rfl) (by kernel_rfl) (by kernel_rfl) (fun _ _ _ h => h) ⟨Or.inl ⟨by rfl, ?_⟩, fun _ => rfl⟩ ?_
                  · intro wx; go_simp
                  refine wpAnyIn_ready (rs := [8]) (by kernel_rfl) (by simp) ?_
                  refine AllReadyIn.cons rfl (fun K hK => ?_) ?_
                  · go_simp
                    refine hK _ _ ?_; clear hK K
                    refine wpAnyIn_ready (rs := [9]) (by kernel_rfl) (by simp) ?_
                    refine AllReadyIn.cons rfl (fun K hK => ?_) ?_
                    · go_simp
                      refine hK _ _ ?_; clear hK K
                      refine wpAnyIn_ready (rs := [10]) (by kernel_rfl) (by simp) ?_
                      refine AllReadyIn.cons rfl (fun K hK => ?_) ?_
                      · go_simp
                        refine hK _ _ ?_; clear hK K
                        refine wpAnyIn_done (by kernel_rfl) ?_ _
                        exact ⟨w5, q, _, hb5, hq5, hv5, hob5, rfl⟩
                      exact AllReadyIn.nil
                    exact AllReadyIn.nil
                  exact AllReadyIn.nil
                exact AllReadyIn.nil
              refine AllReadyIn.cons rfl (fun K hK => ?_) ?_
              · go_simp
                refine ⟨trivial, (callsIn_wide.2 (divideOnce_any _ _ r2 (y * s) _ (by exact n5.out) (by exact nD.out) HDP.out HLT.out FD2)).mono ?_⟩
                rintro e w5 ⟨⟨q, v3, rfl, hq5, ⟨ps3, hp3, hpn3⟩, hob3⟩, hb6⟩
                obtain ⟨ao6, cap6, rfl, _⟩ := rowN_open hp3
                have hv5 : Hid (isN w5 (.slice ao6 ps3.length cap6) (r2 % (y * s))) := ⟨ps3, hp3, hpn3⟩
                have hb5 : Below w2.heap.size w2 w5 := ((Below.refl _ w2).drew).trans hb6
                have o5 := own_below o2.out hb5
                have eQ := (boxed_below uQ hb5 lt2Q).cell
                have eR := (boxed_below u5 hb5 lt2R).cell
                have eRf := (boxed_below u5 hb5 lt2R).frozen
                have hne : w4.heap.size + 1 ≠ w3.heap.size + 1 := by have := HS4.out; omega
                have eR2 := (boxed_other (u := .int .u64 q) (p := ⟨w3.heap.size + 1, i, none⟩) (boxed_below u5 hb5 lt2R) hne).cell
                have eR2f := (boxed_other (u := .int .u64 q) (p := ⟨w3.heap.size + 1, i, none⟩) (boxed_below u5 hb5 lt2R) hne).frozen
                have eKf := o5.frozenAt i
                obtain ⟨u6, eK⟩ : ∃ u, w5.cell? ⟨w3.heap.size + 1, i, none⟩ = some u := by
                  have h1 := o5.cellAt i (by omega)
                  have h2 := o5.1
                  rw [h1]
                  exact ⟨_, List.getElem?_eq_getElem (by omega)⟩
                have hob5 : Hid (∀ k, (Value.slice ao6 ps3.length cap6).ownBlock = some k → k ≠ w3.heap.size + 1) := by
                  intro k hk
                  have h1 := HSZ.out
                  rcases hob3.out k hk with h | h
                  · have := HOB.out k h; omega
                  · have h : w2.heap.size ≤ k := h
                    omega
                clear hp3 hpn3 hb6 o5 hob3
                refine hK _ _ ?_; clear hK K
                refine wpAnyIn_take (i := 5) (v := .tuple #[.int .u64 q, .slice ao6 ps3.length cap6]) rfl rfl (by kernel_rfl) (by kernel_rfl) (by kernel_rfl) (fun _ _ _ h => h) ⟨Or.inl ⟨by rfl, ?_⟩, fun _ => rfl⟩ ?_
                · intro wx; go_simp
                refine wpAnyIn_take (i := 6) (v := .int .u64 q) rfl rfl (by kernel_rfl) (by kernel_rfl) (by kernel_rfl) (fun _ _ _ h => h) ⟨Or.inl ⟨by rfl, ?_⟩, fun _ => rfl⟩ ?_
                · intro wx; go_simp
                refine wpAnyIn_take (i := 7) (v := .slice ao6 ps3.length cap6) rfl rfl (by kernel_rfl) (by kernel_rfl) (by kernel_rfl) (fun _ _ _ h => h) ⟨Or.inl ⟨by rfl, ?_⟩, fun _ => rfl⟩ ?_
                · intro wx; go_simp
                refine wpAnyIn_ready (rs := [0]) (by kernel_rfl) (by simp) ?_
                refine AllReadyIn.cons rfl (fun K hK => ?_) ?_
                · go_simp
                  refine hK _ _ ?_; clear hK K
                  refine wpAnyIn_ready (rs := [8]) (by kernel_rfl) (by simp) ?_
                  refine AllReadyIn.cons rfl (fun K hK => ?_) ?_
                  · go_simp
                    refine hK _ _ ?_; clear hK K
                    refine wpAnyIn_ready (rs := [9]) (by kernel_rfl) (by simp) ?_
                    refine AllReadyIn.cons rfl (fun K hK => ?_) ?_
                    · go_simp
                      refine hK _ _ ?_; clear hK K
                      refine wpAnyIn_ready (rs := [10]) (by kernel_rfl) (by simp) ?_
                      refine AllReadyIn.cons rfl (fun K hK => ?_) ?_
                      · go_simp
                        refine hK _ _ ?_; clear hK K
                        refine wpAnyIn_done (by kernel_rfl) ?_ _
                        exact ⟨w5, q, _, hb5, hq5, hv5, hob5, rfl⟩
                      exact AllReadyIn.nil
                    exact AllReadyIn.nil
                  exact AllReadyIn.nil
                exact AllReadyIn.nil
              exact AllReadyIn.nil
            exact AllReadyIn.nil
          refine AllReadyIn.cons rfl (fun K hK => ?_) ?_
          · go_simp
            refine hK _ _ ?_; clear hK K
            refine wpAnyIn_ready (rs := [0, 2]) (by kernel_rfl) (by simp) ?_
            refine AllReadyIn.cons rfl (fun K hK => ?_) ?_
            · go_simp
              refine hK _ _ ?_; clear hK K
              refine wpAnyIn_ready (rs := [2]) (by kernel_rfl) (by simp) ?_
              refine AllReadyIn.cons rfl (fun K hK => ?_) ?_
              · go_simp
                refine hK _ _ ?_; clear hK K
                refine wpAnyIn_ready (rs := [4]) (by kernel_rfl) (by simp) ?_
                refine AllReadyIn.cons rfl (fun K hK => ?_) ?_
                · go_simp
                  refine ⟨trivial, (callsIn_wide.2 (divideOnce_any _ _ r2 (y * s) _ (by exact n5.out) (by exact nD.out) HDP.out HLT.out FD2)).mono ?_⟩
                  rintro e w5 ⟨⟨q, v3, rfl, hq5, ⟨ps3, hp3, hpn3⟩, hob3⟩, hb6⟩
                  obtain ⟨ao6, cap6, rfl, _⟩ := rowN_open hp3
                  have hv5 : Hid (isN w5 (.slice ao6 ps3.length cap6) (r2 % (y * s))) := ⟨ps3, hp3, hpn3⟩
                  have hb5 : Below w2.heap.size w2 w5 := ((Below.refl _ w2).drew).trans hb6
                  have o5 := own_below o2.out hb5
                  have eQ := (boxed_below uQ hb5 lt2Q).cell
                  have eR := (boxed_below u5 hb5 lt2R).cell
                  have eRf := (boxed_below u5 hb5 lt2R).frozen
                  have hne : w4.heap.size + 1 ≠ w3.heap.size + 1 := by have := HS4.out; omega
                  have eR2 := (boxed_other (u := .int .u64 q) (p := ⟨w3.heap.size + 1, i, none⟩) (boxed_below u5 hb5 lt2R) hne).cell
                  have eR2f := (boxed_other (u := .int .u64 q) (p := ⟨w3.heap.size + 1, i, none⟩) (boxed_below u5 hb5 lt2R) hne).frozen
                  have eKf := o5.frozenAt i
                  obtain ⟨u6, eK⟩ : ∃ u, w5.cell? ⟨w3.heap.size + 1, i, none⟩ = some u := by
                    have h1 := o5.cellAt i (by omega)
                    have h2 := o5.1
                    rw [h1]
                    exact ⟨_, List.getElem?_eq_getElem (by omega)⟩
                  have hob5 : Hid (∀ k, (Value.slice ao6 ps3.length cap6).ownBlock = some k → k ≠ w3.heap.size + 1) := by
                    intro k hk
                    have h1 := HSZ.out
                    rcases hob3.out k hk with h | h
                    · have := HOB.out k h; omega
                    · have h : w2.heap.size ≤ k := h
                      omega
                  clear hp3 hpn3 hb6 o5 hob3
                  refine hK _ _ ?_; clear hK K
                  refine wpAnyIn_take (i := 5) (v := .tuple #[.int .u64 q, .slice ao6 ps3.length cap6]) rfl rfl (by kernel_rfl) (by kernel_rfl) (by kernel_rfl) (fun _ _ _ h => h) ⟨Or.inl ⟨by rfl, ?_⟩, fun _ => rfl⟩ ?_
                  · intro wx; go_simp
                  refine wpAnyIn_take (i := 6) (v := .int .u64 q) rfl rfl (by kernel_rfl) (by kernel_rfl) (by kernel_rfl) (fun _ _ _ h => h) ⟨Or.inl ⟨by rfl, ?_⟩, fun _ => rfl⟩ ?_
                  · intro wx; go_simp
                  refine wpAnyIn_take (i := 7) (v := .slice ao6 ps3.length cap6) rfl rfl (by kernel_rfl) (by kernel_rfl) (by kernel_rfl) (fun _ _ _ h => h) ⟨Or.inl ⟨by rfl, ?_⟩, fun _ => rfl⟩ ?_
                  · intro wx; go_simp
                  refine wpAnyIn_ready (rs := [8]) (by kernel_rfl) (by simp) ?_
                  refine AllReadyIn.cons rfl (fun K hK => ?_) ?_
                  · go_simp
                    refine hK _ _ ?_; clear hK K
                    refine wpAnyIn_ready (rs := [9]) (by kernel_rfl) (by simp) ?_
                    refine AllReadyIn.cons rfl (fun K hK => ?_) ?_
                    · go_simp
                      refine hK _ _ ?_; clear hK K
                      refine wpAnyIn_ready (rs := [10]) (by kernel_rfl) (by simp) ?_
                      refine AllReadyIn.cons rfl (fun K hK => ?_) ?_
                      · go_simp
                        refine hK _ _ ?_; clear hK K
                        refine wpAnyIn_done (by kernel_rfl) ?_ _
                        exact ⟨w5, q, _, hb5, hq5, hv5, hob5, rfl⟩
                      exact AllReadyIn.nil
                    exact AllReadyIn.nil
                  exact AllReadyIn.nil
                exact AllReadyIn.nil
              exact AllReadyIn.nil
            refine AllReadyIn.cons rfl (fun K hK => ?_) ?_
            · go_simp
              refine hK _ _ ?_; clear hK K
              refine wpAnyIn_ready (rs := [0, 4]) (by kernel_rfl) (by simp) ?_
              refine AllReadyIn.cons rfl (fun K hK => ?_) ?_
              · go_simp
                refine hK _ _ ?_; clear hK K
                refine wpAnyIn_ready (rs := [4]) (by kernel_rfl) (by simp) ?_
                refine AllReadyIn.cons rfl (fun K hK => ?_) ?_
                · go_simp
                  refine ⟨trivial, (callsIn_wide.2 (divideOnce_any _ _ r2 (y * s) _ (by exact n5.out) (by exact nD.out) HDP.out HLT.out FD2)).mono ?_⟩
                  rintro e w5 ⟨⟨q, v3, rfl, hq5, ⟨ps3, hp3, hpn3⟩, hob3⟩, hb6⟩
                  obtain ⟨ao6, cap6, rfl, _⟩ := rowN_open hp3
                  have hv5 : Hid (isN w5 (.slice ao6 ps3.length cap6) (r2 % (y * s))) := ⟨ps3, hp3, hpn3⟩
                  have hb5 : Below w2.heap.size w2 w5 := ((Below.refl _ w2).drew).trans hb6
                  have o5 := own_below o2.out hb5
                  have eQ := (boxed_below uQ hb5 lt2Q).cell
                  have eR := (boxed_below u5 hb5 lt2R).cell
                  have eRf := (boxed_below u5 hb5 lt2R).frozen
                  have hne : w4.heap.size + 1 ≠ w3.heap.size + 1 := by have := HS4.out; omega
                  have eR2 := (boxed_other (u := .int .u64 q) (p := ⟨w3.heap.size + 1, i, none⟩) (boxed_below u5 hb5 lt2R) hne).cell
                  have eR2f := (boxed_other (u := .int .u64 q) (p := ⟨w3.heap.size + 1, i, none⟩) (boxed_below u5 hb5 lt2R) hne).frozen
                  have eKf := o5.frozenAt i
                  obtain ⟨u6, eK⟩ : ∃ u, w5.cell? ⟨w3.heap.size + 1, i, none⟩ = some u := by
                    have h1 := o5.cellAt i (by omega)
                    have h2 := o5.1
                    rw [h1]
                    exact ⟨_, List.getElem?_eq_getElem (by omega)⟩
                  have hob5 : Hid (∀ k, (Value.slice ao6 ps3.length cap6).ownBlock = some k → k ≠ w3.heap.size + 1) := by
                    intro k hk
                    have h1 := HSZ.out
                    rcases hob3.out k hk with h | h
                    · have := HOB.out k h; omega
                    · have h : w2.heap.size ≤ k := h
                      omega
                  clear hp3 hpn3 hb6 o5 hob3
                  refine hK _ _ ?_; clear hK K
                  refine wpAnyIn_take (i := 5) (v := .tuple #[.int .u64 q, .slice ao6 ps3.length cap6]) rfl rfl (by kernel_rfl) (by kernel_rfl) (by kernel_rfl) (fun _ _ _ h => h) ⟨Or.inl ⟨by rfl, ?_⟩, fun _ => rfl⟩ ?_
                  · intro wx; go_simp
                  refine wpAnyIn_take (i := 6) (v := .int .u64 q) rfl rfl (by kernel_rfl) (by kernel_rfl) (by kernel_rfl) (fun _ _ _ h => h) ⟨Or.inl ⟨by rfl, ?_⟩, fun _ => rfl⟩ ?_
                  · intro wx; go_simp
                  refine wpAnyIn_take (i := 7) (v := .slice ao6 ps3.length cap6) rfl rfl (by kernel_rfl) (by kernel_rfl) (by kernel_rfl) (fun _ _ _ h => h) ⟨Or.inl ⟨by rfl, ?_⟩, fun _ => rfl⟩ ?_
                  · intro wx; go_simp
                  refine wpAnyIn_ready (rs := [8]) (by kernel_rfl) (by simp) ?_
                  refine AllReadyIn.cons rfl (fun K hK => ?_) ?_
                  · go_simp
                    refine hK _ _ ?_; clear hK K
                    refine wpAnyIn_ready (rs := [9]) (by kernel_rfl) (by simp) ?_
                    refine AllReadyIn.cons rfl (fun K hK => ?_) ?_
                    · go_simp
                      refine hK _ _ ?_; clear hK K
                      refine wpAnyIn_ready (rs := [10]) (by kernel_rfl) (by simp) ?_
                      refine AllReadyIn.cons rfl (fun K hK => ?_) ?_
                      · go_simp
                        refine hK _ _ ?_; clear hK K
                        refine wpAnyIn_done (by kernel_rfl) ?_ _
                        exact ⟨w5, q, _, hb5, hq5, hv5, hob5, rfl⟩
                      exact AllReadyIn.nil
                    exact AllReadyIn.nil
                  exact AllReadyIn.nil
                exact AllReadyIn.nil
              refine AllReadyIn.cons rfl (fun K hK => ?_) ?_
              · go_simp
                refine ⟨trivial, (callsIn_wide.2 (divideOnce_any _ _ r2 (y * s) _ (by exact n5.out) (by exact nD.out) HDP.out HLT.out FD2)).mono ?_⟩
                rintro e w5 ⟨⟨q, v3, rfl, hq5, ⟨ps3, hp3, hpn3⟩, hob3⟩, hb6⟩
                obtain ⟨ao6, cap6, rfl, _⟩ := rowN_open hp3
                have hv5 : Hid (isN w5 (.slice ao6 ps3.length cap6) (r2 % (y * s))) := ⟨ps3, hp3, hpn3⟩
                have hb5 : Below w2.heap.size w2 w5 := ((Below.refl _ w2).drew).trans hb6
                have o5 := own_below o2.out hb5
                have eQ := (boxed_below uQ hb5 lt2Q).cell
                have eR := (boxed_below u5 hb5 lt2R).cell
                have eRf := (boxed_below u5 hb5 lt2R).frozen
                have hne : w4.heap.size + 1 ≠ w3.heap.size + 1 := by have := HS4.out; omega
                have eR2 := (boxed_other (u := .int .u64 q) (p := ⟨w3.heap.size + 1, i, none⟩) (boxed_below u5 hb5 lt2R) hne).cell
                have eR2f := (boxed_other (u := .int .u64 q) (p := ⟨w3.heap.size + 1, i, none⟩) (boxed_below u5 hb5 lt2R) hne).frozen
                have eKf := o5.frozenAt i
                obtain ⟨u6, eK⟩ : ∃ u, w5.cell? ⟨w3.heap.size + 1, i, none⟩ = some u := by
                  have h1 := o5.cellAt i (by omega)
                  have h2 := o5.1
                  rw [h1]
                  exact ⟨_, List.getElem?_eq_getElem (by omega)⟩
                have hob5 : Hid (∀ k, (Value.slice ao6 ps3.length cap6).ownBlock = some k → k ≠ w3.heap.size + 1) := by
                  intro k hk
                  have h1 := HSZ.out
                  rcases hob3.out k hk with h | h
                  · have := HOB.out k h; omega
                  · have h : w2.heap.size ≤ k := h
                    omega
                clear hp3 hpn3 hb6 o5 hob3
                refine hK _ _ ?_; clear hK K
                refine wpAnyIn_take (i := 5) (v := .tuple #[.int .u64 q, .slice ao6 ps3.length cap6]) rfl rfl (by kernel_rfl) (by kernel_rfl) (by kernel_rfl) (fun _ _ _ h => h) ⟨Or.inl ⟨by rfl, ?_⟩, fun _ => rfl⟩ ?_
                · intro wx; go_simp
                refine wpAnyIn_take (i := 6) (v := .int .u64 q) rfl rfl (by kernel_rfl) (by kernel_rfl) (by kernel_rfl) (fun _ _ _ h => h) ⟨Or.inl ⟨by rfl, ?_⟩, fun _ => rfl⟩ ?_
                · intro wx; go_simp
                refine wpAnyIn_take (i := 7) (v := .slice ao6 ps3.length cap6) rfl rfl (by kernel_rfl) (by kernel_rfl) (by kernel_rfl) (fun _ _ _ h => h) ⟨Or.inl ⟨by rfl, ?_⟩, fun _ => rfl⟩ ?_
                · intro wx; go_simp
                refine wpAnyIn_ready (rs := [0]) (by kernel_rfl) (by simp) ?_
                refine AllReadyIn.cons rfl (fun K hK => ?_) ?_
                · go_simp
                  refine hK _ _ ?_; clear hK K
                  refine wpAnyIn_ready (rs := [8]) (by kernel_rfl) (by simp) ?_
                  refine AllReadyIn.cons rfl (fun K hK => ?_) ?_
                  · go_simp
                    refine hK _ _ ?_; clear hK K
                    refine wpAnyIn_ready (rs := [9]) (by kernel_rfl) (by simp) ?_
                    refine AllReadyIn.cons rfl (fun K hK => ?_) ?_
                    · go_simp
                      refine hK _ _ ?_; clear hK K
                      refine wpAnyIn_ready (rs := [10]) (by kernel_rfl) (by simp) ?_
                      refine AllReadyIn.cons rfl (fun K hK => ?_) ?_
                      · go_simp
                        refine hK _ _ ?_; clear hK K
                        refine wpAnyIn_done (by kernel_rfl) ?_ _
                        exact ⟨w5, q, _, hb5, hq5, hv5, hob5, rfl⟩
                      exact AllReadyIn.nil
                    exact AllReadyIn.nil
                  exact AllReadyIn.nil
                exact AllReadyIn.nil
              exact AllReadyIn.nil
            exact AllReadyIn.nil
          exact AllReadyIn.nil
        · intro e a' w' hq
          cases e
          case normal =>
            obtain ⟨w6, q, v3, hb5, hq5, hv5, hob5, rfl⟩ := hq
            exact dv_round hs4 hsz HXN.out.2.1 (Nat.mul_pos hy hsp) A1.out A2.out A9.out a10 a11 hpre i hi' g HG.out k5 hHW2.out uD uQ u5 o2.out nD.out hb5 HR2.out HLT.out hq5.out hv5.out hob5.out (by omega) HDB.out
          all_goals exact hq.elim
      case done =>
        rintro D ps W hD rfl ⟨ys, r, rv, a1, a2, a3, a4, a5, a6, a7, a8, a9, a10, a11⟩ hK
        have hdl : (dnk xs.length xs.length).length = xs.length := dnk_length _ _ (Nat.le_refl _)
        rw [hdl] at a9
        obtain ⟨e1, e2⟩ := a9 rfl
        rw [Nat.sub_self, List.drop_zero, List.drop_zero] at e2
        rw [Nat.sub_self, List.drop_zero] at e1
        rw [HXN.out.1] at e2
        have e3 := div_scaled n y s (Lm.lval ys) r hsp a2 e2
        have E3 : Hid (n / y = Lm.lval ys ∧ n % y = r / s) := e3
        have E1 : Hid (Lm.small ys) := e1
        have hrow : Hid (rowN W (.slice (some ⟨w3.heap.size + 1, 0, none⟩) xs.length xs.length) ys) := by
          have := own_base a8 (Nat.zero_le _)
          show rowN _ _ _
          unfold rowN
          rw [a1]; exact this
        have hyl : ys.length ≤ 1000000 := by omega
        have hFD : fits (y * s) 8001 := hM.mul (by omega)
        have hFr : fits r 10000 := hFD.mono (Nat.le_of_lt a2) (by omega)
        have A6 : Hid (isN W rv r) := a6
        obtain ⟨rs, hrr, hrn⟩ := a6
        obtain ⟨aor, capr, rfl, haor⟩ := rowN_open hrr
        have c5 := a5.cell
        have hKs : Hid (W.heap[D]? = some (.deferred (some []))) := hK
        have hDW : D < W.heap.size := (Array.getElem?_eq_some_iff.1 hK).1
        have lQ := a4.lt
        have hBW := a10.size
        clear e1 e2 e3 a8 a9 hrr hrn haor q3 r3 d3 o3 b3 hxL hdL hbL s1 cz1 hK a1 a2 a7
        gi_wp2_with fail
        refine ⟨trivial, (callsIn_wide.2 (divideWord_f _ r s _ A6.out hsp (by omega) hFr)).mono ?_⟩
        rintro e w6 ⟨⟨v1, rm, rfl, _, hv1⟩, hb6⟩
        have HV1b : Hid (isN w6 v1 (r / s)) := hv1
        have c4 := (boxed_below a4 hb6 lQ).cell
        have HROW6 : Hid (rowN w6 (.slice (some ⟨w3.heap.size + 1, 0, none⟩) xs.length xs.length) ys) := rowN_below hrow.out hb6
        have hK6 : Hid (w6.heap[D]? = some (.deferred (some []))) := (hb6.block D hDW).trans hKs.out
        have hbF := a10.trans (hb6.mono hBW)
        clear hv1 c5
        gi_wp2_with fail
        refine ⟨trivial, (callsIn_wide.2 (trim_any _ ys _ HROW6.out E1.out hyl)).mono ?_⟩
        rintro e w' ⟨⟨v2, rfl, hv2⟩, rfl⟩
        have HV2b : Hid (isN w' v2 (Lm.lval ys)) := hv2
        clear hv2
        gi_wp2
        refine ⟨by simp, .inl ⟨_, _, rfl, run_takeDeferred hK6.out, ?_⟩⟩
        refine ⟨_, results_tmp2 rfl _ _ _, ⟨v2, v1, rfl, ?_, ?_⟩, hbF.trans (belowK_b (w := w) (Nat.le_refl _) w' D _ _ (by omega) hK6.out rfl rfl)⟩
        · rw [E3.out.1]
          obtain ⟨ps, h1, h2⟩ := HV2b.out
          exact ⟨ps, ownsRow_putObj h1 _ hK6.out rfl, h2⟩
        · rw [E3.out.2]
          obtain ⟨ps, h1, h2⟩ := HV1b.out
          exact ⟨ps, ownsRow_putObj h1 _ hK6.out rfl, h2⟩
      case stop =>
        rintro D c pre W _ _ h _
        exact h.elim

end Go.Proofs.YtaggfbffdbompaaDoor
