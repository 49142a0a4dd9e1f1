/-
  The contract of dividing by a word.
-/
import Derived.Test.YtaggfbffdbompaaDoorBack
namespace Go.Proofs.YtaggfbffdbompaaDoor
set_option maxRecDepth 100000
set_option linter.unusedVariables false
set_option linter.unusedSimpArgs false
open Go.RowKit Go.Shelf

attribute [local go_sem] Oper.semAt_some

theorem wpListIn_make_full {F : Fence} {n : Nat} {P : Program} (w : World) {ops : Array Oper} {rest : List Oper} {o : Oper} {a : Act} {Q : Exit → Act → World → Prop}
    (hg : o.guard = none) (l c : Operand) (t : TypeId) (hop : o.op = Op.makeSlice t l c)
    (base : Nat) (e : TypeId) (i : TypeInfo) (z : Value) (size : Nat) (h1 : P.underlying t = some (.slice e)) (h2 : P.info? e = some i) (h3 : i.zero = some z) (h4 : i.size = size)
    (kl kc : IntKind) (L C : Int) (m : Nat) (hl : a.eval l = .int kl L) (hc : a.eval c = .int kc C) (hL : L = (m : Int)) (hC : C = (m : Int)) (b2 : i.bytes * m ≤ 281474976710656) (b3 : m ≤ maxLen) (b4 : base ≤ w.heap.size)
    (hK : ∀ w', w'.ownsRow base e size (.slice (some ⟨w.heap.size, 0, none⟩) m m) m (madeCells z.cells (m * size)).toList → w.grownBy w' none → wpListIn F n P ops Q rest (a.put o.dst (.slice (some ⟨w.heap.size, 0, none⟩) m m)) w') :
    wpListIn F n P ops Q (o :: rest) a w := by
  refine wpListIn_plain hg fun K hK' => ?_
  obtain ⟨w', hrun, r1, r2⟩ := run_make_full (P := P) w base t e i z size h1 h2 h3 h4 kl kc m b2 b3 b4
  subst hL
  subst hC
  unfold Oper.wpIn
  refine ⟨?_, ?_⟩
  · simp [Oper.about, hop]
  · rw [Oper.semAt_plain F _ _ (by rw [hop]; intro c hc'; cases hc')]
    simp [execOp, hop, hl, hc, hrun, Result.andThen]
    exact hK' _ _ (hK w' r1 r2)

/-- What stands between two rounds of divideWord: the boxes, the quotient's row, and what they say when all has come in order. -/
def DwInv (w : World) (B0 R0 QB RB B : Nat) (xs : List Nat) (y : Nat) (pre : List (Fin xs.length)) (W : World) : Prop :=
  ∃ (ys : List Nat) (r : Nat), ys.length = xs.length ∧ r < y ∧ Boxed W B0 92 (.int .u64 y) ∧ Boxed W QB 42 (.slice (some ⟨R0, 0, none⟩) xs.length xs.length) ∧
    Boxed W RB 92 (.int .u64 r) ∧ W.ownsRow R0 92 1 (.slice (some ⟨R0, 0, none⟩) xs.length xs.length) xs.length (u64V ys) ∧
    (pre = dnk xs.length pre.length → Lm.small (ys.drop (xs.length - pre.length)) ∧ Lm.lval (ys.drop (xs.length - pre.length)) * y + r = Lm.lval (xs.drop (xs.length - pre.length))) ∧
    Below w.heap.size w W ∧ B ≤ W.heap.size

theorem own_other {W : World} {base e size n : Nat} {v : Value} {xs : List Value} (h : W.ownsRow base e size v n xs) (p : Addr) (u : Value) (hne : v.ownBlock ≠ some p.block) : (W.setCell p u).ownsRow base e size v n xs :=
  h.kept (row := some p.block) ⟨rfl, rfl, rfl, by simp, fun k _ hk => Below.heap_setCell W p u k (fun e => hk (by rw [e]))⟩ (.inr hne)

theorem boxed_other {W : World} {b t : Nat} {v u : Value} {p : Addr} (h : Boxed W b t v) (hne : b ≠ p.block) : Boxed (W.setCell p u) b t v := (Below.heap_setCell W p u b hne).trans h

theorem boxed_drew {W : World} {b t : Nat} {v : Value} (h : Boxed W b t v) : Boxed W.drew b t v := h

theorem boxed_below {W W' : World} {B b t : Nat} {v : Value} (h : Boxed W b t v) (hb : Below B W W') (hl : b < B) : Boxed W' b t v := (hb.block b hl).trans h

theorem DwInv.below {w : World} {B0 R0 QB RB B : Nat} {xs : List Nat} {y : Nat} {pre : List (Fin xs.length)} {W W' : World} (h : DwInv w B0 R0 QB RB B xs y pre W) (hb : Below B W W') (h0 : B0 < B) (h1 : R0 < B) (h2 : QB < B) (h3 : RB < B) (hw : w.heap.size ≤ B) : DwInv w B0 R0 QB RB B xs y pre W' := by
  obtain ⟨ys, r, a1, a2, a3, a4, a5, a7, a8, a9, a10⟩ := h
  exact ⟨ys, r, a1, a2, boxed_below a3 hb h0, boxed_below a4 hb h2, boxed_below a5 hb h3,
    own_belowB a7 hb (by intro g hg; simp [Value.ownBlock] at hg; omega), a8, a9.trans (hb.mono hw), Nat.le_trans a10 hb.size⟩

theorem divW_step (D X q r r' g y : Nat) (h : D * y + r = X) (hq : r * 1000000000 + g = q * y + r') : (q + 1000000000 * D) * y + r' = g + 1000000000 * X := by
  rw [← h, Nat.add_mul, Nat.mul_add, Nat.mul_assoc]
  omega

/-- A round of divideWord, said of the world that it leaves. -/

theorem dw_round {w W : World} {s1 B : Nat} {xs : List Nat} {y : Nat} {pre : List (Fin xs.length)} {ys : List Nat} {r : Nat} (hs1 : w.heap.size + 1 < s1) (hB : B = s1 + 3) (hlx : Lm.small xs) (hy0 : 0 < y) (hy : y ≤ 1000000000)
    (a1 : ys.length = xs.length) (a2 : r < y) (a3 : Boxed W w.heap.size 92 (.int .u64 y)) (a4 : Boxed W s1 42 (.slice (some ⟨w.heap.size + 1, 0, none⟩) xs.length xs.length))
    (a5 : Boxed W (s1 + 1) 92 (.int .u64 r)) (a7 : W.ownsRow (w.heap.size + 1) 92 1 (.slice (some ⟨w.heap.size + 1, 0, none⟩) xs.length xs.length) xs.length (u64V ys))
    (a8 : pre = dnk xs.length pre.length → Lm.small (ys.drop (xs.length - pre.length)) ∧ Lm.lval (ys.drop (xs.length - pre.length)) * y + r = Lm.lval (xs.drop (xs.length - pre.length)))
    (a9 : Below w.heap.size w W) (a10 : B ≤ W.heap.size) (hpre : pre.length < xs.length) (i : Nat) (hi : i < xs.length) (g : Nat) (hg : g = xs[i]) (v : Value) (W2 : World)
    (hW : W2 = ((W.setCell ⟨s1 + 1, 0, none⟩ v).setCell ⟨w.heap.size + 1, i, none⟩ (.int .u64 (((r : Int) * 1000000000 + (g : Int)) / (y : Int)))).drew) :
    KeepsFrom B W (W2.setCell ⟨s1 + 1, 0, none⟩ (.int .u64 (((r : Int) * 1000000000 + (g : Int)) % (y : Int)))) ∧
    KpB w.heap.size (s1 + 1 + 1) W (W2.setCell ⟨s1 + 1, 0, none⟩ (.int .u64 (((r : Int) * 1000000000 + (g : Int)) % (y : Int)))) ∧
    DwInv w w.heap.size (w.heap.size + 1) s1 (s1 + 1) B xs y (pre ++ [⟨i, hi⟩]) (W2.setCell ⟨s1 + 1, 0, none⟩ (.int .u64 (((r : Int) * 1000000000 + (g : Int)) % (y : Int)))) := by
  have hg9 : g < 1000000000 := by rw [hg]; exact hlx _ (List.getElem_mem _)
  obtain ⟨q, hq⟩ : ∃ q, q = (r * 1000000000 + g) / y := ⟨_, rfl⟩
  obtain ⟨r', hr'⟩ : ∃ r', r' = (r * 1000000000 + g) % y := ⟨_, rfl⟩
  have eq : ((r : Int) * 1000000000 + (g : Int)) / (y : Int) = (q : Nat) := by rw [hq]; simp
  have er : ((r : Int) * 1000000000 + (g : Int)) % (y : Int) = (r' : Nat) := by rw [hr']; simp
  rw [eq] at hW
  rw [er]
  have hdm : r * 1000000000 + g = q * y + r' := by rw [hq, hr', Nat.mul_comm _ y]; exact (Nat.div_add_mod _ _).symm
  have hr'y : r' < y := by rw [hr']; exact Nat.mod_lt _ hy0
  have hq9 : q < 1000000000 := by
    rw [hq]; apply Nat.div_lt_of_lt_mul
    have : (r + 1) * 1000000000 ≤ y * 1000000000 := Nat.mul_le_mul_right _ a2
    omega
  have k1 : KeepsOthers W W2 := by rw [hW]; exact ((KeepsOthers.setCell _ _ _).trans (KeepsOthers.setCell _ _ _)).trans (KeepsOthers.drew _)
  have b1 : Below w.heap.size W W2 := by
    rw [hW]
    exact (((Below.refl _ W).setCell (p := ⟨s1 + 1, 0, none⟩) (by simp; omega) _).setCell (p := ⟨w.heap.size + 1, i, none⟩) (by simp) _).drew
  have p1 : W2.heap[s1 + 1 + 1]? = W.heap[s1 + 1 + 1]? := by
    rw [hW]
    exact (Below.heap_setCell _ ⟨w.heap.size + 1, i, none⟩ _ (s1 + 1 + 1) (by simp; omega)).trans (Below.heap_setCell _ ⟨s1 + 1, 0, none⟩ _ (s1 + 1 + 1) (by simp))
  have o1 : W2.ownsRow (w.heap.size + 1) 92 1 (.slice (some ⟨w.heap.size + 1, 0, none⟩) xs.length xs.length) xs.length (u64V (ys.set i q)) := by
    have h1 := own_other a7 ⟨s1 + 1, 0, none⟩ v (by simp [Value.ownBlock]; omega)
    have h2 := (h1.stored i (.int .u64 (q : Nat))).1
    rw [u64V_set] at h2
    rw [hW]; exact h2.drew
  have f3 : Boxed W2 w.heap.size 92 (.int .u64 y) := by rw [hW]; exact boxed_drew (boxed_other (boxed_other a3 (by simp; omega)) (by simp))
  have f4 : Boxed W2 s1 42 (.slice (some ⟨w.heap.size + 1, 0, none⟩) xs.length xs.length) := by rw [hW]; exact boxed_drew (boxed_other (boxed_other a4 (by simp)) (by simp; omega))
  have f5 : Boxed W2 (s1 + 1) 92 v := by rw [hW]; exact boxed_drew (boxed_other (a5.set _) (by simp; omega))
  clear hW
  refine ⟨(k1.trans (KeepsOthers.setCell _ _ _)).from _, ⟨b1.setCell (p := ⟨s1 + 1, 0, none⟩) (by simp; omega) _, (Below.heap_setCell _ ⟨s1 + 1, 0, none⟩ _ (s1 + 1 + 1) (by simp)).trans p1⟩, ys.set i q, r', by simpa using a1, hr'y,
    boxed_other f3 (by simp; omega), boxed_other f4 (by simp), f5.set _, own_other o1 _ _ (by simp [Value.ownBlock]; omega), ?_, (a9.trans b1).setCell (p := ⟨s1 + 1, 0, none⟩) (by simp; omega) _, ?_⟩
  · intro hp
    obtain ⟨hp1, hp2⟩ := dnk_snoc hp hpre
    dsimp only at hp2
    obtain ⟨c1, c2⟩ := a8 hp1
    have e1 : xs.length - (pre ++ [(⟨i, hi⟩ : Fin xs.length)]).length = i := by simp; omega
    have e2 : xs.length - pre.length = i + 1 := by omega
    rw [e2] at c1 c2
    rw [e1]
    have d1 : (ys.set i q).drop i = q :: ys.drop (i + 1) := by
      rw [List.drop_eq_getElem_cons (by simpa using (by omega : i < ys.length)), List.drop_set_of_lt (by omega)]
      simp
    rw [d1, List.drop_eq_getElem_cons hi, ← hg]
    refine ⟨?_, ?_⟩
    · intro z hz
      rcases List.mem_cons.1 hz with h | h
      · rw [h]; exact hq9
      · exact c1 z h
    · simp only [Lm.lval]
      exact divW_step _ _ _ _ _ _ _ c2 hdm
  · have := b1.size
    rw [World.size_setCell]; omega

set_option maxRecDepth 100000 in
set_option maxHeartbeats 2000000 in
theorem divideWord_any (v : Value) (n y : Nat) (w : World) (hv : isN w v n) (hy0 : 0 < y) (hy : y ≤ 1000000000) (hL : n < 1000000000 ^ 10000) :
    Calls Tryd.prog 78 #[v, .int .u64 y] w fun e w' => (∃ (v' : Value) (r : Nat), e = .returned (.tuple #[v', .int .u64 r]) ∧ Hid (r = n % y) ∧ isN w' v' (n / y)) ∧ Below w.heap.size w w' := by
  obtain ⟨i0, hi, hz0, hz1, hz2⟩ := info_parts infoU64
  obtain ⟨xs, hr, hn⟩ := hv
  have hlen := Lm.isNat_length xs n 10000 hn hL
  obtain ⟨ao, cap, rfl, hao⟩ := rowN_open hr
  have HN : Hid (Lm.isNat xs n) := hn
  clear hn hL
  refine (callsIn_wide (n := 9)).1 ?_
  refine callsIn_of_wp_marks Tryd.func78 rfl trivial ?_ rfl
  simp only [Tryd.ntmps78, List.size_toArray, List.length_cons, List.length_nil, Nat.reduceAdd, Nat.reduceSub, Array.replicate_succ, Array.replicate_zero, List.push_toArray, List.append_toArray, List.nil_append, List.cons_append]
  gi_wp2_with (gi_at_make; refine wpListIn_make_full (w.alloc (.cells #[.int .u64 y] 92)) rfl _ _ 42 rfl (w.heap.size + 1) 92 i0 (.int .u64 0) 1 Tryd.underlying42 hi hz0 hz1 .i64 .i64 xs.length xs.length xs.length rfl rfl rfl rfl (by rw [hz2]; omega) (by unfold maxLen; omega) (by simp) ?_)
  intro w1 hown1 hgr1
  rw [toList_madeCells_one] at hown1
  have hb1 : Below w.heap.size w w1 := ((Below.refl _ w).alloc (Nat.le_refl _) _).grown hgr1 (by simp) (by intro k hk; cases hk)
  have hs1 : w.heap.size + 1 < w1.heap.size := by
    have := hown1.lt (w.heap.size + 1) rfl
    exact this.2
  have hcy : Boxed w1 w.heap.size 92 (.int .u64 y) := (Boxed.new w 92 (.int .u64 y)).kept hgr1 (by simp)
  gi_wp2_with fail
  refine ⟨trivial, (back_in Fence.wide 8 trivial rfl _ _ ⟨_, _, _, rfl⟩).mono ?_⟩
  rintro e w' ⟨rfl, rfl⟩
  gi_wp2_with fail
  have q1 := Boxed.new w1 42 (.slice (some ⟨w.heap.size + 1, 0, none⟩) xs.length xs.length)
  have r1 := Boxed.new (w1.alloc (Obj.cells #[Value.slice (some { block := w.heap.size + 1, off := 0 }) xs.length xs.length] 42)) 92 (.int .u64 0)
  have s1 := Boxed.new ((w1.alloc (Obj.cells #[Value.slice (some { block := w.heap.size + 1, off := 0 }) xs.length xs.length] 42)).alloc (Obj.cells #[Value.int IntKind.u64 0] 92)) 42 (.slice ao xs.length cap)
  have q3 := (q1.alloc (Obj.cells #[Value.int IntKind.u64 0] 92)).alloc (Obj.cells #[Value.slice ao xs.length cap] 42)
  have r3 := r1.alloc (Obj.cells #[Value.slice ao xs.length cap] 42)
  have y3 := ((hcy.alloc (Obj.cells #[Value.slice (some { block := w.heap.size + 1, off := 0 }) xs.length xs.length] 42)).alloc (Obj.cells #[Value.int IntKind.u64 0] 92)).alloc (Obj.cells #[Value.slice ao xs.length cap] 42)
  have o3 := ((hown1.alloc (Obj.cells #[Value.slice (some { block := w.heap.size + 1, off := 0 }) xs.length xs.length] 42)).alloc (Obj.cells #[Value.int IntKind.u64 0] 92)).alloc (Obj.cells #[Value.slice ao xs.length cap] 42)
  have b3 := ((hb1.alloc hb1.size (Obj.cells #[Value.slice (some { block := w.heap.size + 1, off := 0 }) xs.length xs.length] 42)).alloc (by simp; omega) (Obj.cells #[Value.int IntKind.u64 0] 92)).alloc (by simp; omega) (Obj.cells #[Value.slice ao xs.length cap] 42)
  have hsz : (((w1.alloc (Obj.cells #[Value.slice (some { block := w.heap.size + 1, off := 0 }) xs.length xs.length] 42)).alloc (Obj.cells #[Value.int IntKind.u64 0] 92)).alloc (Obj.cells #[Value.slice ao xs.length cap] 42)).heap.size = w1.heap.size + 3 := by simp
  simp only [World.size_alloc] at r1 r3 s1
  generalize ((w1.alloc (Obj.cells #[Value.slice (some { block := w.heap.size + 1, off := 0 }) xs.length xs.length] 42)).alloc (Obj.cells #[Value.int IntKind.u64 0] 92)).alloc (Obj.cells #[Value.slice ao xs.length cap] 42) = L at *
  have hlt3 : ∀ g, (Value.slice ao xs.length cap).ownBlock = some g → g < w.heap.size := fun g hg => (World.ownsRow.lt hr g hg).2
  have hr3 := rowN_below hr b3
  clear q1 r1 hown1 hgr1 hcy
  refine wpIn_rangeFunc_ownG rfl (by omega) (gf := 95) (lb := #[.pointer (some ⟨w1.heap.size + 1 + 1, 0, none⟩)]) rfl trivial (enters_of Tryd.func95 (by kernel_rfl) rfl)
    (back_stops Fence.wide 8 trivial rfl (by omega) (w1.heap.size + 1 + 1) w.heap.size (.slice ao xs.length cap) xs (by omega) L (by omega) (by omega) s1.cell hr3 hlt3) KpB.trans (KpB_b (by omega) (by omega)) (Below.refl _ _) (fun _ => rfl)
    (DwInv w w.heap.size (w.heap.size + 1) w1.heap.size (w1.heap.size + 1) L.heap.size xs y)
    (fun _ _ _ => False)
    (ownFrom_of (fun s W h => by obtain ⟨_, _, _, _, _, _, _, _, _, _, h⟩ := h; exact h) (fun s W W' h hb => h.below hb (by omega) (by omega) (by omega) (by omega) (by omega)))
    (fun _ _ _ _ _ hs _ _ => hs)
    ⟨List.replicate xs.length 0, 0, by simp, hy0, y3, q3, r3, by simpa [u64V] using o3, fun _ => by simp [Lm.lval, Lm.small_nil], b3, Nat.le_refl _⟩
    (fun x => { tmps := #[.slice ao xs.length cap, .int .u64 y, undef, .pointer (some ⟨w.heap.size, 0, none⟩), .slice none 0 0, .int .u64 0, .pointer (some ⟨w1.heap.size, 0, none⟩), .pointer (some ⟨w1.heap.size + 1, 0, none⟩), .int .i64 (x.1 : Nat), .int .u64 (xs[x.1]'x.2 : Nat), .slice ao xs.length cap, .int .i64 xs.length, .slice (some ⟨w.heap.size + 1, 0, none⟩) xs.length xs.length, .slice ao xs.length cap, .func (.func 95) #[] #[.pointer (some ⟨w1.heap.size + 1 + 1, 0, none⟩)], .int .i64 (x.1 : Nat), .int .u64 (xs[x.1]'x.2 : Nat), undef, undef, undef, undef, undef, undef, undef, undef, undef, undef, undef, undef, undef, undef, undef, undef], defers := [] }) ?assign ?body ?done ?stop
  case assign =>
    intro l x W K hK
    simp only [encG]
    gi_wp2
    exact hK
  case body =>
    rintro l pre x W ⟨ys, r, a1, a2, a3, a4, a5, a7, a8, a9, a10⟩ hpre
    have c3 := a3.cell
    have c4 := a4.cell
    have c5 := a5.cell
    have f5 := a5.frozen
    have hg9 := HN.out.2.1 (xs[x.1]'x.2) (List.getElem_mem _)
    have f7 := a7.frozenAt x.1
    have c7 : ∃ u, W.cell? ⟨w.heap.size + 1, x.1, none⟩ = some u := by
      have h1 := a7.cellAt x.1 (by have := x.2; omega)
      have h2 := a7.1
      rw [h1]
      exact ⟨_, List.getElem?_eq_getElem (by have := x.2; omega)⟩
    obtain ⟨u, c7⟩ := c7
    obtain ⟨i, hi⟩ := x
    dsimp only at c7 f7 hg9 ⊢
    obtain ⟨g, hg⟩ : ∃ g, g = xs[i] := ⟨_, rfl⟩
    rw [← hg] at hg9 ⊢
    have A8 : Hid _ := a8
    have A1 : Hid (ys.length = xs.length) := a1
    have HG : Hid (g = xs[i]) := hg
    clear a8 a1 hg q3 r3 y3 o3 b3 hr3 s1
    gi_wp2
    refine Go.wpIn_mono (Q := fun e a' w' => e = .normal ∧ a' = { tmps := #[.slice ao xs.length cap, .int .u64 y, undef, .pointer (some ⟨w.heap.size, 0, none⟩), .slice none 0 0, .int .u64 0, .pointer (some ⟨w1.heap.size, 0, none⟩), .pointer (some ⟨w1.heap.size + 1, 0, none⟩), .int .i64 i, .int .u64 g, .slice ao xs.length cap, .int .i64 xs.length, .slice (some ⟨w.heap.size + 1, 0, none⟩) xs.length xs.length, .slice ao xs.length cap, .func (.func 95) #[] #[.pointer (some ⟨w1.heap.size + 1 + 1, 0, none⟩)], .int .i64 i, .int .u64 g, .int .u64 r, .int .u64 ((r : Int) * 1000000000), .int .u64 g, .int .u64 ((r : Int) * 1000000000 + (g : Int)),
        .slice (some ⟨w.heap.size + 1, 0, none⟩) xs.length xs.length, .int .i64 i, .int .u64 ((r : Int) * 1000000000 + (g : Int)), .int .u64 y, .int .u64 (((r : Int) * 1000000000 + (g : Int)) / (y : Int)), .pointer (some ⟨w.heap.size + 1, i, none⟩), undef, undef, undef, undef, undef, undef], defers := [] } ∧
        w' = ((W.setCell ⟨w1.heap.size + 1, 0, none⟩ (.int .u64 ((r : Int) * 1000000000 + (g : Int)))).setCell ⟨w.heap.size + 1, i, none⟩ (.int .u64 (((r : Int) * 1000000000 + (g : Int)) / (y : Int)))).drew) ?_ ?_
    · clear hr hao HN A8 A1 HG a7 a9 a10 hlt3
      as_aux_lemma =>
        gi_region
        all_goals exact ⟨rfl, rfl, rfl⟩
    · rintro e a' w' ⟨rfl, rfl, hw'⟩
      have e5 : Boxed w' (w1.heap.size + 1) 92 (.int .u64 ((r : Int) * 1000000000 + (g : Int))) := by
        rw [hw']; exact boxed_drew (boxed_other (a5.set _) (by simp; omega))
      have e3 : Boxed w' w.heap.size 92 (.int .u64 y) := by
        rw [hw']; exact boxed_drew (boxed_other (boxed_other a3 (by simp; omega)) (by simp))
      have HW : Hid (w' = ((W.setCell ⟨w1.heap.size + 1, 0, none⟩ (.int .u64 ((r : Int) * 1000000000 + (g : Int)))).setCell ⟨w.heap.size + 1, i, none⟩ (.int .u64 (((r : Int) * 1000000000 + (g : Int)) / (y : Int)))).drew) := hw'
      have d5 := e5.cell
      have d5f := e5.frozen
      have d3 := e3.cell
      clear hw' c3 c4 c5 f5 f7 c7
      gi_wp2
      exact dw_round hs1 (by omega) HN.out.2.1 hy0 hy A1.out a2 a3 a4 a5 a7 A8.out a9 a10 hpre i hi g HG.out _ w' HW.out
  case done =>
    rintro D ps W hD rfl ⟨ys, r, a1, a2, a3, a4, a5, a7, a8, a9, a10⟩ hK
    have hdl : (dnk xs.length xs.length).length = xs.length := dnk_length _ _ (Nat.le_refl _)
    rw [hdl] at a8
    obtain ⟨e1, e2⟩ := a8 rfl
    rw [Nat.sub_self, List.drop_zero, List.drop_zero] at e2
    rw [Nat.sub_self, List.drop_zero] at e1
    rw [HN.out.1] at e2
    have e3 : n / y = Lm.lval ys ∧ n % y = r := by
      rw [← e2, Nat.mul_comm, Nat.mul_add_div hy0, Nat.div_eq_of_lt a2, Nat.mul_add_mod, Nat.mod_eq_of_lt a2]; exact ⟨by omega, rfl⟩
    have E3 : Hid (n / y = Lm.lval ys ∧ n % y = r) := e3
    have E1 : Hid (Lm.small ys) := e1
    have hrow : Hid (rowN W (.slice (some ⟨w.heap.size + 1, 0, none⟩) xs.length xs.length) ys) := by
      have := own_base a7 (Nat.zero_le _)
      show rowN _ _ _
      unfold rowN
      rw [a1]; exact this
    have hyl : ys.length ≤ 1000000 := by omega
    have c4 := a4.cell
    have c5 := a5.cell
    clear e1 e2 e3 a7 hr hr3 q3 r3 y3 o3 b3 s1 hao a8
    gi_wp2
    refine Go.wpIn_mono (Q := fun e a' w' => match e with | .normal => w' = W.drew ∧ ∃ v', Hid (isN W v' (Lm.lval ys)) ∧ a' = { tmps := #[.slice ao xs.length cap, .int .u64 y, undef, .pointer (some ⟨w.heap.size, 0, none⟩), v', .int .u64 r, .pointer (some ⟨w1.heap.size, 0, none⟩), .pointer (some ⟨w1.heap.size + 1, 0, none⟩), undef, undef, .slice ao xs.length cap, .int .i64 xs.length, .slice (some ⟨w.heap.size + 1, 0, none⟩) xs.length xs.length, .slice ao xs.length cap, .func (.func 95) #[] #[.pointer (some ⟨w1.heap.size + 1 + 1, 0, none⟩)],
        undef, undef, undef, undef, undef, undef, undef, undef, undef, undef, undef, undef, undef, undef, undef, .slice (some ⟨w.heap.size + 1, 0, none⟩) xs.length xs.length, v', .int .u64 r], defers := [{ target := .collected D, args := #[] }] } | _ => False) ?_ ?_
    · gi_region_with (refine ⟨trivial, ?_⟩; gi_at_call 73; refine (callsIn_wide.2 (trim_any _ ys _ (by exact hrow.out) E1.out hyl)).mono ?_; rintro e w' ⟨⟨v', rfl, hv'⟩, rfl⟩)
      all_goals exact ⟨rfl, _, (by assumption : isN W.drew _ _), rfl⟩
    · intro e a' w' hq
      cases e
      case normal =>
        obtain ⟨rfl, v', hv', rfl⟩ := hq
        gi_wp2
        have hKd : W.drew.heap[D]? = some (.deferred (some [])) := hK
        have hD3 : w.heap.size ≤ D := by omega
        refine ⟨by simp, .inl ⟨_, _, rfl, run_takeDeferred hKd, ?_⟩⟩
        obtain ⟨zs, hz, hzn⟩ := hv'
        have hz2 : rowN W.drew v' zs := World.ownsRow.drew hz
        refine ⟨_, results_tmp2 rfl _ _ _, ⟨v', r, rfl, E3.out.2.symm, zs, ownsRow_putObj hz2 _ hKd rfl, ?_⟩, (a9.drew).trans (belowK_b (w := w) (Nat.le_refl _) W.drew D _ _ hD3 hKd rfl rfl)⟩
        rw [E3.out.1]; exact hzn
      all_goals exact hq.elim
  case stop =>
    rintro D c pre W _ _ h _
    exact h.elim

end Go.Proofs.YtaggfbffdbompaaDoor
