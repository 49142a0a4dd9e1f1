/-
  What stands between two steps of the program's own way: the levels, the maps of places, the count.
-/
import Derived.Test.YtooeapjlfmknfaaTrI1
namespace Go.Proofs.Ytooeapjlfmknfaa.Tr
set_option maxRecDepth 100000
set_option linter.unusedVariables false
set_option linter.unusedSimpArgs false
open Go.RowKit Go.Deep
attribute [local go_sem ↓] Go.wp_at_zero Go.wp_at_succ

/-- One more number at a name. -/

theorem MapIs.bind {W : World} {base A n : Nat} {S : Nat → Prop} {L : ByteArray → List Nat} (h : MapIs W base A S n L) (hn : n < maxLen) (s : ByteArray) (hs : s.size ≤ maxLen) :
    ∃ v, (∀ W' : World, W'.heap[A]? = W.heap[A]? → (Instr.lookup 38 (.map (some A)) (.string s) false).run Try.prog W' = .ok v W') ∧ RowIn W base S v (L s) ∧
      ∀ (w1 : World) (v' : Value) (q G : Nat), W.grownBy w1 v.ownBlock → w1.ownsRow base 3 1 v' ((L s).length + 1) (intCells (L s) ++ [.int .i64 q]) → (v'.ownBlock = v.ownBlock ∨ v'.ownBlock = some G) → W.heap.size ≤ G →
        ∃ w2, ∃ S' : Nat → Prop, (Instr.mapUpdate 38 (.map (some A)) (.string s) v').run Try.prog w1 = .ok () w2 ∧ MapIs w2 base A S' (n + 1) (upd L s (L s ++ [q])) ∧ (∀ g, S' g → S g ∨ g = G) ∧ w1.grownBy w2 (some A) := by
  obtain ⟨v, h1, h2, h3⟩ := h.look hn s hs
  have hlt := h.lt
  refine ⟨v, h1, h2, fun w1 v' q G hg hown hloc hG => ?_⟩
  have hown' : w1.ownsRow base 3 1 v' (L s ++ [q]).length (intCells (L s ++ [q])) := by
    rw [List.length_append, List.length_singleton]
    have : intCells (L s ++ [q]) = intCells (L s) ++ [.int .i64 q] := by unfold intCells; simp
    rw [this]; exact hown
  obtain ⟨w2, e1, e2, e3⟩ := h3 w1 v' (L s ++ [q]) (fun g => S g ∨ (g = G ∧ v'.ownBlock = some G)) hg ⟨hown', fun g hg' => by
      rcases hloc with h | h
      · exact .inl (h2.2 g (by rw [← h]; exact hg'))
      · rw [h] at hg'; cases hg'; exact .inr ⟨rfl, h⟩⟩ (fun g h => .inl h)
    (fun g hg' => by
      rcases hg' with h4 | ⟨rfl, h4⟩
      · have := h.inS h4; exact ⟨this.1, Nat.lt_of_lt_of_le this.2 hg.size⟩
      · exact ⟨Nat.lt_of_lt_of_le hlt hG, (hown'.lt _ h4).2⟩)
    (by rcases hloc with h4 | h4
        · exact .inl h4
        · exact .inr ⟨G, h4, hG⟩)
  exact ⟨w2, _, e1, e2, fun g hg' => by rcases hg' with h4 | ⟨h4, _⟩; exact .inl h4; exact .inr h4, e3⟩

theorem row_ne_box {W : World} {base e size n b t : Nat} {v : Value} {xs : List Value} {cs : Array Value} (h : W.ownsRow base e size v n xs) (hb : boxAt W b cs t) (hne : t ≠ e) : v.ownBlock ≠ some b := by
  intro e1
  rcases h.2 with ⟨rfl, _⟩ | ⟨g, cap, cur, rfl, _, h3, _⟩
  · simp [Value.ownBlock] at e1
  · simp only [Value.ownBlock, Option.some.injEq] at e1
    subst e1
    rw [show W.heap[g]? = _ from hb] at h3
    simp only [Option.some.injEq, Obj.cells.injEq] at h3
    exact hne h3.2.1

theorem row_ne_row {W : World} {base base' e e' size size' n n' : Nat} {v v' : Value} {xs xs' : List Value} (h : W.ownsRow base e size v n xs) (h' : W.ownsRow base' e' size' v' n' xs') (hne : e' ≠ e) : v'.ownBlock = none ∨ v'.ownBlock ≠ v.ownBlock := by
  rcases h'.2 with ⟨rfl, _⟩ | ⟨g, cap, cur, rfl, _, h3, _⟩
  · exact .inl rfl
  · exact .inr (fun e1 => row_ne_box h (show boxAt W g cur e' from h3) hne e1.symm)

theorem row_ne_map {W : World} {base base' e size n B k : Nat} {v : Value} {xs : List Value} {S : Nat → Prop} {L : ByteArray → List Nat} (h : W.ownsRow base e size v n xs) (hb : MapIs W base' B S k L) : v.ownBlock ≠ some B := by
  intro e1
  obtain ⟨o, h1, h2⟩ := hb.isMap
  rcases h.2 with ⟨rfl, _⟩ | ⟨g, cap, cur, rfl, _, h3, _⟩
  · simp [Value.ownBlock] at e1
  · simp only [Value.ownBlock, Option.some.injEq] at e1
    subst e1
    rw [h3] at h1
    cases h1
    exact h2 _ _ _ rfl

theorem box_ne_map {W : World} {base B k b t : Nat} {cs : Array Value} {S : Nat → Prop} {L : ByteArray → List Nat} (hb : boxAt W b cs t) (hm : MapIs W base B S k L) : b ≠ B := by
  intro e1
  subst e1
  obtain ⟨o, h1, h2⟩ := hm.isMap
  rw [show W.heap[b]? = _ from hb] at h1
  cases h1
  exact h2 _ _ _ rfl

/-- A level's four values. -/
structure LvAt (w0 : World) (l : Lv) (q : Value × Value × Value × Value) : Prop where
  a : Lies w0 0 q.1 l.a
  b : Lies w0 0 q.2.1 l.b
  na : Strs w0 0 q.2.2.1 l.na
  nb : Strs w0 0 q.2.2.2 l.nb
def LvsAt (w0 : World) : List Lv → List (Value × Value × Value × Value) → Prop
  | [], [] => True
  | l :: r, q :: qs => LvAt w0 l q ∧ LvsAt w0 r qs
  | _, _ => False
def qcells (q : Value × Value × Value × Value) : List Value := [q.1, q.2.1, q.2.2.1, q.2.2.2]
/-- The levels' cells, the innermost last. -/
def lcells (qs : List (Value × Value × Value × Value)) : List Value := qs.reverse.flatMap qcells

theorem lcells_cons (q : Value × Value × Value × Value) (qs : List (Value × Value × Value × Value)) : lcells (q :: qs) = lcells qs ++ qcells q := by
  unfold lcells; simp [List.flatMap_append]

theorem LvsAt.length {w0 : World} : ∀ {st : List Lv} {qs : List (Value × Value × Value × Value)}, LvsAt w0 st qs → st.length = qs.length
  | [], [], _ => rfl
  | [], _ :: _, h => h.elim
  | _ :: _, [], h => h.elim
  | _ :: _, _ :: _, h => by rw [List.length_cons, List.length_cons, LvsAt.length h.2]

theorem lcells_length (qs : List (Value × Value × Value × Value)) : (lcells qs).length = qs.length * 4 := by
  induction qs with
  | nil => rfl
  | cons q qs ih => rw [lcells_cons, List.length_append, ih]; simp [qcells]; omega

/-- What stands between two steps. -/
structure St (w0 W : World) (M A B : Nat) (SA SB : Nat → Prop) (ov : Value) (p nA nB : Nat) (LA LB : ByteArray → List Nat) (st : List Lv) (qs : List (Value × Value × Value × Value)) : Prop where
  bel : Below w0.heap.size w0 W
  hM : w0.heap.size ≤ M
  hA : w0.heap.size ≤ A
  hB : w0.heap.size ≤ B
  hAB : A ≠ B
  box : boxAt W M #[ov, .int .i64 p, .map (some A), .map (some B)] 41
  mapA : MapIs W w0.heap.size A SA nA LA
  mapB : MapIs W w0.heap.size B SB nB LB
  sA : ∀ g, SA g → M < g ∧ A < g ∧ B < g
  sB : ∀ g, SB g → M < g ∧ A < g ∧ B < g
  dis : ∀ g, SA g → ¬ SB g
  sO : ∀ g, ov.ownBlock = some g → ¬ SA g ∧ ¬ SB g
  row : W.ownsRow w0.heap.size 44 4 ov st.length (lcells qs)
  lvs : LvsAt w0 st qs

theorem St.below {w0 W W' : World} {M A B : Nat} {SA SB : Nat → Prop} {ov : Value} {p nA nB : Nat} {LA LB : ByteArray → List Nat} {st : List Lv} {qs : List (Value × Value × Value × Value)} (h : St w0 W M A B SA SB ov p nA nB LA LB st qs) (hb : Below W.heap.size W W') : St w0 W' M A B SA SB ov p nA nB LA LB st qs :=
  ⟨h.bel.trans (hb.mono h.bel.size), h.hM, h.hA, h.hB, h.hAB, h.box.on hb, h.mapA.below hb, h.mapB.below hb, h.sA, h.sB, h.dis, h.sO, h.row.kept (grown_b (row := none) hb) (by cases ov.ownBlock <;> simp), h.lvs⟩

/-- Behind a store into the first map. -/

theorem St.afterA {w0 W w1 w2 : World} {M A B G : Nat} {SA SB SA' : Nat → Prop} {ov v : Value} {p nA nA' nB : Nat} {LA LB LA' : ByteArray → List Nat} {st : List Lv} {qs : List (Value × Value × Value × Value)} {l : List Nat} (h : St w0 W M A B SA SB ov p nA nB LA LB st qs)
    (hrow : RowIn W w0.heap.size SA v l) (hg : W.grownBy w1 v.ownBlock) (hg2 : w1.grownBy w2 (some A)) (hm : MapIs w2 w0.heap.size A SA' nA' LA') (hS : ∀ g, SA' g → SA g ∨ g = G) (hG : W.heap.size ≤ G) :
    St w0 w2 M A B SA' SB ov p nA' nB LA' LB st qs ∧ ∀ b cs t, boxAt W b cs t → t ≠ 3 → boxAt w2 b cs t := by
  have hk : ∀ b cs t, boxAt W b cs t → t ≠ 3 → boxAt w2 b cs t := fun b cs t hb ht =>
    (hb.grown hg (fun e => row_ne_box hrow.1 hb ht e.symm)).grown hg2 (fun e => box_ne_map hb h.mapA (by cases e; rfl))
  have hb1 : Below w0.heap.size w0 w1 := h.bel.grown hg h.bel.size (fun k hk' => (hrow.1.lt k hk').1)
  have hb2 : Below w0.heap.size w0 w2 := hb1.grown hg2 hb1.size (fun k hk' => by cases hk'; exact h.hA)
  have m1 : MapIs w1 w0.heap.size B SB nB LB := h.mapB.grown hg (fun r hr => ⟨fun e => row_ne_map hrow.1 h.mapB (by rw [hr, e]), fun e => h.dis r (hrow.2 r hr) e⟩)
  have m2 : MapIs w2 w0.heap.size B SB nB LB := m1.grown hg2 (fun r hr => by cases hr; exact ⟨h.hAB, fun e => Nat.lt_irrefl _ (h.sB A e).2.1⟩)
  have hMl := h.box.lt
  have hAl := h.mapA.lt
  have hBl := h.mapB.lt
  have r1 : w1.ownsRow w0.heap.size 44 4 ov st.length (lcells qs) := h.row.kept hg (row_ne_row hrow.1 h.row (by decide))
  refine ⟨⟨hb2, h.hM, h.hA, h.hB, h.hAB, hk _ _ _ h.box (by decide), hm, m2, fun g hg' => ?_, h.sB, fun g hg' => ?_, fun g hg' => ⟨fun e => ?_, (h.sO g hg').2⟩, ?_, h.lvs⟩, hk⟩
  · rcases hS g hg' with h1 | rfl
    · exact h.sA g h1
    · omega
  · rcases hS g hg' with h1 | rfl
    · exact h.dis g h1
    · intro e; have := (h.mapB.inS e).2; omega
  · rcases hS g e with h1 | rfl
    · exact (h.sO g hg').1 h1
    · have := (h.row.lt g hg').2; omega
  · refine r1.kept hg2 ?_
    cases ho : ov.ownBlock with
    | none => exact .inl rfl
    | some g => exact .inr (fun e => row_ne_map h.row h.mapA (by rw [ho]; exact e))
/-- .. into the second. -/

theorem St.afterB {w0 W w1 w2 : World} {M A B G : Nat} {SA SB SB' : Nat → Prop} {ov v : Value} {p nA nB nB' : Nat} {LA LB LB' : ByteArray → List Nat} {st : List Lv} {qs : List (Value × Value × Value × Value)} {l : List Nat} (h : St w0 W M A B SA SB ov p nA nB LA LB st qs)
    (hrow : RowIn W w0.heap.size SB v l) (hg : W.grownBy w1 v.ownBlock) (hg2 : w1.grownBy w2 (some B)) (hm : MapIs w2 w0.heap.size B SB' nB' LB') (hS : ∀ g, SB' g → SB g ∨ g = G) (hG : W.heap.size ≤ G) :
    St w0 w2 M A B SA SB' ov p nA nB' LA LB' st qs ∧ ∀ b cs t, boxAt W b cs t → t ≠ 3 → boxAt w2 b cs t := by
  have hk : ∀ b cs t, boxAt W b cs t → t ≠ 3 → boxAt w2 b cs t := fun b cs t hb ht =>
    (hb.grown hg (fun e => row_ne_box hrow.1 hb ht e.symm)).grown hg2 (fun e => box_ne_map hb h.mapB (by cases e; rfl))
  have hb1 : Below w0.heap.size w0 w1 := h.bel.grown hg h.bel.size (fun k hk' => (hrow.1.lt k hk').1)
  have hb2 : Below w0.heap.size w0 w2 := hb1.grown hg2 hb1.size (fun k hk' => by cases hk'; exact h.hB)
  have m1 : MapIs w1 w0.heap.size A SA nA LA := h.mapA.grown hg (fun r hr => ⟨fun e => row_ne_map hrow.1 h.mapA (by rw [hr, e]), fun e => h.dis r e (hrow.2 r hr)⟩)
  have m2 : MapIs w2 w0.heap.size A SA nA LA := m1.grown hg2 (fun r hr => by cases hr; exact ⟨h.hAB.symm, fun e => Nat.lt_irrefl _ (h.sA B e).2.2⟩)
  have hMl := h.box.lt
  have hAl := h.mapA.lt
  have hBl := h.mapB.lt
  have r1 : w1.ownsRow w0.heap.size 44 4 ov st.length (lcells qs) := h.row.kept hg (row_ne_row hrow.1 h.row (by decide))
  refine ⟨⟨hb2, h.hM, h.hA, h.hB, h.hAB, hk _ _ _ h.box (by decide), m2, hm, h.sA, fun g hg' => ?_, fun g hg' e => ?_, fun g hg' => ⟨(h.sO g hg').1, fun e => ?_⟩, ?_, h.lvs⟩, hk⟩
  · rcases hS g hg' with h1 | rfl
    · exact h.sB g h1
    · omega
  · rcases hS g e with h1 | rfl
    · exact h.dis g hg' h1
    · have := (h.mapA.inS hg').2; omega
  · rcases hS g e with h1 | rfl
    · exact (h.sO g hg').2 h1
    · have := (h.row.lt g hg').2; omega
  · refine r1.kept hg2 ?_
    cases ho : ov.ownBlock with
    | none => exact .inl rfl
    | some g => exact .inr (fun e => row_ne_map h.row h.mapB (by rw [ho]; exact e))
/-- A store into the box. -/

theorem St.setBox {w0 W : World} {M A B : Nat} {SA SB : Nat → Prop} {ov ov' : Value} {p p' nA nB : Nat} {LA LB : ByteArray → List Nat} {st st' : List Lv} {qs qs' : List (Value × Value × Value × Value)} (h : St w0 W M A B SA SB ov p nA nB LA LB st qs) (i : Nat) (u : Value)
    (hbox : (#[ov, Value.int .i64 p, .map (some A), .map (some B)] : Array Value).setIfInBounds i u = #[ov', .int .i64 p', .map (some A), .map (some B)]) (hrow : W.ownsRow w0.heap.size 44 4 ov' st'.length (lcells qs')) (hl : LvsAt w0 st' qs') (hO : ∀ g, ov'.ownBlock = some g → ¬ SA g ∧ ¬ SB g) :
    St w0 (W.setCell ⟨M, i, none⟩ u) M A B SA SB ov' p' nA nB LA LB st' qs' := by
  have hg := grown_set W M i u
  refine ⟨grown_bel h.bel hg h.hM (Nat.le_refl _), h.hM, h.hA, h.hB, h.hAB, ?_, h.mapA.grown hg (fun r hr => ?_), h.mapB.grown hg (fun r hr => ?_), h.sA, h.sB, h.dis, hO, hrow.kept hg ?_, hl⟩
  · rw [← hbox]; exact box_set h.box i u
  · cases hr; exact ⟨box_ne_map h.box h.mapA, fun e => Nat.lt_irrefl _ (h.sA M e).1⟩
  · cases hr; exact ⟨box_ne_map h.box h.mapB, fun e => Nat.lt_irrefl _ (h.sB M e).1⟩
  · cases ho : ov'.ownBlock with
    | none => exact .inl rfl
    | some g => exact .inr (fun e => row_ne_box hrow h.box (by decide) (by rw [ho]; exact e))
/-- Behind an append to the levels' row and its store into the box. -/

theorem St.push {w0 W w1 : World} {M A B : Nat} {SA SB : Nat → Prop} {ov ov' : Value} {p nA nB G : Nat} {LA LB : ByteArray → List Nat} {st st' : List Lv} {qs qs' : List (Value × Value × Value × Value)} (h : St w0 W M A B SA SB ov p nA nB LA LB st qs) (hg : W.grownBy w1 ov.ownBlock)
    (hrow : w1.ownsRow w0.heap.size 44 4 ov' st'.length (lcells qs')) (hl : LvsAt w0 st' qs') (hloc : ov'.ownBlock = ov.ownBlock ∨ ov'.ownBlock = some G) (hG : W.heap.size ≤ G) :
    St w0 (w1.setCell ⟨M, 0, none⟩ ov') M A B SA SB ov' p nA nB LA LB st' qs' ∧ ∀ b cs t, boxAt W b cs t → t ≠ 44 → b ≠ M → boxAt (w1.setCell ⟨M, 0, none⟩ ov') b cs t := by
  have hb1 : Below w0.heap.size w0 w1 := h.bel.grown hg h.bel.size (fun k hk' => (h.row.lt k hk').1)
  have x1 := h.box.grown hg (fun e => row_ne_box h.row h.box (by decide) e.symm)
  have m1 := h.mapA.grown hg (fun r hr => ⟨fun e => row_ne_map h.row h.mapA (by rw [hr, e]), (h.sO r hr).1⟩)
  have m2 := h.mapB.grown hg (fun r hr => ⟨fun e => row_ne_map h.row h.mapB (by rw [hr, e]), (h.sO r hr).2⟩)
  have hO : ∀ g, ov'.ownBlock = some g → ¬ SA g ∧ ¬ SB g := fun g hg' => by
    rcases hloc with e | e
    · exact h.sO g (by rw [← e]; exact hg')
    · rw [e] at hg'
      cases hg'
      exact ⟨fun e => by have := (h.mapA.inS e).2; omega, fun e => by have := (h.mapB.inS e).2; omega⟩
  have hg2 := grown_set w1 M 0 ov'
  refine ⟨⟨grown_bel hb1 hg2 h.hM (Nat.le_refl _), h.hM, h.hA, h.hB, h.hAB, box_set x1 0 ov', m1.grown hg2 (fun r hr => ?_), m2.grown hg2 (fun r hr => ?_), h.sA, h.sB, h.dis, hO, hrow.kept hg2 ?_, hl⟩, fun b cs t hb ht hne => ?_⟩
  · cases hr; exact ⟨box_ne_map h.box h.mapA, fun e => Nat.lt_irrefl _ (h.sA M e).1⟩
  · cases hr; exact ⟨box_ne_map h.box h.mapB, fun e => Nat.lt_irrefl _ (h.sB M e).1⟩
  · cases ho : ov'.ownBlock with
    | none => exact .inl rfl
    | some g => exact .inr (fun e => row_ne_box hrow x1 (by decide) (by rw [ho]; exact e))
  · exact (hb.grown hg (fun e => row_ne_box h.row hb ht e.symm)).grown hg2 (fun e => hne (by cases e; rfl))

/-- Pairs that are bound one behind the other, from a time on. -/
def bindN (p : Nat) : List (BA × BA) → TEnv → TEnv
  | [], env => env
  | z :: zs, env => bindN (p + 1) zs ((p, z) :: env)

theorem bindN_snoc (z : BA × BA) : ∀ (zs : List (BA × BA)) (p : Nat) (env : TEnv), bindN p (zs ++ [z]) env = (p + zs.length, z) :: bindN p zs env
  | [], p, env => rfl
  | y :: zs, p, env => by
    rw [List.cons_append, bindN, bindN_snoc z zs (p + 1), bindN, List.length_cons]
    congr 2
    omega

theorem bindN_pre : ∀ (zs : List (BA × BA)) (p : Nat) (env : TEnv), ∃ pre, bindN p zs env = pre ++ env ∧ pre.map (·.2) = zs.reverse
  | [], p, env => ⟨[], rfl, rfl⟩
  | z :: zs, p, env => by
    obtain ⟨pre, h1, h2⟩ := bindN_pre zs (p + 1) ((p, z) :: env)
    refine ⟨pre ++ [(p, z)], by rw [bindN, h1]; simp, by rw [List.map_append, h2]; simp⟩

theorem bindN_desc : ∀ (zs : List (BA × BA)) (p : Nat) (env : TEnv), Desc env → (∀ q ∈ env, q.1 < p) → Desc (bindN p zs env) ∧ ∀ q ∈ bindN p zs env, q.1 < p + zs.length
  | [], p, env, h1, h2 => ⟨h1, h2⟩
  | z :: zs, p, env, h1, h2 => by
    obtain ⟨h3, h4⟩ := bindN_desc zs (p + 1) ((p, z) :: env) (List.pairwise_cons.2 ⟨h2, h1⟩) (fun q hq => by
      rcases List.mem_cons.1 hq with rfl | hq
      · exact Nat.lt_succ_self _
      · exact Nat.lt_succ_of_lt (h2 q hq))
    exact ⟨h3, fun q hq => by have := h4 q hq; rw [List.length_cons]; omega⟩

theorem timesA_step (t : Nat) (x y : BA) (env : TEnv) : ∀ a, upd (timesOf (·.1) env) x (timesOf (·.1) env x ++ [t]) a = timesOf (·.1) ((t, x, y) :: env) a := fun a => by
  have hlaw := lawfulBA
  rw [timesOf_cons]
  unfold upd
  by_cases e : x = a
  · subst e; rw [if_pos rfl, if_pos (beq_self_eq_true _)]
  · rw [if_neg e, if_neg (by rw [beq_iff_eq]; exact e), List.append_nil]

theorem timesB_step (t : Nat) (x y : BA) (env : TEnv) : ∀ a, upd (timesOf (·.2) env) y (timesOf (·.2) env y ++ [t]) a = timesOf (·.2) ((t, x, y) :: env) a := fun a => by
  have hlaw := lawfulBA
  rw [timesOf_cons]
  unfold upd
  by_cases e : y = a
  · subst e; rw [if_pos rfl, if_pos (beq_self_eq_true _)]
  · rw [if_neg e, if_neg (by rw [beq_iff_eq]; exact e), List.append_nil]

end Go.Proofs.Ytooeapjlfmknfaa.Tr
