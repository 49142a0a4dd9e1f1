/-
  The program's next step within a level, and its way out of one: what is known of memory.
-/
import Derived.Test.YtooeapjlfmknfaaTrI3
namespace Go.Proofs.Ytooeapjlfmknfaa.Tr
set_option maxRecDepth 100000
set_option linter.unusedVariables false
set_option linter.unusedSimpArgs false
open Go.RowKit Go.Deep
attribute [local go_sem ↓] Go.wp_at_zero Go.wp_at_succ

theorem St.open_ {w0 W : World} {M A B : Nat} {SA SB : Nat → Prop} {ov : Value} {p nA nB : Nat} {LA LB : ByteArray → List Nat} {l : Lv} {st : List Lv} {qs : List (Value × Value × Value × Value)} (h : St w0 W M A B SA SB ov p nA nB LA LB (l :: st) qs) : ∃ g cap, ov = .slice (some ⟨g, 0, none⟩) (st.length + 1) cap ∧ st.length + 1 ≤ cap := by
  rcases h.row.2 with ⟨_, h1⟩ | ⟨g, cap, cur, h1, _, _, h4, _⟩
  · exact absurd h1 (Nat.succ_ne_zero _)
  · exact ⟨g, cap, h1, h4⟩

theorem St.cells {w0 W : World} {M A B g cap : Nat} {SA SB : Nat → Prop} {p nA nB : Nat} {LA LB : ByteArray → List Nat} {l : Lv} {st : List Lv} {q : Value × Value × Value × Value} {qs : List (Value × Value × Value × Value)} (h : St w0 W M A B SA SB (.slice (some ⟨g, 0, none⟩) (st.length + 1) cap) p nA nB LA LB (l :: st) (q :: qs)) :
    W.cell? ⟨g, st.length * 4, none⟩ = some q.1 ∧ W.cell? ⟨g, st.length * 4 + 1, none⟩ = some q.2.1 ∧ W.cell? ⟨g, st.length * 4 + 2, none⟩ = some q.2.2.1 ∧ W.cell? ⟨g, st.length * 4 + 3, none⟩ = some q.2.2.2 ∧ ∀ o, W.frozen? ⟨g, o, none⟩ = false := by
  have hr := h.row
  have hq : (lcells qs).length = st.length * 4 := by
    have := h.lvs.length
    rw [lcells_length]; simp at this; omega
  rw [lcells_cons] at hr
  have hc : ∀ j, j < 4 → W.cell? ⟨g, st.length * 4 + j, none⟩ = (qcells q)[j]? := fun j hj => by
    have := hr.cellAt (st.length * 4 + j) (by omega)
    rw [this, List.getElem?_append_right (by omega), hq, Nat.add_sub_cancel_left]
  refine ⟨(hc 0 (by omega)).trans rfl, (hc 1 (by omega)).trans rfl, (hc 2 (by omega)).trans rfl, (hc 3 (by omega)).trans rfl, fun o => ?_⟩
  rcases hr.2 with ⟨h1, _⟩ | ⟨g', cap', cur, h1, _, h3, _⟩
  · cases h1
  · cases h1
    simp [World.frozen?, h3]
/-- Behind what changes the first map alone. -/

theorem St.onlyA {w0 W w1 : World} {M A B : Nat} {SA SB : Nat → Prop} {ov : Value} {p nA nA' nB : Nat} {LA LB LA' : ByteArray → List Nat} {st : List Lv} {qs : List (Value × Value × Value × Value)} (h : St w0 W M A B SA SB ov p nA nB LA LB st qs)
    (hg : W.grownBy w1 (some A)) (hm : MapIs w1 w0.heap.size A SA nA' LA') : St w0 w1 M A B SA SB ov p nA' nB LA' LB st qs := by
  refine ⟨h.bel.grown hg h.bel.size (fun k hk => by cases hk; exact h.hA), h.hM, h.hA, h.hB, h.hAB, h.box.grown hg (fun e => box_ne_map h.box h.mapA (by cases e; rfl)), hm, h.mapB.grown hg (fun r hr => by cases hr; exact ⟨h.hAB, fun e => Nat.lt_irrefl _ (h.sB A e).2.1⟩), h.sA, h.sB, h.dis, h.sO, h.row.kept hg ?_, h.lvs⟩
  cases ho : ov.ownBlock with
  | none => exact .inl rfl
  | some g => exact .inr (fun e => row_ne_map h.row h.mapA (by rw [ho]; exact e))

theorem St.onlyB {w0 W w1 : World} {M A B : Nat} {SA SB : Nat → Prop} {ov : Value} {p nA nB nB' : Nat} {LA LB LB' : ByteArray → List Nat} {st : List Lv} {qs : List (Value × Value × Value × Value)} (h : St w0 W M A B SA SB ov p nA nB LA LB st qs)
    (hg : W.grownBy w1 (some B)) (hm : MapIs w1 w0.heap.size B SB nB' LB') : St w0 w1 M A B SA SB ov p nA nB' LA LB' st qs := by
  refine ⟨h.bel.grown hg h.bel.size (fun k hk => by cases hk; exact h.hB), h.hM, h.hA, h.hB, h.hAB, h.box.grown hg (fun e => box_ne_map h.box h.mapB (by cases e; rfl)), h.mapA.grown hg (fun r hr => by cases hr; exact ⟨h.hAB.symm, fun e => Nat.lt_irrefl _ (h.sA B e).2.2⟩), hm, h.sA, h.sB, h.dis, h.sO, h.row.kept hg ?_, h.lvs⟩
  cases ho : ov.ownBlock with
  | none => exact .inl rfl
  | some g => exact .inr (fun e => row_ne_map h.row h.mapB (by rw [ho]; exact e))
/-- The row without its last level. -/

theorem St.short {w0 W : World} {M A B g cap : Nat} {SA SB : Nat → Prop} {p nA nB : Nat} {LA LB : ByteArray → List Nat} {l : Lv} {st : List Lv} {q : Value × Value × Value × Value} {qs : List (Value × Value × Value × Value)} (h : St w0 W M A B SA SB (.slice (some ⟨g, 0, none⟩) (st.length + 1) cap) p nA nB LA LB (l :: st) (q :: qs)) :
    W.ownsRow w0.heap.size 44 4 (.slice (some ⟨g, 0, none⟩) st.length cap) st.length (lcells qs) ∧ LvsAt w0 st qs := by
  have hl : LvsAt w0 st qs := h.lvs.2
  refine ⟨?_, hl⟩
  have hr := h.row
  have hq : (lcells qs).length = st.length * 4 := by rw [lcells_length, hl.length]
  refine ⟨hq, ?_⟩
  rcases hr.2 with ⟨h1, _⟩ | ⟨g', cap', cur, e1, e2, e3, e4, e5, e6, e7⟩
  · cases h1
  · cases e1
    refine .inr ⟨g, cap, cur, rfl, e2, e3, by simp at e4; omega, e5, e6, ?_⟩
    rw [lcells_cons] at e7
    have e8 : (lcells qs ++ qcells q).take (st.length * 4) = lcells qs := by rw [← hq]; exact List.take_left
    rw [← e8, ← e7, List.take_take]
    congr 1
    rw [List.length_cons]
    omega
/-- The last level's two lists, each without its first part. -/

theorem St.next {w0 W : World} {M A B g cap : Nat} {SA SB : Nat → Prop} {p nA nB : Nat} {LA LB : ByteArray → List Nat} {l l' : Lv} {st : List Lv} {va vb vna vnb va' vb' : Value} {qs : List (Value × Value × Value × Value)} (h : St w0 W M A B SA SB (.slice (some ⟨g, 0, none⟩) (st.length + 1) cap) p nA nB LA LB (l :: st) ((va, vb, vna, vnb) :: qs))
    (hl : LvAt w0 l' (va', vb', vna, vnb)) :
    St w0 ((W.setCell ⟨g, st.length * 4, none⟩ va').setCell ⟨g, st.length * 4 + 1, none⟩ vb') M A B SA SB (.slice (some ⟨g, 0, none⟩) (st.length + 1) cap) p nA nB LA LB (l' :: st) ((va', vb', vna, vnb) :: qs) ∧
      ∀ b cs t, boxAt W b cs t → t ≠ 44 → boxAt ((W.setCell ⟨g, st.length * 4, none⟩ va').setCell ⟨g, st.length * 4 + 1, none⟩ vb') b cs t := by
  have hls : LvsAt w0 st qs := h.lvs.2
  have hq : (lcells qs).length = st.length * 4 := by rw [lcells_length, hls.length]
  have hr : W.ownsRow w0.heap.size 44 4 (.slice (some ⟨g, 0, none⟩) (st.length + 1) cap) (st.length + 1) (lcells ((va, vb, vna, vnb) :: qs)) := h.row
  have r1 := (hr.stored (st.length * 4) va').1
  have r2 := (r1.stored (st.length * 4 + 1) vb').1
  have hcells : ((lcells ((va, vb, vna, vnb) :: qs)).set (st.length * 4) va').set (st.length * 4 + 1) vb' = lcells ((va', vb', vna, vnb) :: qs) := by
    rw [lcells_cons, lcells_cons, List.set_append_right _ _ (by omega), List.set_append_right _ _ (by omega), hq, Nat.sub_self, Nat.add_sub_cancel_left]
    rfl
  rw [hcells] at r2
  have hg : W.grownBy ((W.setCell ⟨g, st.length * 4, none⟩ va').setCell ⟨g, st.length * 4 + 1, none⟩ vb') (some g) := grown_t (grown_set _ _ _ _) (grown_set _ _ _ _)
  have hgb := (hr.lt g rfl).1
  have hno := h.sO g rfl
  have hbx : ∀ b cs t, boxAt W b cs t → t ≠ 44 → boxAt ((W.setCell ⟨g, st.length * 4, none⟩ va').setCell ⟨g, st.length * 4 + 1, none⟩ vb') b cs t := fun b cs t hb ht => hb.grown hg (fun e => row_ne_box hr hb ht (by cases e; rfl))
  exact ⟨⟨h.bel.grown hg h.bel.size (fun k hk => by cases hk; exact hgb), h.hM, h.hA, h.hB, h.hAB, hbx _ _ _ h.box (by decide), h.mapA.grown hg (fun r hr' => by cases hr'; exact ⟨fun e => row_ne_map hr h.mapA (by rw [← e]; rfl), hno.1⟩), h.mapB.grown hg (fun r hr' => by cases hr'; exact ⟨fun e => row_ne_map hr h.mapB (by rw [← e]; rfl), hno.2⟩), h.sA, h.sB, h.dis, h.sO, r2, ⟨hl, hls⟩⟩, hbx⟩

set_option maxHeartbeats 400000 in
theorem within_no (W : World) (M : Nat) (aa : Option Addr) (ka ca : Nat) (ab : Option Addr) (kb cb : Nat) (an : Option Addr) (kn cn : Nat) (an2 : Option Addr) (kn2 cn2 : Nat) (h : ¬ (ka = kb ∧ kn = kn2)) :
    Calls Try.prog 12 #[.pointer (some ⟨M, 0, none⟩), .agg #[.slice aa ka ca, .slice ab kb cb, .slice an kn cn, .slice an2 kn2 cn2]] W fun e w' => e = .returned (.bool false) ∧ Below W.heap.size W w' := by
  by_cases h1 : ka = kb
  · subst h1
    have h2 : ¬ kn = kn2 := fun e => h ⟨rfl, e⟩
    have t1 : ((kn : Int) == (kn2 : Int)) = false := by rw [beq_eq_false_iff_ne]; omega
    have t2 : ((kn : Int) != (kn2 : Int)) = true := by rw [bne, t1]; rfl
    clear h
    go_enter Try.func12, Try.ntmps12
    go_wp2
    go_ret
    exact ⟨rfl, belA (Below.refl _ _)⟩
  · have t1 : ((ka : Int) == (kb : Int)) = false := by rw [beq_eq_false_iff_ne]; omega
    have t2 : ((ka : Int) != (kb : Int)) = true := by rw [bne, t1]; rfl
    clear h
    go_enter Try.func12, Try.ntmps12
    go_wp2
    go_ret
    exact ⟨rfl, belA (Below.refl _ _)⟩

end Go.Proofs.Ytooeapjlfmknfaa.Tr
