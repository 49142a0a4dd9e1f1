/-
  Contracts of the program's whole numbers with a sign.
-/
import Derived.Test.YtaggfbffdbompaaDoorImpl5
import Derived.Test.YtaggfbffdbompaaDoorOnce
import Derived.Deep.RegionWith
import Derived.Deep.RegionHeld3
import Derived.Deep.DrawnRows
namespace Go.Proofs.YtaggfbffdbompaaDoor
set_option maxRecDepth 100000
set_option linter.unusedVariables false
set_option linter.unusedSimpArgs false
open Go.RowKit
attribute [local go_sem ↓] Go.wp_at_zero Go.wp_at_succ

theorem isN_slice {w : World} {v : Value} {n : Nat} (h : isN w v n) : ∃ ao len cap, v = .slice ao len cap := by
  obtain ⟨xs, h1, _⟩ := h
  obtain ⟨ao, cap, h2, _⟩ := rowN_open h1
  exact ⟨ao, _, cap, h2⟩

theorem bcell {W w1 : World} (hb : Below W.heap.size W w1) : (∀ b o, b < W.heap.size → w1.cell? ⟨b, o, none⟩ = W.cell? ⟨b, o, none⟩) ∧ (∀ b o, b < W.heap.size → w1.frozen? ⟨b, o, none⟩ = W.frozen? ⟨b, o, none⟩) :=
  ⟨fun b o h => hb.cell (p := ⟨b, o, none⟩) h, fun b o h => hb.frozen (p := ⟨b, o, none⟩) h⟩

theorem below_drew (w : World) : Below w.heap.size w w.drew := ⟨rfl, rfl, rfl, Nat.le_refl _, fun _ _ => rfl⟩

/-- A block that holds a variable's cells. -/
def boxAt (W : World) (b : Nat) (cs : Array Value) (t : Nat) : Prop := W.heap[b]? = some (.cells cs t (0, 0))

theorem boxAt.lt {W : World} {b t : Nat} {cs : Array Value} (h : boxAt W b cs t) : b < W.heap.size := (Array.getElem?_eq_some_iff.1 h).1

theorem boxAt.cell {W : World} {b t : Nat} {cs : Array Value} (h : boxAt W b cs t) (i : Nat) {x : Value} (hx : cs[i]? = some x) : W.cell? ⟨b, i, none⟩ = some x := by
  have h' : W.heap[b]? = some (.cells cs t (0, 0)) := h
  simp [World.cell?, h', hx]

theorem boxAt.frozen {W : World} {b t : Nat} {cs : Array Value} (h : boxAt W b cs t) (i : Nat) : W.frozen? ⟨b, i, none⟩ = false := by
  have h' : W.heap[b]? = some (.cells cs t (0, 0)) := h
  simp [World.frozen?, h']

theorem boxAt.on {W W1 : World} {b t : Nat} {cs : Array Value} (h : boxAt W b cs t) (hb : Below W.heap.size W W1) : boxAt W1 b cs t := (hb.block b h.lt).trans h

theorem boxAt.drew {W : World} {b t : Nat} {cs : Array Value} (h : boxAt W b cs t) : boxAt W.drew b cs t := h

theorem boxAt.alloc {W : World} {b t : Nat} {cs : Array Value} (h : boxAt W b cs t) (o : Obj) : boxAt (W.alloc o) b cs t := h.on ((Below.refl _ _).alloc (Nat.le_refl _) _)

theorem boxAt.set {W : World} {b t b' o' : Nat} {cs : Array Value} {u : Value} (h : boxAt W b cs t) (hne : b ≠ b') : boxAt (W.setCell ⟨b', o', none⟩ u) b cs t := (Below.heap_setCell W ⟨b', o', none⟩ u b hne).trans h

theorem boxAt_new (w : World) (cs : Array Value) (t : Nat) : boxAt (w.alloc (.cells cs t)) w.heap.size cs t := World.alloc_heap_new w _

theorem cell_lt {W : World} {b o : Nat} {x : Value} (h : W.cell? ⟨b, o, none⟩ = some x) : b < W.heap.size := by
  rcases Nat.lt_or_ge b W.heap.size with h3 | h3
  · exact h3
  · have hn : W.heap[b]? = none := by simp; omega
    rw [World.cell?, hn] at h
    exact absurd h (by simp)

theorem cell_on {W w1 : World} {b o : Nat} {x : Value} (hb : Below W.heap.size W w1) (h : W.cell? ⟨b, o, none⟩ = some x) : w1.cell? ⟨b, o, none⟩ = some x := (hb.cell (p := ⟨b, o, none⟩) (cell_lt h)).trans h

theorem isN_apart {W : World} {v : Value} {n b t : Nat} {cs : Array Value} (h : isN W v n) (hb : boxAt W b cs t) (ht : t ≠ 92) : v.ownBlock ≠ some b := by
  obtain ⟨xs, h1, _⟩ := h
  intro e
  rcases h1.2 with ⟨rfl, _⟩ | ⟨g, cap, cur, rfl, _, h3, _⟩
  · simp [Value.ownBlock] at e
  · simp only [Value.ownBlock, Option.some.injEq] at e
    subst e
    rw [show W.heap[g]? = _ from hb] at h3
    simp only [Option.some.injEq, Obj.cells.injEq] at h3
    exact ht h3.2.1

theorem keep_set {W : World} {b o b' o' : Nat} {x u : Value} (h : W.cell? ⟨b, o, none⟩ = some x) (hne : b ≠ b') : (W.setCell ⟨b', o', none⟩ u).cell? ⟨b, o, none⟩ = some x := by
  have e := Below.heap_setCell W ⟨b', o', none⟩ u b hne
  rw [World.cell?] at h ⊢
  rw [e]
  exact h

theorem isN_set {W : World} {v u : Value} {n b' o' : Nat} (h : isN W v n) (hne : v.ownBlock ≠ some b') : isN (W.setCell ⟨b', o', none⟩ u) v n := by
  obtain ⟨xs, h1, h2⟩ := h
  exact ⟨xs, own_other h1 ⟨b', o', none⟩ u hne, h2⟩

theorem boxes3 (w : World) (c0 c1 c2 : Array Value) (t0 t1 t2 : Nat) : ∃ W, W = ((w.alloc (Obj.cells c0 t0)).alloc (Obj.cells c1 t1)).alloc (Obj.cells c2 t2) ∧ Below w.heap.size w W ∧
    boxAt W w.heap.size c0 t0 ∧ boxAt W (w.heap.size + 1) c1 t1 ∧ boxAt W (w.heap.size + 1 + 1) c2 t2 := by
  have hs : ∀ (w : World) o, (w.alloc o).heap.size = w.heap.size + 1 := fun w o => by show (w.heap.push _).size = _; simp
  refine ⟨_, rfl, (((Below.refl _ _).alloc (Nat.le_refl _) _).alloc (by rw [hs]; omega) _).alloc (by rw [hs, hs]; omega) _, ((boxAt_new w c0 t0).alloc _).alloc _, ?_, ?_⟩
  · have := (boxAt_new (w.alloc (Obj.cells c0 t0)) c1 t1).alloc (Obj.cells c2 t2)
    rw [hs] at this
    exact this
  · have := boxAt_new ((w.alloc (Obj.cells c0 t0)).alloc (Obj.cells c1 t1)) c2 t2
    rw [hs, hs] at this
    exact this

theorem bnot_eq (b b2 : Bool) : (b != b2) = (!b == b2) := by cases b <;> cases b2 <;> rfl

set_option maxHeartbeats 1600000 in
theorem times_s (b : Bool) (ao : Option Addr) (len cap : Nat) (b2 : Bool) (ao2 : Option Addr) (len2 cap2 : Nat) (n m : Nat) (w : World) (hn : isN w (.slice ao len cap) n) (hm : isN w (.slice ao2 len2 cap2) m) (fn : fits n 10000) (fm : fits m 10000) :
    Calls Tryd.prog 128 #[.agg #[.bool b, .slice ao len cap], .agg #[.bool b2, .slice ao2 len2 cap2]] w fun e w' => (∃ ao3 len3 cap3, e = .returned (.agg #[.bool (b != b2), .slice ao3 len3 cap3]) ∧ isN w' (.slice ao3 len3 cap3) (n * m)) ∧ Below w.heap.size w w' := by
  go_enter Tryd.func128, Tryd.ntmps128
  go_wp2_with fail
  obtain ⟨W, hW, hBW, x0, x1, x2⟩ := boxes3 w #[Value.bool b, Value.slice ao len cap] #[Value.bool b2, Value.slice ao2 len2 cap2] #[Value.bool false, Value.slice none 0 0] 44 44 44
  rw [← hW]
  have HNW : Hid (isN W (.slice ao len cap) n) := isN_below hn hBW
  have HMW : Hid (isN W (.slice ao2 len2 cap2) m) := isN_below hm hBW
  have HBW : Hid (Below w.heap.size w W) := hBW
  have k00 := x0.cell 0 rfl
  have k01 := x0.cell 1 rfl
  have k10 := x1.cell 0 rfl
  have k11 := x1.cell 1 rfl
  have X2 : Hid (boxAt W _ _ _) := x2
  clear hW hn hm hBW x0 x1 x2
  refine Go.wp_mono (Q := fun e a' w' => match e with | .normal => (∃ us : Array Value, a' = { tmps := us, defers := [] } ∧ us[4]? = some (.pointer (some ⟨w.heap.size + 1 + 1, 0, none⟩))) ∧ (∃ ao3 len3 cap3, w'.cell? ⟨w.heap.size + 1 + 1, 0, none⟩ = some (.bool (b != b2)) ∧ w'.cell? ⟨w.heap.size + 1 + 1, 1, none⟩ = some (.slice ao3 len3 cap3) ∧ isN w' (.slice ao3 len3 cap3) (n * m)) ∧ Below w.heap.size w w' | _ => False) ?_ ?_
  · go_region_held3 (fun w' => (w'.cell? ⟨w.heap.size, 0, none⟩ = some (.bool b) ∧ w'.cell? ⟨w.heap.size, 1, none⟩ = some (.slice ao len cap)) ∧ (w'.cell? ⟨w.heap.size + 1, 0, none⟩ = some (.bool b2) ∧ w'.cell? ⟨w.heap.size + 1, 1, none⟩ = some (.slice ao2 len2 cap2)))
      ((repeat' apply And.intro) <;> first | (with_reducible assumption) | ((with_reducible refine keep_set (keep_set ?_ ?_) ?_) <;> first | omega | assumption) | (go_keep; done))
      ((go_at_call 48; refine (times_any _ _ n m _ (isN_below HNW.out (below_drew _)) (isN_below HMW.out (below_drew _)) fn.out fm.out).mono ?_; rintro e w3 ⟨⟨v3, rfl, h3⟩, hb3⟩; obtain ⟨ao3, len3, cap3, rfl⟩ := isN_slice h3; have H3 : Hid (isN w3 (.slice ao3 len3 cap3) (n * m)) := h3; have HB3 : Hid (Below W.drew.heap.size W.drew w3) := hb3
        have j00 := cell_on hb3 (W := W.drew) k00; have j01 := cell_on hb3 (W := W.drew) k01; have j10 := cell_on hb3 (W := W.drew) k10; have j11 := cell_on hb3 (W := W.drew) k11
        have y2 := X2.out.drew.on hb3; have j20 := y2.cell 0 rfl; have j21 := y2.cell 1 rfl; have g20 := y2.frozen 0; have g21 := y2.frozen 1; have Y2 : Hid (boxAt w3 _ _ _) := y2; clear h3 hb3 y2))
    all_goals
      have hz2 := Y2.out.lt
      have hap := isN_apart H3.out Y2.out (by decide)
      refine ⟨⟨_, rfl, rfl⟩, ⟨ao3, len3, cap3, ?_, ?_, isN_set (isN_set H3.out hap) hap⟩, ?_⟩
      · rw [bnot_eq]; go_simp
      · go_simp
      · exact ((HBW.out.drew.trans (HB3.out.mono HBW.out.size)).setCell (by show _ ≤ w.heap.size + 1 + 1; omega) _).setCell (by show _ ≤ w.heap.size + 1 + 1; omega) _
  · intro e a' w' hq
    cases e
    case normal =>
      obtain ⟨⟨us, rfl, hus⟩, ⟨ao3, len3, cap3, hv0, hv1, hv⟩, hb⟩ := hq
      go_wp2
      simp only [bodyPost]
      refine ⟨trivial, _, ?_, ⟨ao3, len3, cap3, rfl, hv⟩, hb⟩
      simp only [results, Tryd.results128]
      go_simp
    all_goals exact hq.elim

end Go.Proofs.YtaggfbffdbompaaDoor
