/-
  Blocks that a call has made: boxes of variables, rows that are filled one by one.
-/
import Derived.Test.YtooeapjlfmknfaaTrA
import Derived.Test.YtooeapjlfmknfaaProg
import Derived.Maps.RangeWalk
import Derived.OwnWalk
import Derived.Deep.RegionWith
import Derived.Deep.RegionHeld3
import Derived.Deep.DrawnRows
import Derived.Deep.QuietTactic
import Derived.BigQuiet
import Derived.Deep.OwnRows
namespace Go.Proofs.Ytooeapjlfmknfaa.Tr
set_option maxRecDepth 100000
set_option linter.unusedVariables false
set_option linter.unusedSimpArgs false
open Go.RowKit

/-- A block that holds just these cells. -/
def boxAt (W : World) (b : Nat) (cs : Array Value) (t : Nat) : Prop := W.heap[b]? = some (.cells cs t (0, 0))

theorem boxAt.lt {W : World} {b t : Nat} {cs : Array Value} (h : boxAt W b cs t) : b < W.heap.size := (Array.getElem?_eq_some_iff.1 h).1

theorem boxAt.cell {W : World} {b t : Nat} {cs : Array Value} (h : boxAt W b cs t) (i : Nat) {x : Value} (hx : cs[i]? = some x) : W.cell? ⟨b, i, none⟩ = some x := by
  have h' : W.heap[b]? = some (.cells cs t (0, 0)) := h
  simp [World.cell?, h', hx]

theorem boxAt.frozen {W : World} {b t : Nat} {cs : Array Value} (h : boxAt W b cs t) (i : Nat) : W.frozen? ⟨b, i, none⟩ = false := by
  have h' : W.heap[b]? = some (.cells cs t (0, 0)) := h
  simp [World.frozen?, h']

theorem boxAt.on {W W1 : World} {b t : Nat} {cs : Array Value} (h : boxAt W b cs t) (hb : Below W.heap.size W W1) : boxAt W1 b cs t := (hb.block b h.lt).trans h

theorem boxAt.stays {W W1 : World} {base b t : Nat} {cs : Array Value} (h : boxAt W b cs t) (hb : Stays base W W1) (hle : base ≤ b) : boxAt W1 b cs t := (hb b hle h.lt).trans h

theorem boxAt.grown {W W1 : World} {b t : Nat} {row : Option Nat} {cs : Array Value} (h : boxAt W b cs t) (hg : W.grownBy W1 row) (hne : some b ≠ row) : boxAt W1 b cs t := (hg.block b h.lt hne).trans h

theorem boxAt.drew {W : World} {b t : Nat} {cs : Array Value} (h : boxAt W b cs t) : boxAt W.drew b cs t := h

theorem boxAt.alloc {W : World} {b t : Nat} {cs : Array Value} (h : boxAt W b cs t) (o : Obj) : boxAt (W.alloc o) b cs t := h.on ((Below.refl _ _).alloc (Nat.le_refl _) _)

theorem boxAt.set {W : World} {b t b' o' : Nat} {cs : Array Value} {u : Value} (h : boxAt W b cs t) (hne : b ≠ b') : boxAt (W.setCell ⟨b', o', none⟩ u) b cs t := (Below.heap_setCell W ⟨b', o', none⟩ u b hne).trans h

theorem boxAt_new (w : World) (cs : Array Value) (t : Nat) : boxAt (w.alloc (.cells cs t)) w.heap.size cs t := by show (w.heap.push _)[w.heap.size]? = _; simp

theorem box_set {W : World} {P t : Nat} {cs : Array Value} (h : boxAt W P cs t) (i : Nat) (x : Value) : boxAt (W.setCell ⟨P, i, none⟩ x) P (cs.setIfInBounds i x) t := by
  have h' : W.heap[P]? = some (.cells cs t (0, 0)) := h
  obtain ⟨hl, he⟩ := Array.getElem?_eq_some_iff.1 h'
  unfold boxAt
  simp [World.setCell, hl, Array.getElem_modify, he]

theorem size_alloc (w : World) (o : Obj) : (w.alloc o).heap.size = w.heap.size + 1 := by show (w.heap.push _).size = _; simp

theorem belA {w W : World} {o : Obj} (h : Below w.heap.size w W) : Below w.heap.size w (W.alloc o) := h.alloc h.size o

theorem belS {w W : World} {p : Addr} {v : Value} (h : Below w.heap.size w W) (hp : w.heap.size ≤ p.block) : Below w.heap.size w (W.setCell p v) := h.setCell hp v

theorem belD {w W : World} (h : Below w.heap.size w W) : Below w.heap.size w W.drew := h.drew

theorem bel_drewN {w W : World} (h : Below w.heap.size w W) (n : Nat) : Below w.heap.size w (W.drewN n) := ⟨h.os, h.tape, h.output, h.size, h.block⟩

theorem bel_go {w X w' : World} (h : Below w.heap.size w X) (k : Below X.heap.size X w') : Below w.heap.size w w' := h.trans (k.mono h.size)

theorem cell_lt {W : World} {b o : Nat} {x : Value} (h : W.cell? ⟨b, o, none⟩ = some x) : b < W.heap.size := World.block_lt_of_cell? W ⟨b, o, none⟩ h

theorem cell_on {W w1 : World} {b o : Nat} {x : Value} (hb : Below W.heap.size W w1) (h : W.cell? ⟨b, o, none⟩ = some x) : w1.cell? ⟨b, o, none⟩ = some x := (hb.cell (p := ⟨b, o, none⟩) (cell_lt h)).trans h

theorem keep_set {W : World} {b o b' o' : Nat} {x u : Value} (h : W.cell? ⟨b, o, none⟩ = some x) (hne : b ≠ b') : (W.setCell ⟨b', o', none⟩ u).cell? ⟨b, o, none⟩ = some x := by
  have e := Below.heap_setCell W ⟨b', o', none⟩ u b hne
  rw [World.cell?] at h ⊢
  rw [e]
  exact h

theorem grown_set (W : World) (P i : Nat) (x : Value) : W.grownBy (W.setCell ⟨P, i, none⟩ x) (some P) :=
  ⟨rfl, rfl, rfl, by rw [World.size_setCell]; exact Nat.le_refl _, fun k _ hne => Below.heap_setCell W ⟨P, i, none⟩ x k (fun e => hne (by rw [e]))⟩

theorem grown_b {W W' : World} {row : Option Nat} (h : Below W.heap.size W W') : W.grownBy W' row := ⟨h.os, h.tape, h.output, h.size, fun k hk _ => h.block k hk⟩

theorem grown_t {A B C : World} {row : Option Nat} (h : A.grownBy B row) (k : B.grownBy C row) : A.grownBy C row :=
  ⟨k.os.trans h.os, k.tape.trans h.tape, k.output.trans h.output, Nat.le_trans h.size k.size, fun i hi hne => (k.block i (Nat.lt_of_lt_of_le hi h.size) hne).trans (h.block i hi hne)⟩

theorem grown_bel {W W' : World} {P n₀ : Nat} {w : World} (h : Below n₀ w W) (hg : W.grownBy W' (some P)) (hP : n₀ ≤ P) (hn : n₀ ≤ w.heap.size) : Below n₀ w W' :=
  h.trans ⟨hg.os, hg.tape, hg.output, hg.size, fun k hk => hg.block k (by have := h.size; omega) (fun e => by cases e; omega)⟩

theorem stays_grown {W W' : World} {P base : Nat} (hg : W.grownBy W' (some P)) (h : P < base) : Stays base W W' := fun b hb hlt => hg.block b hlt (fun e => by cases e; omega)

theorem stays_grown0 {W W' : World} (hg : W.grownBy W' none) (base : Nat) : Stays base W W' := fun b hb hlt => hg.block b hlt (fun e => by cases e)

theorem boxes2 (w : World) (c0 c1 : Array Value) (t0 t1 : Nat) : ∃ W, W = (w.alloc (Obj.cells c0 t0)).alloc (Obj.cells c1 t1) ∧ Below w.heap.size w W ∧ W.heap.size = w.heap.size + 1 + 1 ∧
    boxAt W w.heap.size c0 t0 ∧ boxAt W (w.heap.size + 1) c1 t1 := by
  refine ⟨_, rfl, belA (belA (Below.refl _ _)), by rw [size_alloc, size_alloc], (boxAt_new w c0 t0).alloc _, ?_⟩
  have := boxAt_new (w.alloc (Obj.cells c0 t0)) c1 t1
  rw [size_alloc] at this
  exact this

theorem boxes3 (w : World) (c0 c1 c2 : Array Value) (t0 t1 t2 : Nat) : ∃ W, W = ((w.alloc (Obj.cells c0 t0)).alloc (Obj.cells c1 t1)).alloc (Obj.cells c2 t2) ∧ Below w.heap.size w W ∧ W.heap.size = w.heap.size + 1 + 1 + 1 ∧
    boxAt W w.heap.size c0 t0 ∧ boxAt W (w.heap.size + 1) c1 t1 ∧ boxAt W (w.heap.size + 1 + 1) c2 t2 := by
  refine ⟨_, rfl, belA (belA (belA (Below.refl _ _))), by rw [size_alloc, size_alloc, size_alloc], ((boxAt_new w c0 t0).alloc _).alloc _, ?_, ?_⟩
  · have := (boxAt_new (w.alloc (Obj.cells c0 t0)) c1 t1).alloc (Obj.cells c2 t2)
    rw [size_alloc] at this
    exact this
  · have := boxAt_new ((w.alloc (Obj.cells c0 t0)).alloc (Obj.cells c1 t1)) c2 t2
    rw [size_alloc, size_alloc] at this
    exact this
/-- A row that is a whole block. -/

theorem box_of_row {w : World} {base e size g n cap : Nat} {xs : List Value} (h : w.ownsRow base e size (.slice (some ⟨g, 0, none⟩) n cap) n xs) (hc : cap = n) : ∃ cs : Array Value, boxAt w g cs e ∧ cs.size = n * size ∧ cs.toList = xs := by
  rcases h.2 with ⟨h1, _⟩ | ⟨g', cap', cur, e1, _, h3, _, _, h4, h5⟩
  · cases h1
  · cases e1
    subst hc
    refine ⟨cur, h3, h4, ?_⟩
    rw [← h5, List.take_of_length_le (by rw [Array.length_toList]; omega)]

theorem get_set5 {cs : Array Value} {n i : Nat} (hs : cs.size = n * 5) (hi : i < n) (v0 v1 v2 v3 v4 : Value) :
    let c := ((((cs.setIfInBounds (i * 5) v0).setIfInBounds (i * 5 + 1) v1).setIfInBounds (i * 5 + 2) v2).setIfInBounds (i * 5 + 3) v3).setIfInBounds (i * 5 + 4) v4
    c.size = n * 5 ∧ c[i * 5]? = some v0 ∧ c[i * 5 + 1]? = some v1 ∧ c[i * 5 + 2]? = some v2 ∧ c[i * 5 + 3]? = some v3 ∧ c[i * 5 + 4]? = some v4 ∧ ∀ j k, j < i → k < 5 → c[j * 5 + k]? = cs[j * 5 + k]? := by
  intro c
  refine ⟨by simp [c, hs], ?_, ?_, ?_, ?_, ?_, fun j k hj hk => ?_⟩
  · simp [c, Array.getElem?_setIfInBounds, show i * 5 < cs.size by omega]
  · simp [c, Array.getElem?_setIfInBounds, show i * 5 + 1 < cs.size by omega]
  · simp [c, Array.getElem?_setIfInBounds, show i * 5 + 2 < cs.size by omega]
  · simp [c, Array.getElem?_setIfInBounds, show i * 5 + 3 < cs.size by omega]
  · simp [c, Array.getElem?_setIfInBounds, show i * 5 + 4 < cs.size by omega]
  · simp only [c, Array.getElem?_setIfInBounds, Array.size_setIfInBounds]
    repeat rw [if_neg (by omega)]

end Go.Proofs.Ytooeapjlfmknfaa.Tr
