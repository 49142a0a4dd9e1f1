/-
  A map of rows of numbers, by its keys: what stands at a name, and what a store at it leaves.
-/
import Derived.Test.YtooeapjlfmknfaaTrSp
import Derived.Test.YtooeapjlfmknfaaTrM
import Derived.Maps.OwnRows
import Derived.StringKeys
namespace Go.Proofs.Ytooeapjlfmknfaa.Tr
set_option maxRecDepth 100000
set_option linter.unusedVariables false
set_option linter.unusedSimpArgs false
open Go.RowKit Go.Deep Go.ChangeMaps Go.MapKept
open Go.WideElems (Fit rd rg pl rd_val)
open Go.Maps (Keyed)
open Go.WideMaps (keyOf_string_mk)

theorem keyLaw : Keyed Try.prog 9 := Maps.string_keyed Try.underlying9

theorem uPlaces : Try.prog.underlying 38 = some (.map 9 52) := by kernel_rfl

theorem zeroRow (w : World) : (zeroValue 52).run Try.prog w = .ok (.slice none 0 0) w := by kernel_rfl

/-- An element is looked at by its value alone. -/
def R0 : Value → Option (DataW Unit × List MemPlace) := fun _ => some (.nil, [])

def intCells (l : List Nat) : List Value := l.map (fun n : Nat => Value.int .i64 (n : Int))
/-- A row of numbers of the call's own, in one of the blocks of S. -/
def RowIn (w : World) (base : Nat) (S : Nat → Prop) (v : Value) (l : List Nat) : Prop :=
  w.ownsRow base 3 1 v l.length (intCells l) ∧ ∀ g, v.ownBlock = some g → S g

theorem RowIn.grown {w w' : World} {base : Nat} {S S' : Nat → Prop} {v : Value} {l : List Nat} {row : Option Nat} (h : RowIn w base S v l) (hg : w.grownBy w' row) (hne : v.ownBlock = none ∨ v.ownBlock ≠ row) (hS : ∀ g, S g → S' g) : RowIn w' base S' v l :=
  ⟨h.1.kept hg hne, fun g hg' => hS g (h.2 g hg')⟩

theorem RowIn.nil (w : World) (base : Nat) (S : Nat → Prop) : RowIn w base S (.slice none 0 0) [] := ⟨World.ownsRow_nil _ _ _ _, fun g h => by simp [Value.ownBlock] at h⟩

theorem RowIn.lt {w : World} {base : Nat} {S : Nat → Prop} {v : Value} {l : List Nat} (h : RowIn w base S v l) {g : Nat} (hg : v.ownBlock = some g) : g < w.heap.size := (h.1.lt g hg).2

theorem RowIn.len {w : World} {base : Nat} {S : Nat → Prop} {v : Value} {l : List Nat} (h : RowIn w base S v l) : l.length ≤ maxLen := by
  rcases h.1.2 with ⟨_, h2⟩ | ⟨g, cap, cur, h1, _, _, h4, h5, _⟩
  · rw [h2]; exact Nat.zero_le _
  · exact Nat.le_trans h4 h5
/-- Its shape. -/

theorem RowIn.shape {w : World} {base : Nat} {S : Nat → Prop} {v : Value} {l : List Nat} (h : RowIn w base S v l) : (v = .slice none 0 0 ∧ l = []) ∨ ∃ g cap, v = .slice (some ⟨g, 0, none⟩) l.length cap := by
  rcases h.1.2 with ⟨h1, h2⟩ | ⟨g, cap, cur, h1, _⟩
  · exact .inl ⟨h1, List.length_eq_zero_iff.1 h2⟩
  · exact .inr ⟨g, cap, h1⟩

theorem RowIn.take {w : World} {base : Nat} {S : Nat → Prop} {g n cap : Nat} {l : List Nat} (h : RowIn w base S (.slice (some ⟨g, 0, none⟩) n cap) l) (k : Nat) (hk : k ≤ l.length) : RowIn w base S (.slice (some ⟨g, 0, none⟩) k cap) (l.take k) := by
  have hl : (l.take k).length = k := by rw [List.length_take]; omega
  refine ⟨⟨by rw [hl, intCells, List.length_map, hl]; omega, ?_⟩, fun g' hg' => h.2 g' hg'⟩
  rcases h.1.2 with ⟨h1, _⟩ | ⟨g', cap', cur, e1, e2, e3, e4, e5, e6, e7⟩
  · cases h1
  · cases e1
    refine .inr ⟨g, cap, cur, by rw [hl], e2, e3, by rw [hl]; omega, e5, e6, ?_⟩
    have e8 : intCells (l.take k) = (intCells l).take k := by unfold intCells; rw [List.map_take]
    rw [hl, e8, ← e7, List.take_take]
    congr 1
    omega

theorem RowIn.cellAt {w : World} {base : Nat} {S : Nat → Prop} {g n cap : Nat} {l : List Nat} (h : RowIn w base S (.slice (some ⟨g, 0, none⟩) n cap) l) (hn : n = l.length) (k : Nat) (hk : k < l.length) : w.cell? ⟨g, k, none⟩ = some (.int .i64 l[k]) := by
  subst hn
  rw [h.1.cellAt k (by omega)]
  unfold intCells
  rw [List.getElem?_map, List.getElem?_eq_getElem hk]
  rfl

/-- The block B is a map of at most n entries; at each name stands a row of the numbers that L tells, in a block of S; no two names' rows lie in one block. -/
def MapIs (w : World) (base B : Nat) (S : Nat → Prop) (n : Nat) (L : ByteArray → List Nat) : Prop :=
  ∃ es clock, w.heap[B]? = some (.map es clock) ∧ Fit Try.prog 9 R0 es clock ∧ es.size ≤ n ∧
    (∀ x ∈ es.toList, ∃ s : ByteArray, x.key = .string s ∧ RowIn w base S x.val (L s)) ∧
    (∀ s : ByteArray, (∀ x ∈ es.toList, x.key ≠ .string s) → L s = []) ∧
    (∀ x ∈ es.toList, ∀ y ∈ es.toList, x.key ≠ y.key → x.val.ownBlock = none ∨ x.val.ownBlock ≠ y.val.ownBlock) ∧
    (∀ g, S g → B < g ∧ g < w.heap.size)

theorem MapIs.lt {w : World} {base B n : Nat} {S : Nat → Prop} {L : ByteArray → List Nat} (h : MapIs w base B S n L) : B < w.heap.size := by
  obtain ⟨es, clock, hb, _⟩ := h
  exact (Array.getElem?_eq_some_iff.1 hb).1

theorem MapIs.isMap {w : World} {base B n : Nat} {S : Nat → Prop} {L : ByteArray → List Nat} (h : MapIs w base B S n L) : ∃ o : Obj, w.heap[B]? = some o ∧ ∀ cs t f, o ≠ .cells cs t f := by
  obtain ⟨es, clock, hb, _⟩ := h
  exact ⟨_, hb, fun cs t f e => by cases e⟩

theorem MapIs.inS {w : World} {base B n : Nat} {S : Nat → Prop} {L : ByteArray → List Nat} (h : MapIs w base B S n L) {g : Nat} (hg : S g) : B < g ∧ g < w.heap.size := by
  obtain ⟨es, clock, _, _, _, _, _, _, h6⟩ := h
  exact h6 g hg

theorem MapIs.mono {w : World} {base B n n' : Nat} {S : Nat → Prop} {L : ByteArray → List Nat} (h : MapIs w base B S n L) (hn : n ≤ n') : MapIs w base B S n' L := by
  obtain ⟨es, clock, h1, h2, h3, h4⟩ := h
  exact ⟨es, clock, h1, h2, Nat.le_trans h3 hn, h4⟩

theorem MapIs.congr {w : World} {base B n : Nat} {S : Nat → Prop} {L L' : ByteArray → List Nat} (h : MapIs w base B S n L) (hL : ∀ s, L s = L' s) : MapIs w base B S n L' := by
  rw [← funext hL]; exact h
/-- What is done elsewhere leaves it. -/

theorem MapIs.grown {w w' : World} {base B n : Nat} {S : Nat → Prop} {L : ByteArray → List Nat} {row : Option Nat} (h : MapIs w base B S n L) (hg : w.grownBy w' row) (hr : ∀ r, row = some r → r ≠ B ∧ ¬ S r) : MapIs w' base B S n L := by
  have hlt := h.lt
  obtain ⟨es, clock, h1, h2, h3, h4, h5, h6, h7⟩ := h
  refine ⟨es, clock, (hg.block B hlt (fun e => (hr B e.symm).1 rfl)).trans h1, h2, h3, fun x hx => ?_, h5, h6, fun g hS => ⟨(h7 g hS).1, Nat.lt_of_lt_of_le (h7 g hS).2 hg.size⟩⟩
  obtain ⟨s, e1, e2⟩ := h4 x hx
  refine ⟨s, e1, e2.grown hg ?_ (fun _ h => h)⟩
  cases ho : x.val.ownBlock with
  | none => exact .inl rfl
  | some g =>
    refine .inr (fun e => (hr g e.symm).2 (e2.2 g ho))

theorem MapIs.alloc {w : World} {base B n : Nat} {S : Nat → Prop} {L : ByteArray → List Nat} (h : MapIs w base B S n L) (o : Obj) : MapIs (w.alloc o) base B S n L := h.grown (World.grownBy_alloc w o none) (fun r e => by cases e)

theorem MapIs.below {w w' : World} {base B n : Nat} {S : Nat → Prop} {L : ByteArray → List Nat} (h : MapIs w base B S n L) (hb : Below w.heap.size w w') : MapIs w' base B S n L := h.grown (grown_b (row := none) hb) (fun r e => by cases e)

theorem mapIs_made (w : World) (base : Nat) (S : Nat → Prop) (hS : ∀ g, ¬ S g) : MapIs (w.alloc (.map #[] 0)) base w.heap.size S 0 (fun _ => []) :=
  ⟨#[], 0, (heap_alloc w _).1, ⟨by simp, stamped_empty 0, by simp⟩, Nat.le_refl _, by simp, fun _ _ => rfl, by simp, fun g h => absurd h (hS g)⟩

theorem mem_sorted {p : Lit × DataW Unit} : ∀ {l : List (Lit × DataW Unit)}, p ∈ l.foldr DataW.insert [] ↔ p ∈ l
  | [] => Iff.rfl
  | x :: l => by rw [List.foldr_cons, mem_insert_iff, mem_sorted, List.mem_cons]

theorem one_of_key {l : List MapEntry} (h : l.Pairwise (fun x y => x.key ≠ y.key)) {x y : MapEntry} (hx : x ∈ l) (hy : y ∈ l) (hk : x.key = y.key) : x = y := by
  obtain ⟨i, hi, rfl⟩ := List.mem_iff_getElem.1 hx
  obtain ⟨j, hj, rfl⟩ := List.mem_iff_getElem.1 hy
  have hp := List.pairwise_iff_getElem.1 h
  rcases Nat.lt_trichotomy i j with hij | hij | hij
  · exact absurd hk (hp i j hi hj hij)
  · subst hij; rfl
  · exact absurd hk.symm (hp j i hj hi hij)

/-- L, but at one name. -/
def upd (L : ByteArray → List Nat) (s : ByteArray) (l : List Nat) : ByteArray → List Nat := fun a => if s = a then l else L a

theorem key_ne {a b : ByteArray} (h : a ≠ b) : Value.string a ≠ Value.string b := fun e => h (by cases e; rfl)

/-- WHAT STANDS AT A NAME; and the way back: whatever is done from here on to its own row and to new blocks alone, a store at that name. -/

theorem MapIs.look {w : World} {base B n : Nat} {S : Nat → Prop} {L : ByteArray → List Nat} (h : MapIs w base B S n L) (hn : n < maxLen) (s : ByteArray) (hs : s.size ≤ maxLen) :
    ∃ v, (∀ W : World, W.heap[B]? = w.heap[B]? → (Instr.lookup 38 (.map (some B)) (.string s) false).run Try.prog W = .ok v W) ∧ RowIn w base S v (L s) ∧
      ∀ (w1 : World) (v' : Value) (l' : List Nat) (S' : Nat → Prop), w.grownBy w1 v.ownBlock → RowIn w1 base S' v' l' → (∀ g, S g → S' g) → (∀ g, S' g → B < g ∧ g < w1.heap.size) → (v'.ownBlock = v.ownBlock ∨ ∃ g, v'.ownBlock = some g ∧ w.heap.size ≤ g) →
        ∃ w2, (Instr.mapUpdate 38 (.map (some B)) (.string s) v').run Try.prog w1 = .ok () w2 ∧ MapIs w2 base B S' (n + 1) (upd L s l') ∧ w1.grownBy w2 (some B) := by
  have hlt := h.lt
  obtain ⟨es, clock, hb, F, hsz, hrow, hnil, hap, hSB⟩ := h
  have hkey : keyOf Try.prog 9 (.string s) = some (.string s.data.toList) := keyOf_string_mk Try.underlying9 hs
  -- the way back, of whatever value stands there
  have back : ∀ v : Value, (v.ownBlock = none ∨ ∃ g, v.ownBlock = some g ∧ S g) → (∀ x ∈ es.toList, x.key ≠ .string s → x.val.ownBlock = none ∨ x.val.ownBlock ≠ v.ownBlock) →
      ∀ (w1 : World) (v' : Value) (l' : List Nat) (S' : Nat → Prop), w.grownBy w1 v.ownBlock → RowIn w1 base S' v' l' → (∀ g, S g → S' g) → (∀ g, S' g → B < g ∧ g < w1.heap.size) → (v'.ownBlock = v.ownBlock ∨ ∃ g, v'.ownBlock = some g ∧ w.heap.size ≤ g) →
        ∃ w2, (Instr.mapUpdate 38 (.map (some B)) (.string s) v').run Try.prog w1 = .ok () w2 ∧ MapIs w2 base B S' (n + 1) (upd L s l') ∧ w1.grownBy w2 (some B) := by
    intro v hvS hv w1 v' l' S' hg hr' hS' hS2 hloc
    have hb1 : w1.heap[B]? = some (.map es clock) := by
      refine (hg.block B hlt (fun e => ?_)).trans hb
      rcases hvS with h0 | ⟨g, h0, h1⟩
      · rw [h0] at e; cases e
      · rw [h0] at e; cases e; exact Nat.lt_irrefl _ (hSB _ h1).1
    obtain ⟨es', clock', hrun, F', hput, _, _, hwho⟩ := Maps.fit_store (R' := R0) keyLaw uPlaces hb1 F (Nat.lt_of_le_of_lt hsz hn) (fun x _ _ z hz => hz) hkey (yv := (.nil, [])) rfl
    have hg2 : w1.grownBy (setBlock w1 B (.map es' clock')) (some B) := ⟨rfl, rfl, rfl, by simp [setBlock], fun i _ hi => heap_setBlock_other hb1 _ (fun e1 => hi (by rw [e1]))⟩
    have hrowB : ∀ {u : Value} {y : List Nat}, RowIn w1 base S' u y → u.ownBlock = none ∨ u.ownBlock ≠ some B := fun {u y} ho => by
      cases hu : u.ownBlock with
      | none => exact .inl rfl
      | some g => exact .inr (fun e => by cases e; exact Nat.lt_irrefl _ (hS2 _ (ho.2 _ hu)).1)
    have hold : ∀ x ∈ es.toList, x.key ≠ .string s → ∀ t : ByteArray, RowIn w base S x.val (L t) → RowIn w1 base S' x.val (L t) := fun x hx hne t ho => ho.grown hg (hv x hx hne) hS'
    have hon : ∀ x ∈ es.toList, x.key ≠ .string s → x.val.ownBlock = none ∨ x.val.ownBlock ≠ v'.ownBlock := by
      intro x hx hne
      rcases hloc with h1 | ⟨g, h1, h2⟩
      · rw [h1]; exact hv x hx hne
      · cases hx' : x.val.ownBlock with
        | none => exact .inl rfl
        | some gx =>
          obtain ⟨t, _, ho⟩ := hrow x hx
          have := ho.lt hx'
          refine .inr (fun e1 => ?_)
          rw [h1] at e1; cases e1; omega
    refine ⟨_, hrun, ⟨es', clock', heap_setBlock_same hb1 _, F', ?_, ?_, ?_, ?_, ?_⟩, hg2⟩
    · have e1 : es'.size = (putKey (.string s.data.toList) (DataW.nil (H := Unit)) ((es.toList.map (rg Try.prog 9 R0)).foldr DataW.insert [])).length := by rw [← hput, length_sorted]; simp
      have e2 := List.length_filter_le (notKey (.string s.data.toList)) ((es.toList.map (rg Try.prog 9 R0)).foldr DataW.insert [])
      rw [length_sorted, List.length_map] at e2
      have e3 : es.toList.length = es.size := Array.length_toList
      unfold putKey at e1
      rw [length_insert] at e1
      omega
    · intro x hx
      rcases hwho x hx with ⟨hx0, hne⟩ | ⟨hxk, hxv⟩
      · obtain ⟨t, h1, h2⟩ := hrow x hx0
        have hts : s ≠ t := fun e => hne (by rw [h1, e])
        refine ⟨t, h1, ?_⟩
        unfold upd
        rw [if_neg hts]
        exact (hold x hx0 hne t h2).grown hg2 (hrowB (hold x hx0 hne t h2)) (fun _ h => h)
      · refine ⟨s, hxk, ?_⟩
        unfold upd
        rw [if_pos rfl, hxv]
        exact hr'.grown hg2 (hrowB hr') (fun _ h => h)
    · intro t ht
      have hin : ∀ p, p ∈ putKey (.string s.data.toList) (DataW.nil (H := Unit)) ((es.toList.map (rg Try.prog 9 R0)).foldr DataW.insert []) → ∃ x ∈ es'.toList, keyOf Try.prog 9 x.key = some p.1 := by
        intro p hp
        rw [← hput, mem_sorted] at hp
        obtain ⟨x, hx, hxe⟩ := List.mem_map.1 hp
        obtain ⟨y, hy⟩ := F'.reads x hx
        rw [WideElems.rg_of hy] at hxe
        exact ⟨x, hx, by rw [← hxe]; exact WideElems.rd_key hy⟩
      by_cases hts : s = t
      · subst hts
        obtain ⟨x, hx, hk⟩ := hin (.string s.data.toList, .nil) (by unfold putKey; rw [mem_insert_iff]; exact .inl rfl)
        exact absurd (keyLaw.inj hk hkey) (ht x hx)
      · unfold upd
        rw [if_neg hts]
        refine hnil t (fun x hx hxk => ?_)
        obtain ⟨y, hy⟩ := F.reads x hx
        have hk1 := WideElems.rd_key hy
        have hne : y.1 ≠ .string s.data.toList := fun e => by
          rw [e] at hk1
          have := keyLaw.inj hk1 hkey
          rw [hxk] at this
          cases this; exact hts rfl
        obtain ⟨x', hx', hk'⟩ := hin y (by
          unfold putKey
          rw [mem_insert_iff]
          refine .inr (List.mem_filter.2 ⟨?_, (Maps.notKey_iff (keyLaw.key hkey)).2 hne⟩)
          rw [mem_sorted]
          exact List.mem_map.2 ⟨x, hx, WideElems.rg_of hy⟩)
        have := keyLaw.inj hk' hk1
        exact ht x' hx' (this.trans hxk)
    · intro x hx y hy hne
      rcases hwho x hx with ⟨hx0, hxk⟩ | ⟨hxk, hxv⟩ <;> rcases hwho y hy with ⟨hy0, hyk⟩ | ⟨hyk, hyv⟩
      · exact hap x hx0 y hy0 hne
      · rw [hyv]; exact hon x hx0 hxk
      · rw [hxv]
        rcases hon y hy0 hyk with h | h
        · cases hv' : v'.ownBlock with
          | none => exact .inl rfl
          | some g => exact .inr (fun e1 => by rw [h] at e1; cases e1)
        · cases hv' : v'.ownBlock with
          | none => exact .inl rfl
          | some g => exact .inr (fun e1 => h (by rw [hv', e1]))
      · exact absurd (hxk.trans hyk.symm) hne
    · intro g hg'
      have := hS2 g hg'
      exact ⟨this.1, Nat.lt_of_lt_of_le this.2 hg2.size⟩
  rcases Maps.fit_look false keyLaw uPlaces (zeroRow w) hb F hkey with ⟨_, h2, _⟩ | ⟨e0, y, hm0, h3, _, _, _, _⟩
  · refine ⟨.slice none 0 0, fun W hW => ?_, by rw [hnil s h2]; exact RowIn.nil _ _ _, back _ (.inl rfl) (fun x _ _ => by cases x.val.ownBlock <;> simp [Value.ownBlock])⟩
    rcases Maps.fit_look false keyLaw uPlaces (zeroRow W) (hW.trans hb) F hkey with ⟨h1, _⟩ | ⟨e0, y, hm0, h3, _⟩
    · exact h1
    · exact absurd h3 (h2 e0 hm0)
  · obtain ⟨t, ht, ho⟩ := hrow e0 hm0
    have hts : t = s := by rw [ht] at h3; cases h3; rfl
    subst hts
    refine ⟨e0.val, fun W hW => ?_, ho, back _ ?_ (fun x hx hne => hap x hx e0 hm0 (by rw [h3]; exact hne))⟩
    · rcases Maps.fit_look false keyLaw uPlaces (zeroRow W) (hW.trans hb) F hkey with ⟨_, h2, _⟩ | ⟨e1, y1, hm1, h31, hrun1, _⟩
      · exact absurd h3 (h2 e0 hm0)
      · have hv : e1.val = e0.val := by rw [one_of_key ((stamped_iff es clock).1 F.stamped).2.2 hm1 hm0 (h31.trans h3.symm)]
        rw [hv] at hrun1
        exact hrun1
    · cases hv' : e0.val.ownBlock with
      | none => exact .inl rfl
      | some g => exact .inr ⟨g, rfl, ho.2 g hv'⟩

end Go.Proofs.Ytooeapjlfmknfaa.Tr
