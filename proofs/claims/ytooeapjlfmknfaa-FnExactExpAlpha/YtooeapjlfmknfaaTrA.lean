/-
  Trees of parts: what a []ExpCore is, how it lies in memory, and what it means that two are the same but for names.
-/
import Derived.Test.YtooeapjlfmknfaaRows
import Derived.WalkKit
import Derived.WalkSpells
import Derived.WalkLawsBesides
import Derived.Handy
import Derived.Deep.Strs
import Derived.Below
namespace Go.Proofs.Ytooeapjlfmknfaa
set_option maxRecDepth 100000
set_option linter.unusedVariables false
open Go.RowKit

theorem lawfulBA : LawfulBEq ByteArray :=
  { eq_of_beq := fun {a b} h => by
      have h' : (a.data == b.data) = true := h
      cases a; cases b
      exact congrArg ByteArray.mk (eq_of_beq h')
    rfl := fun {a} => by show (a.data == a.data) = true; exact beq_self_eq_true _ }

/-- A part. -/
structure T where
  sort : Int
  text : ByteArray
  rest : Bool
  names : List ByteArray
  kids : List T

/-- What names take: one each, and their bytes. -/
def wtN : List ByteArray → Nat
  | [] => 0
  | n :: ns => 1 + n.size + wtN ns
/-- What a part takes. -/
def T.wt : T → Nat
  | .mk _ x _ ns ks => 1 + x.size + wtN ns + (ks.map (fun k => k.wt)).sum
def wts (ts : List T) : Nat := (ts.map (fun k => k.wt)).sum

theorem wt_eq (t : T) : t.wt = 1 + t.text.size + wtN t.names + wts t.kids := by cases t; rw [T.wt]; rfl

theorem wts_nil : wts [] = 0 := rfl

theorem wts_cons (t : T) (ts : List T) : wts (t :: ts) = t.wt + wts ts := by unfold wts; rw [List.map_cons, List.sum_cons]

theorem wtN_len : ∀ ns : List ByteArray, ns.length ≤ wtN ns
  | [] => Nat.le_refl _
  | n :: ns => by have := wtN_len ns; simp [wtN]; omega

theorem wts_len : ∀ ts : List T, ts.length ≤ wts ts
  | [] => Nat.zero_le _
  | t :: ts => by have := wts_len ts; have := wt_eq t; rw [wts_cons]; simp; omega

theorem wts_get : ∀ (ts : List T) (i : Nat) (h : i < ts.length), ts[i].wt ≤ wts ts
  | t :: ts, 0, _ => by rw [wts_cons]; simp
  | t :: ts, i + 1, h => by have := wts_get ts i (by simpa using h); rw [wts_cons]; simp; omega

theorem kids_lt {ts : List T} {i : Nat} (h : i < ts.length) : wts ts[i].kids < wts ts := by
  have := wts_get ts i h; have := wt_eq ts[i]; omega

theorem wts_drop (ts : List T) (i : Nat) (h : i < ts.length) : wts (ts.drop i) = ts[i].wt + wts (ts.drop (i + 1)) := by
  rw [List.drop_eq_getElem_cons h, wts_cons]

theorem wtN_drop (ts : List ByteArray) (i : Nat) (h : i < ts.length) : wtN (ts.drop i) = 1 + ts[i].size + wtN (ts.drop (i + 1)) := by
  rw [List.drop_eq_getElem_cons h, wtN]

/-- Texts in a row. -/
def Strs (w : World) (base : Nat) (v : Value) (ns : List ByteArray) : Prop :=
  ∃ ao cap, v = .slice ao ns.length cap ∧ ∀ i (h : i < ns.length), ∃ b o, ao = some ⟨b, o, none⟩ ∧ base ≤ b ∧ w.cell? ⟨b, o + i, none⟩ = some (.string ns[i])

/-- Parts in a row, five cells each, no deeper than so much. -/
def LiesN (w : World) (base : Nat) : Nat → Value → List T → Prop
  | 0, _, _ => False
  | n + 1, v, ts => ∃ (ao : Option Addr) (cap B O : Nat) (NV KV : Nat → Value), v = .slice ao ts.length cap ∧ ts.length ≤ cap ∧ (ts ≠ [] → ao = some ⟨B, O, none⟩ ∧ base ≤ B) ∧
      (∀ i (h : i < ts.length), w.cell? ⟨B, O + i * 5, none⟩ = some (.int .i64 ts[i].sort) ∧ w.cell? ⟨B, O + i * 5 + 1, none⟩ = some (.string ts[i].text) ∧ w.cell? ⟨B, O + i * 5 + 2, none⟩ = some (.bool ts[i].rest) ∧ w.cell? ⟨B, O + i * 5 + 3, none⟩ = some (NV i) ∧ w.cell? ⟨B, O + i * 5 + 4, none⟩ = some (KV i)) ∧
      (∀ i (h : i < ts.length), Strs w base (NV i) ts[i].names) ∧ ∀ i (h : i < ts.length), LiesN w base n (KV i) ts[i].kids
/-- Parts in a row. -/
def Lies (w : World) (base : Nat) (v : Value) (ts : List T) : Prop := ∃ n, LiesN w base n v ts

theorem LiesN.up {w : World} {base : Nat} : ∀ {n : Nat} {v : Value} {ts : List T}, LiesN w base n v ts → LiesN w base (n + 1) v ts
  | 0, _, _, h => h.elim
  | n + 1, _, _, h => by
    obtain ⟨ao, cap, B, O, NV, KV, h1, h2, h3, h4, h5, h6⟩ := h
    exact ⟨ao, cap, B, O, NV, KV, h1, h2, h3, h4, h5, fun i hi => (h6 i hi).up⟩

theorem LiesN.le {w : World} {base n m : Nat} {v : Value} {ts : List T} (h : LiesN w base n v ts) (hm : n ≤ m) : LiesN w base m v ts := by
  induction m with
  | zero => have : n = 0 := by omega
            subst this; exact h
  | succ m ih =>
    rcases Nat.lt_or_ge m n with h1 | h1
    · have : n = m + 1 := by omega
      subst this; exact h
    · exact (ih h1).up

theorem Lies.row {w : World} {base : Nat} (ao : Option Addr) (cap : Nat) (ts : List T) (B : Nat) (O : Nat) (NV KV : Nat → Value)
    (hcap : ts.length ≤ cap) (ha : ts ≠ [] → ao = some ⟨B, O, none⟩ ∧ base ≤ B)
    (hc : ∀ i (h : i < ts.length), w.cell? ⟨B, O + i * 5, none⟩ = some (.int .i64 ts[i].sort) ∧ w.cell? ⟨B, O + i * 5 + 1, none⟩ = some (.string ts[i].text) ∧ w.cell? ⟨B, O + i * 5 + 2, none⟩ = some (.bool ts[i].rest) ∧ w.cell? ⟨B, O + i * 5 + 3, none⟩ = some (NV i) ∧ w.cell? ⟨B, O + i * 5 + 4, none⟩ = some (KV i))
    (hn : ∀ i (h : i < ts.length), Strs w base (NV i) ts[i].names)
    (hk : ∀ i (h : i < ts.length), Lies w base (KV i) ts[i].kids) : Lies w base (.slice ao ts.length cap) ts := by
  obtain ⟨m, hm⟩ := Go.Deep.fuel_lt (n := ts.length) (q := fun i m => ∀ h : i < ts.length, LiesN w base m (KV i) ts[i].kids) (fun i a b hab hq h => (hq h).le hab) (fun i hi => by
    obtain ⟨m, hm⟩ := hk i hi
    exact ⟨m, fun _ => hm⟩)
  exact ⟨m + 1, ao, cap, B, O, NV, KV, rfl, hcap, ha, hc, hn, fun i hi => hm i hi hi⟩

theorem Lies.inv {w : World} {base : Nat} {v : Value} {ts : List T} (h : Lies w base v ts) : ∃ (ao : Option Addr) (cap B O : Nat) (NV KV : Nat → Value), v = .slice ao ts.length cap ∧ ts.length ≤ cap ∧ (ts ≠ [] → ao = some ⟨B, O, none⟩ ∧ base ≤ B) ∧
      (∀ i (h : i < ts.length), w.cell? ⟨B, O + i * 5, none⟩ = some (.int .i64 ts[i].sort) ∧ w.cell? ⟨B, O + i * 5 + 1, none⟩ = some (.string ts[i].text) ∧ w.cell? ⟨B, O + i * 5 + 2, none⟩ = some (.bool ts[i].rest) ∧ w.cell? ⟨B, O + i * 5 + 3, none⟩ = some (NV i) ∧ w.cell? ⟨B, O + i * 5 + 4, none⟩ = some (KV i)) ∧
      (∀ i (h : i < ts.length), Strs w base (NV i) ts[i].names) ∧ ∀ i (h : i < ts.length), Lies w base (KV i) ts[i].kids := by
  obtain ⟨n, h⟩ := h
  cases n with
  | zero => exact h.elim
  | succ n =>
    obtain ⟨ao, cap, B, O, NV, KV, h1, h2, h3, h4, h5, h6⟩ := h
    exact ⟨ao, cap, B, O, NV, KV, h1, h2, h3, h4, h5, fun i hi => ⟨n, h6 i hi⟩⟩

/-- One part's five values. -/
structure LiesAt (w : World) (base : Nat) (t : T) (nv kv : Value) : Prop where
  names : Strs w base nv t.names
  kids : Lies w base kv t.kids

/-- Its shape. -/

theorem Lies.slice {w : World} {base : Nat} {v : Value} {ts : List T} (h : Lies w base v ts) : ∃ ao cap, v = .slice ao ts.length cap := by
  obtain ⟨ao, cap, _, _, _, _, h1, _⟩ := h.inv
  exact ⟨ao, cap, h1⟩

theorem Strs.slice {w : World} {base : Nat} {v : Value} {ns : List ByteArray} (h : Strs w base v ns) : ∃ ao cap, v = .slice ao ns.length cap := by
  obtain ⟨ao, cap, h, _⟩ := h; exact ⟨ao, cap, h⟩

theorem Strs.at {w : World} {base : Nat} {ao : Option Addr} {len cap : Nat} {ns : List ByteArray} (h : Strs w base (.slice ao len cap) ns) (i : Nat) (hi : i < ns.length) : ∃ b o, ao = some ⟨b, o, none⟩ ∧ base ≤ b ∧ w.cell? ⟨b, o + i, none⟩ = some (.string ns[i]) := by
  obtain ⟨ao', cap', e, h⟩ := h
  cases e; exact h i hi

theorem Lies.at {w : World} {base : Nat} {ao : Option Addr} {len cap : Nat} {ts : List T} (h : Lies w base (.slice ao len cap) ts) (i : Nat) (hi : i < ts.length) :
    ∃ b o nv kv, ao = some ⟨b, o, none⟩ ∧ base ≤ b ∧ w.cell? ⟨b, o + i * 5, none⟩ = some (.int .i64 ts[i].sort) ∧ w.cell? ⟨b, o + i * 5 + 1, none⟩ = some (.string ts[i].text) ∧ w.cell? ⟨b, o + i * 5 + 2, none⟩ = some (.bool ts[i].rest) ∧ w.cell? ⟨b, o + i * 5 + 3, none⟩ = some nv ∧ w.cell? ⟨b, o + i * 5 + 4, none⟩ = some kv ∧ LiesAt w base ts[i] nv kv := by
  obtain ⟨ao', cap', B, O, NV, KV, e, _, ha, hc, hn, hk⟩ := h.inv
  cases e
  obtain ⟨h1, h2⟩ := ha (fun e => by rw [e] at hi; exact absurd hi (Nat.not_lt_zero _))
  obtain ⟨c0, c1, c2, c3, c4⟩ := hc i hi
  exact ⟨B, O, NV i, KV i, h1, h2, c0, c1, c2, c3, c4, hn i hi, hk i hi⟩

theorem Lies.cap {w : World} {base : Nat} {ao : Option Addr} {len cap : Nat} {ts : List T} (h : Lies w base (.slice ao len cap) ts) : ts.length ≤ cap := by
  obtain ⟨ao', cap', B, O, NV, KV, e, h2, _⟩ := h.inv
  cases e
  exact h2

/-- Elsewhere nothing has turned. -/
def Stays (base : Nat) (w w' : World) : Prop := ∀ b, base ≤ b → b < w.heap.size → w'.heap[b]? = w.heap[b]?

theorem Stays.cell {base : Nat} {w w' : World} (h : Stays base w w') {a : Addr} {v : Value} (hb : base ≤ a.block) (hc : w.cell? a = some v) : w'.cell? a = some v :=
  (World.cell?_of_block (h a.block hb (World.block_lt_of_cell? w a hc))).trans hc

theorem Stays.below {w w' : World} (h : Below w.heap.size w w') (base : Nat) : Stays base w w' := fun b _ hb => h.block b hb

theorem Stays.mono {b c : Nat} {w w' : World} (h : Stays b w w') (hc : b ≤ c) : Stays c w w' := fun k h1 h2 => h k (Nat.le_trans hc h1) h2

theorem Stays.trans {b : Nat} {w w' w'' : World} (h : Stays b w w') (k : Stays b w' w'') (hs : w.heap.size ≤ w'.heap.size) : Stays b w w'' :=
  fun i h1 h2 => (k i h1 (Nat.lt_of_lt_of_le h2 hs)).trans (h i h1 h2)

theorem Stays.set {base : Nat} {w : World} {a : Addr} (h : a.block < base) (u : Value) : Stays base w (w.setCell a u) := fun b hb _ => Below.heap_setCell w a u b (by omega)

theorem Stays.refl (base : Nat) (w : World) : Stays base w w := fun _ _ _ => rfl

theorem Stays.setAfter {base : Nat} {w W : World} (h : Stays base w W) {a : Addr} (ha : a.block < base) (hs : w.heap.size ≤ W.heap.size) (u : Value) : Stays base w (W.setCell a u) := h.trans (Stays.set ha u) hs

theorem Stays.alloc {base : Nat} {w : World} (o : Obj) : Stays base w (w.alloc o) := fun b _ hb => Below.heap_alloc w o b hb

theorem Stays.drew {base : Nat} {w : World} : Stays base w w.drew := fun _ _ _ => rfl

theorem Strs.on {w w' : World} {base : Nat} {v : Value} {ns : List ByteArray} (h : Strs w base v ns) (hs : Stays base w w') : Strs w' base v ns := by
  obtain ⟨ao, cap, e, h⟩ := h
  refine ⟨ao, cap, e, fun i hi => ?_⟩
  obtain ⟨b, o, h1, h2, h3⟩ := h i hi
  exact ⟨b, o, h1, h2, hs.cell h2 h3⟩

theorem Strs.mono {w : World} {base base' : Nat} {v : Value} {ns : List ByteArray} (h : Strs w base v ns) (hb : base' ≤ base) : Strs w base' v ns := by
  obtain ⟨ao, cap, e, h⟩ := h
  refine ⟨ao, cap, e, fun i hi => ?_⟩
  obtain ⟨b, o, h1, h2, h3⟩ := h i hi
  exact ⟨b, o, h1, Nat.le_trans hb h2, h3⟩

theorem LiesN.on {w w' : World} {base : Nat} (hs : Stays base w w') : ∀ {n : Nat} {v : Value} {ts : List T}, LiesN w base n v ts → LiesN w' base n v ts
  | 0, _, _, h => h.elim
  | n + 1, _, ts, h => by
    obtain ⟨ao, cap, B, O, NV, KV, h1, h2, ha, hc, hn, hk⟩ := h
    refine ⟨ao, cap, B, O, NV, KV, h1, h2, ha, fun i hi => ?_, fun i hi => (hn i hi).on hs, fun i hi => (hk i hi).on hs⟩
    have hb : base ≤ B := (ha (fun e => by rw [e] at hi; exact absurd hi (Nat.not_lt_zero _))).2
    obtain ⟨c0, c1, c2, c3, c4⟩ := hc i hi
    exact ⟨hs.cell hb c0, hs.cell hb c1, hs.cell hb c2, hs.cell hb c3, hs.cell hb c4⟩

theorem Lies.on {w w' : World} {base : Nat} {v : Value} {ts : List T} (h : Lies w base v ts) (hs : Stays base w w') : Lies w' base v ts := by
  obtain ⟨n, h⟩ := h
  exact ⟨n, LiesN.on hs h⟩

theorem LiesN.mono {w : World} {base base' : Nat} (hb : base' ≤ base) : ∀ {n : Nat} {v : Value} {ts : List T}, LiesN w base n v ts → LiesN w base' n v ts
  | 0, _, _, h => h.elim
  | n + 1, _, ts, h => by
    obtain ⟨ao, cap, B, O, NV, KV, h1, h2, ha, hc, hn, hk⟩ := h
    exact ⟨ao, cap, B, O, NV, KV, h1, h2, fun e => ⟨(ha e).1, Nat.le_trans hb (ha e).2⟩, hc, fun i hi => (hn i hi).mono hb, fun i hi => (hk i hi).mono hb⟩

theorem Lies.mono {w : World} {base base' : Nat} {v : Value} {ts : List T} (h : Lies w base v ts) (hb : base' ≤ base) : Lies w base' v ts := by
  obtain ⟨n, h⟩ := h
  exact ⟨n, LiesN.mono hb h⟩

theorem LiesAt.on {w w' : World} {base : Nat} {t : T} {nv kv : Value} (h : LiesAt w base t nv kv) (hs : Stays base w w') : LiesAt w' base t nv kv := ⟨h.names.on hs, h.kids.on hs⟩

theorem LiesAt.mono {w : World} {base base' : Nat} {t : T} {nv kv : Value} (h : LiesAt w base t nv kv) (hb : base' ≤ base) : LiesAt w base' t nv kv := ⟨h.names.mono hb, h.kids.mono hb⟩

theorem strs_nil (w : World) (base : Nat) (ao : Option Addr) (cap : Nat) : Strs w base (.slice ao 0 cap) [] := ⟨ao, cap, rfl, fun i hi => absurd hi (Nat.not_lt_zero _)⟩

theorem lies_nil (w : World) (base : Nat) (ao : Option Addr) (cap : Nat) : Lies w base (.slice ao 0 cap) [] :=
  Lies.row ao cap [] 0 0 (fun _ => .nilIface) (fun _ => .nilIface) (Nat.zero_le _) (fun h => absurd rfl h) (fun i hi => absurd hi (Nat.not_lt_zero _)) (fun i hi => absurd hi (Nat.not_lt_zero _)) (fun i hi => absurd hi (Nat.not_lt_zero _))
/-- What is behind the first ones. -/

theorem Lies.drop {w : World} {base b o : Nat} {len cap : Nat} {ts : List T} (h : Lies w base (.slice (some ⟨b, o, none⟩) len cap) ts) (k cap' : Nat) (hk : k ≤ ts.length) (hc' : ts.length - k ≤ cap') : Lies w base (.slice (some ⟨b, o + k * 5, none⟩) (ts.length - k) cap') (ts.drop k) := by
  obtain ⟨ao', cap0, B, O, NV, KV, e, _, ha, hc, hn, hk'⟩ := h.inv
  cases e
  rw [← List.length_drop]
  refine Lies.row _ _ (ts.drop k) b (o + k * 5) (fun i => NV (k + i)) (fun i => KV (k + i)) (by rw [List.length_drop]; exact hc') (fun e => ⟨rfl, ?_⟩) (fun i hi => ?_) (fun i hi => ?_) (fun i hi => ?_)
  · have hne : ts ≠ [] := fun e' => e (by rw [e']; simp)
    obtain ⟨h1, h2⟩ := ha hne
    cases h1; exact h2
  · have hi' : k + i < ts.length := by rw [List.length_drop] at hi; omega
    obtain ⟨h1, h2⟩ := ha (fun e => by rw [e] at hi'; exact absurd hi' (Nat.not_lt_zero _))
    cases h1
    have := hc (k + i) hi'
    rw [List.getElem_drop]
    rw [show o + k * 5 + i * 5 = o + (k + i) * 5 by omega]
    exact this
  · have hi' : k + i < ts.length := by rw [List.length_drop] at hi; omega
    rw [List.getElem_drop]
    exact hn (k + i) hi'
  · have hi' : k + i < ts.length := by rw [List.length_drop] at hi; omega
    rw [List.getElem_drop]
    exact hk' (k + i) hi'

/-- Lengths as any list and text has them. -/
def SaneN : Nat → List T → Prop
  | 0, _ => True
  | n + 1, ts => ts.length ≤ maxLen ∧ (∀ i (h : i < ts.length), ts[i].text.size ≤ maxLen) ∧ (∀ i (h : i < ts.length), ts[i].names.length ≤ maxLen ∧ ∀ j (k : j < ts[i].names.length), ts[i].names[j].size ≤ maxLen) ∧ ∀ i (h : i < ts.length), SaneN n ts[i].kids
def Sane (ts : List T) : Prop := ∀ n, SaneN n ts

theorem Sane.mk (ts : List T) (hl : ts.length ≤ maxLen) (hx : ∀ i (h : i < ts.length), ts[i].text.size ≤ maxLen) (hn : ∀ i (h : i < ts.length), ts[i].names.length ≤ maxLen ∧ ∀ j (k : j < ts[i].names.length), ts[i].names[j].size ≤ maxLen)
    (hk : ∀ i (h : i < ts.length), Sane ts[i].kids) : Sane ts
  | 0 => trivial
  | n + 1 => ⟨hl, hx, hn, fun i h => hk i h n⟩

theorem Sane.inv {ts : List T} (h : Sane ts) : ts.length ≤ maxLen ∧ (∀ i (h : i < ts.length), ts[i].text.size ≤ maxLen) ∧ (∀ i (h : i < ts.length), ts[i].names.length ≤ maxLen ∧ ∀ j (k : j < ts[i].names.length), ts[i].names[j].size ≤ maxLen) ∧ ∀ i (h : i < ts.length), Sane ts[i].kids :=
  ⟨(h 1).1, (h 1).2.1, (h 1).2.2.1, fun i hi n => (h (n + 1)).2.2.2 i hi⟩
/-- What is left of so much. -/
def szR (l n : Int) : Int := if n ≤ l then l - n else -1

/-! ### The same but for names -/

/-- Whether two texts stand for the same, the pairs of names ahead being the innermost first. -/
def nameR : List (ByteArray × ByteArray) → ByteArray → ByteArray → Bool
  | [], a, b => a == b
  | (x, y) :: r, a, b => if x == a || y == b then x == a && y == b else nameR r a b
def isNamed (s : Int) : Bool := s == 2 || s == 6 || s == 9
/-- Functions, each at its own part. -/
def allApp : List (T → Bool) → List T → Bool
  | f :: fs, b :: ys => f b && allApp fs ys
  | _, _ => true
def T.alpha0 : T → List (ByteArray × ByteArray) → T → Bool
  | .mk s x r ns ks => fun env b => s == b.sort && r == b.rest && ns.length == b.names.length && ks.length == b.kids.length && (if isNamed s then nameR env x b.text else x == b.text) && allApp (ks.map (fun k => k.alpha0 ((ns.zip b.names).reverse ++ env))) b.kids
def T.alpha (env : List (ByteArray × ByteArray)) (a b : T) : Bool := a.alpha0 env b
/-- As many as there are on both sides, one by one. -/
def alphas (env : List (ByteArray × ByteArray)) (xs ys : List T) : Bool := allApp (xs.map (fun k => k.alpha env)) ys

theorem alpha_eq (env : List (ByteArray × ByteArray)) (a b : T) : a.alpha env b = (a.sort == b.sort && a.rest == b.rest && a.names.length == b.names.length && a.kids.length == b.kids.length && (if isNamed a.sort then nameR env a.text b.text else a.text == b.text) && alphas ((a.names.zip b.names).reverse ++ env) a.kids b.kids) := by
  cases a; unfold T.alpha; rw [T.alpha0]; rfl

theorem alphas_cons (env : List (ByteArray × ByteArray)) (a b : T) (xs ys : List T) : alphas env (a :: xs) (b :: ys) = (a.alpha env b && alphas env xs ys) := rfl

theorem alphas_nil (env : List (ByteArray × ByteArray)) (ys : List T) : alphas env [] ys = true := by cases ys <;> rfl
def alphaTop (xs ys : List T) : Bool := xs.length == ys.length && alphas [] xs ys

theorem alphas_drop (env : List (ByteArray × ByteArray)) (xs ys : List T) (i : Nat) (h : i < xs.length) (h2 : i < ys.length) : alphas env (xs.drop i) (ys.drop i) = (xs[i].alpha env ys[i] && alphas env (xs.drop (i + 1)) (ys.drop (i + 1))) := by
  rw [List.drop_eq_getElem_cons h, List.drop_eq_getElem_cons h2, alphas_cons]

end Go.Proofs.Ytooeapjlfmknfaa
