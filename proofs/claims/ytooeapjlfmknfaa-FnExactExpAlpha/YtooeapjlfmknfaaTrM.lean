/-
  The program's own way to tell whether two are the same but for names: levels, and the times at which pairs of names were bound.
-/
import Derived.Test.YtooeapjlfmknfaaTrA
namespace Go.Proofs.Ytooeapjlfmknfaa
set_option maxRecDepth 100000
set_option linter.unusedVariables false
set_option linter.unusedSimpArgs false
open Go.RowKit

abbrev BA := ByteArray
/-- Pairs of names that are bound, with their times, the innermost first. -/
abbrev TEnv := List (Nat × BA × BA)
def lastA (env : TEnv) (a : BA) : Option Nat := (env.find? (fun p => p.2.1 == a)).map (·.1)
def lastB (env : TEnv) (b : BA) : Option Nat := (env.find? (fun p => p.2.2 == b)).map (·.1)
def Desc (env : TEnv) : Prop := env.Pairwise (fun p q => q.1 < p.1)
def placed (env : TEnv) (a b : BA) : Bool :=
  match lastA env a, lastB env b with
  | none, none => a == b
  | some x, some y => x == y
  | _, _ => false

theorem lastA_lt {env : TEnv} {t : Nat} (h : ∀ p ∈ env, p.1 < t) {a : BA} {x : Nat} (hx : lastA env a = some x) : x < t := by
  unfold lastA at hx
  obtain ⟨p, hp, rfl⟩ := Option.map_eq_some_iff.1 hx
  exact h p (List.mem_of_find?_eq_some hp)

theorem lastB_lt {env : TEnv} {t : Nat} (h : ∀ p ∈ env, p.1 < t) {a : BA} {x : Nat} (hx : lastB env a = some x) : x < t := by
  unfold lastB at hx
  obtain ⟨p, hp, rfl⟩ := Option.map_eq_some_iff.1 hx
  exact h p (List.mem_of_find?_eq_some hp)

theorem placed_eq : ∀ (env : TEnv), Desc env → ∀ a b, placed env a b = nameR (env.map (·.2)) a b
  | [], _, a, b => rfl
  | (t, x, y) :: env, hd, a, b => by
    have hd' := List.pairwise_cons.1 hd
    have hlt : ∀ p ∈ env, p.1 < t := hd'.1
    have ih := placed_eq env hd'.2 a b
    rw [List.map_cons]
    unfold nameR
    rw [← ih]
    cases hx : x == a <;> cases hy : y == b
    · have e1 : lastA ((t, x, y) :: env) a = lastA env a := by simp [lastA, List.find?_cons, hx]
      have e2 : lastB ((t, x, y) :: env) b = lastB env b := by simp [lastB, List.find?_cons, hy]
      simp [placed, e1, e2]
    · have e1 : lastA ((t, x, y) :: env) a = lastA env a := by simp [lastA, List.find?_cons, hx]
      have e2 : lastB ((t, x, y) :: env) b = some t := by simp [lastB, List.find?_cons, hy]
      simp only [placed, e1, e2]
      cases h : lastA env a with
      | none => rfl
      | some z => have := lastA_lt hlt h; simp; omega
    · have e1 : lastA ((t, x, y) :: env) a = some t := by simp [lastA, List.find?_cons, hx]
      have e2 : lastB ((t, x, y) :: env) b = lastB env b := by simp [lastB, List.find?_cons, hy]
      simp only [placed, e1, e2]
      cases h : lastB env b with
      | none => rfl
      | some z => have := lastB_lt hlt h; simp; omega
    · have e1 : lastA ((t, x, y) :: env) a = some t := by simp [lastA, List.find?_cons, hx]
      have e2 : lastB ((t, x, y) :: env) b = some t := by simp [lastB, List.find?_cons, hy]
      simp [placed, e1, e2]

/-- The times of the pairs that a name stands in on one side, the innermost last. -/
def timesOf (f : BA × BA → BA) (env : TEnv) (a : BA) : List Nat := ((env.filter (fun p => f p.2 == a)).map (·.1)).reverse

theorem timesOf_cons (f : BA × BA → BA) (env : TEnv) (p : Nat × BA × BA) (a : BA) : timesOf f (p :: env) a = timesOf f env a ++ (if f p.2 == a then [p.1] else []) := by
  unfold timesOf
  rw [List.filter_cons]
  split <;> simp

theorem timesOf_last (f : BA × BA → BA) (env : TEnv) (a : BA) : (timesOf f env a).getLast? = (env.find? (fun p => f p.2 == a)).map (·.1) := by
  unfold timesOf
  rw [List.getLast?_reverse, List.head?_map]
  rw [List.head?_filter]

theorem lastA_of (env : TEnv) (a : BA) : (timesOf (·.1) env a).getLast? = lastA env a := timesOf_last _ _ _

theorem lastB_of (env : TEnv) (a : BA) : (timesOf (·.2) env a).getLast? = lastB env a := timesOf_last _ _ _

theorem timesOf_app (f : BA × BA → BA) (pre env : TEnv) (a : BA) : timesOf f (pre ++ env) a = timesOf f env a ++ timesOf f pre a := by
  unfold timesOf; simp [List.filter_append, List.map_append, List.reverse_append]

theorem timesOf_len (f : BA × BA → BA) (env : TEnv) (a : BA) : (timesOf f env a).length = (env.map (fun p => f p.2)).count a := by
  unfold timesOf
  rw [List.length_reverse, List.length_map, List.count_eq_countP, List.countP_map, List.countP_eq_length_filter]
  rfl

/-- Where so many names of a level are dropped. -/
def dropped (f : BA × BA → BA) (pre env : TEnv) (rest : List BA) (a : BA) : List Nat := timesOf f env a ++ (timesOf f pre a).take (rest.count a)

theorem dropped_all (f : BA × BA → BA) (pre env : TEnv) (rest : List BA) (h : rest.reverse = pre.map (fun p => f p.2)) (a : BA) : dropped f pre env rest a = timesOf f (pre ++ env) a := by
  unfold dropped
  rw [timesOf_app, List.take_of_length_le]
  rw [timesOf_len, ← h, List.count_reverse]
  exact Nat.le_refl _

theorem dropped_none (f : BA × BA → BA) (pre env : TEnv) (a : BA) : dropped f pre env [] a = timesOf f env a := by
  unfold dropped; simp

theorem dropped_other (f : BA × BA → BA) (pre env : TEnv) (n : BA) (rest : List BA) (a : BA) (h : n ≠ a) : dropped f pre env (n :: rest) a = dropped f pre env rest a := by
  have hlaw : LawfulBEq BA := lawfulBA
  unfold dropped
  rw [List.count_cons_of_ne h]

theorem dropped_this (f : BA × BA → BA) (pre env : TEnv) (n : BA) (rest : List BA) (h : (n :: rest).count n ≤ (pre.map (fun p => f p.2)).count n) :
    (dropped f pre env (n :: rest) n).length = (dropped f pre env rest n).length + 1 ∧ dropped f pre env rest n = (dropped f pre env (n :: rest) n).take ((dropped f pre env (n :: rest) n).length - 1) := by
  have hlaw : LawfulBEq BA := lawfulBA
  have hc : (n :: rest).count n = rest.count n + 1 := by simp
  have hl := timesOf_len f pre n
  rw [hc] at h
  have hm : rest.count n + 1 ≤ (timesOf f pre n).length := by rw [hl]; exact h
  have hm2 : rest.count n ≤ (timesOf f pre n).length := by omega
  have e1 : (dropped f pre env (n :: rest) n).length = (timesOf f env n).length + (rest.count n + 1) := by
    unfold dropped; rw [List.length_append, List.length_take, hc, Nat.min_eq_left hm]
  have e2 : (dropped f pre env rest n).length = (timesOf f env n).length + rest.count n := by
    unfold dropped; rw [List.length_append, List.length_take, Nat.min_eq_left hm2]
  refine ⟨by omega, ?_⟩
  rw [e1]
  unfold dropped
  rw [hc, show (timesOf f env n).length + (rest.count n + 1) - 1 = (timesOf f env n).length + rest.count n by omega, List.take_append]
  rw [List.take_of_length_le (show (timesOf f env n).length ≤ (timesOf f env n).length + rest.count n from Nat.le_add_right _ _), Nat.add_sub_cancel_left, List.take_take, Nat.min_eq_left (Nat.le_succ _)]

/-- What is still to be matched of one list and another one, and the names bound around just these. -/
structure Lv where
  a : List T
  b : List T
  na : List BA
  nb : List BA
/-- The pairs around, the innermost level being the first. -/
def envOf : List Lv → List (BA × BA)
  | [] => []
  | l :: r => (l.na.zip l.nb).reverse ++ envOf r
/-- All that is still to be matched matches. -/
def lvOk : List Lv → Bool
  | [] => true
  | l :: r => alphas (envOf (l :: r)) l.a l.b && lvOk r
/-- The lists are as long as each other. -/
def Lv.fits (l : Lv) : Prop := l.a.length = l.b.length ∧ l.na.length = l.nb.length

theorem lvOk_step (x y : T) (xs ys : List T) (na nb : List BA) (r : List Lv) (hn : x.names.length = y.names.length) (hk : x.kids.length = y.kids.length) (hs : x.sort = y.sort) (hr : x.rest = y.rest)
    (hm : (if isNamed x.sort then nameR (envOf (⟨x :: xs, y :: ys, na, nb⟩ :: r)) x.text y.text else x.text == y.text) = true) :
    lvOk (⟨x :: xs, y :: ys, na, nb⟩ :: r) = lvOk (⟨x.kids, y.kids, x.names, y.names⟩ :: ⟨xs, ys, na, nb⟩ :: r) := by
  have e : envOf (⟨x :: xs, y :: ys, na, nb⟩ :: r) = envOf (⟨xs, ys, na, nb⟩ :: r) := rfl
  unfold lvOk
  rw [alphas_cons, alpha_eq, hm, e]
  have e2 : envOf (⟨x.kids, y.kids, x.names, y.names⟩ :: ⟨xs, ys, na, nb⟩ :: r) = (x.names.zip y.names).reverse ++ envOf (⟨xs, ys, na, nb⟩ :: r) := rfl
  rw [e2]
  simp only [hn, hk, hs, hr, beq_self_eq_true, Bool.true_and]
  rw [show lvOk (⟨xs, ys, na, nb⟩ :: r) = (alphas (envOf (⟨xs, ys, na, nb⟩ :: r)) xs ys && lvOk r) from rfl, Bool.and_assoc]
/-- .. and where two parts part. -/

theorem lvOk_no (x y : T) (xs ys : List T) (na nb : List BA) (r : List Lv)
    (h : (x.sort == y.sort && x.rest == y.rest && x.names.length == y.names.length && x.kids.length == y.kids.length && (if isNamed x.sort then nameR (envOf (⟨x :: xs, y :: ys, na, nb⟩ :: r)) x.text y.text else x.text == y.text)) = false) : lvOk (⟨x :: xs, y :: ys, na, nb⟩ :: r) = false := by
  unfold lvOk
  rw [alphas_cons, alpha_eq, h]
  simp

theorem lvOk_pop (bs : List T) (na nb : List BA) (r : List Lv) : lvOk (⟨[], bs, na, nb⟩ :: r) = lvOk r := by
  rw [show lvOk (⟨[], bs, na, nb⟩ :: r) = (alphas (envOf (⟨[], bs, na, nb⟩ :: r)) [] bs && lvOk r) from rfl, alphas_nil, Bool.true_and]

theorem lvOk_top (as' bs : List T) (h : as'.length = bs.length) : lvOk [⟨as', bs, [], []⟩] = alphaTop as' bs := by
  unfold lvOk alphaTop
  rw [show lvOk [] = true from rfl, Bool.and_true, h]
  simp [envOf]
/-- How much is still to be done. -/
def todo : List Lv → Nat
  | [] => 0
  | l :: r => 1 + 2 * wts l.a + todo r
/-- How much may still be bound and dropped. -/
def binds : List Lv → Nat
  | [] => 0
  | l :: r => l.na.length + 2 * wts l.a + binds r

end Go.Proofs.Ytooeapjlfmknfaa
