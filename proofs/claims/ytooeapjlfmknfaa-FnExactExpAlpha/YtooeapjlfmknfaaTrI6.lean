/-
  The program's ExpAlpha.
-/
import Derived.Test.YtooeapjlfmknfaaTrI5
import Derived.Deep.LoopGhost
import Derived.Carry
namespace Go.Proofs.Ytooeapjlfmknfaa.Tr
set_option maxRecDepth 100000
set_option linter.unusedVariables false
set_option linter.unusedSimpArgs false
open Go.RowKit Go.Deep
attribute [local go_sem ↓] Go.wp_at_zero Go.wp_at_succ

def wS : List Lv → Nat
  | [] => 0
  | l :: r => wts l.a + wS r
def wSb : List Lv → Nat
  | [] => 0
  | l :: r => wts l.b + wSb r
/-- What is known of levels and pairs. -/
structure Ivs (st : List Lv) (env : TEnv) (p n : Nat) : Prop where
  ev : env.map (·.2) = envOf st
  desc : Desc env
  lt : ∀ q ∈ env, q.1 < p
  fit : ∀ l ∈ st, l.a.length = l.b.length ∧ l.na.length = l.nb.length
  sz : ∀ l ∈ st, (∀ j (h : j < l.na.length), l.na[j].size ≤ maxLen) ∧ ∀ j (h : j < l.nb.length), l.nb[j].size ≤ maxLen
  b1 : n + binds st ≤ 8388608
  b2 : p + wS st ≤ 8388608
  b3 : env.length ≤ p
  b4 : st.length + wS st ≤ 8388608
  b5 : wS st ≤ 1048576
  b6 : wSb st ≤ 1048576

theorem inv_pop {bs : List T} {na nb : List BA} {r : List Lv} {env : TEnv} {p n : Nat} (h : Ivs (⟨[], bs, na, nb⟩ :: r) env p n) :
    ∃ pre env', env = pre ++ env' ∧ pre.map (·.2) = (na.zip nb).reverse ∧ Ivs r env' p (n + na.length) := by
  have he := h.ev
  have hf := h.fit _ (List.mem_cons_self)
  have hlen : ((na.zip nb).reverse).length = na.length := by rw [List.length_reverse, List.length_zip]; have := hf.2; simp at this; omega
  have e1 : (env.take na.length).map (·.2) = (na.zip nb).reverse := by
    rw [List.map_take, he]
    show List.take na.length ((na.zip nb).reverse ++ envOf r) = _
    rw [← hlen]; exact List.take_left
  have e2 : (env.drop na.length).map (·.2) = envOf r := by
    rw [List.map_drop, he]
    show List.drop na.length ((na.zip nb).reverse ++ envOf r) = _
    rw [← hlen]; exact List.drop_left
  have hb1 := h.b1
  have hb4 := h.b4
  have hb5 := h.b5
  have hb6 := h.b6
  have hb2 := h.b2
  have hb3 := h.b3
  simp only [binds, wS, wSb, wts_nil, List.length_cons] at hb1 hb2 hb4 hb5 hb6
  refine ⟨env.take na.length, env.drop na.length, (List.take_append_drop _ _).symm, e1, ⟨e2, h.desc.sublist (List.drop_sublist _ _), fun q hq => h.lt q (List.mem_of_mem_drop hq), fun l hl => h.fit l (List.mem_cons_of_mem _ hl), fun l hl => h.sz l (List.mem_cons_of_mem _ hl), by omega, by omega, ?_, by omega, by omega, by omega⟩⟩
  rw [List.length_drop]; omega

theorem inv_push {x y : T} {xs ys : List T} {na nb : List BA} {r : List Lv} {env : TEnv} {p n : Nat} (h : Ivs (⟨x :: xs, y :: ys, na, nb⟩ :: r) env p n) (hk : x.kids.length = y.kids.length) (hn : x.names.length = y.names.length) :
    Ivs (⟨x.kids, y.kids, x.names, y.names⟩ :: ⟨xs, ys, na, nb⟩ :: r) (bindN p (x.names.zip y.names) env) (p + x.names.length) (n + x.names.length) := by
  have hz : (x.names.zip y.names).length = x.names.length := by rw [List.length_zip, ← hn, Nat.min_self]
  obtain ⟨pre, h1, h2⟩ := bindN_pre (x.names.zip y.names) p env
  obtain ⟨h3, h4⟩ := bindN_desc (x.names.zip y.names) p env h.desc h.lt
  have hf := h.fit _ (List.mem_cons_self)
  have hs := h.sz _ (List.mem_cons_self)
  have hb1 := h.b1
  have hb2 := h.b2
  have hb3 := h.b3
  have hb4 := h.b4
  have hb5 := h.b5
  have hb6 := h.b6
  have hwx := wt_eq x
  have hwy := wt_eq y
  have hnx := wtN_len x.names
  simp only [binds, wS, wSb, wts_cons, List.length_cons] at hb1 hb2 hb4 hb5 hb6 hf
  refine ⟨?_, h3, fun q hq => by have := h4 q hq; rw [hz] at this; exact this, fun l hl => ?_, fun l hl => ?_, ?_, ?_, ?_, ?_, ?_, ?_⟩
  · rw [h1, List.map_append, h2, h.ev]
    rfl
  · rcases List.mem_cons.1 hl with rfl | hl
    · exact ⟨hk, hn⟩
    · rcases List.mem_cons.1 hl with rfl | hl
      · have h9 : (x :: xs).length = (y :: ys).length := (h.fit _ (List.mem_cons_self)).1
        exact ⟨by simp at h9; exact h9, (h.fit _ (List.mem_cons_self)).2⟩
      · exact h.fit l (List.mem_cons_of_mem _ hl)
  · rcases List.mem_cons.1 hl with rfl | hl
    · exact ⟨fun j hj => by have := wtN_get x.names j hj; show x.names[j].size ≤ _; unfold maxLen; omega, fun j hj => by have := wtN_get y.names j hj; show y.names[j].size ≤ _; unfold maxLen; omega⟩
    · rcases List.mem_cons.1 hl with rfl | hl
      · exact hs
      · exact h.sz l (List.mem_cons_of_mem _ hl)
  · simp only [binds]; omega
  · simp only [wS]; omega
  · rw [bindN_length, hz]; omega
  · simp only [wS, List.length_cons]; omega
  · simp only [wS]; omega
  · simp only [wSb]; omega

theorem todo_push (x y : T) (xs ys : List T) (na nb : List BA) (r : List Lv) : todo (⟨x.kids, y.kids, x.names, y.names⟩ :: ⟨xs, ys, na, nb⟩ :: r) < todo (⟨x :: xs, y :: ys, na, nb⟩ :: r) := by
  have := wt_eq x
  simp only [todo, wts_cons]; omega

theorem todo_pop (bs : List T) (na nb : List BA) (r : List Lv) : todo r < todo (⟨[], bs, na, nb⟩ :: r) := by
  simp only [todo]; omega
/-- What a step says. -/

theorem lvOk_next {x y : T} {xs ys : List T} {na nb : List BA} {r : List Lv} {env : TEnv} (hd : Desc env) (he : env.map (·.2) = envOf (⟨x :: xs, y :: ys, na, nb⟩ :: r)) (ok : Bool) (h : (mat env x y && (x.kids.length == y.kids.length && x.names.length == y.names.length)) = ok) :
    lvOk (⟨x :: xs, y :: ys, na, nb⟩ :: r) = (ok && lvOk (⟨x.kids, y.kids, x.names, y.names⟩ :: ⟨xs, ys, na, nb⟩ :: r)) := by
  have hp := placed_eq env hd x.text y.text
  rw [he] at hp
  unfold mat at h
  rw [hp] at h
  cases ok
  · rw [Bool.false_and]
    refine lvOk_no x y xs ys na nb r ?_
    rw [Bool.eq_false_iff] at h ⊢
    intro h2
    apply h
    simp only [Bool.and_eq_true] at h2 ⊢
    obtain ⟨⟨⟨⟨h3, h4⟩, h5⟩, h6⟩, h7⟩ := h2
    exact ⟨⟨⟨h3, h4⟩, h7⟩, h6, h5⟩
  · rw [Bool.true_and]
    simp only [Bool.and_eq_true, beq_iff_eq] at h
    obtain ⟨⟨⟨h3, h4⟩, h7⟩, h6, h5⟩ := h
    exact lvOk_step x y xs ys na nb r h5 h6 h3 h4 h7

/-- What stands between two rounds. -/
structure Run (w0 W : World) (M A B : Nat) (R : Bool) (k : Nat) (mb : Bool) : Prop where
  bel : Below w0.heap.size w0 W
  no : mb = false → R = false
  yes : mb = true → ∃ (SA SB : Nat → Prop) (ov : Value) (p n : Nat) (st : List Lv) (qs : List (Value × Value × Value × Value)) (env : TEnv), St w0 W M A B SA SB ov p n n (timesOf (·.1) env) (timesOf (·.2) env) st qs ∧ Ivs st env p n ∧ R = lvOk st ∧ todo st ≤ k

theorem start_any (xs ys : List T) (ao : Option Addr) (cap : Nat) (ao2 : Option Addr) (cap2 : Nat) (w : World) (hL : Lies w 0 (.slice ao xs.length cap) xs) (hL2 : Lies w 0 (.slice ao2 ys.length cap2) ys) (hw : wts xs ≤ 1048576) (hw2 : wts ys ≤ 1048576) :
    Calls Try.prog 12 #[.pointer (some ⟨w.heap.size + 1 + 1, 0, none⟩), .agg #[.slice ao xs.length cap, .slice ao2 ys.length cap2, .slice none 0 0, .slice none 0 0]]
      (((w.alloc (.map #[] 0)).alloc (.map #[] 0)).alloc (.cells #[.slice none 0 0, .int .i64 0, .map (some w.heap.size), .map (some (w.heap.size + 1))] 41)) fun e w' => ∃ mb, e = .returned (.bool mb) ∧ Run w w' (w.heap.size + 1 + 1) w.heap.size (w.heap.size + 1) (alphaTop xs ys) (1 + 2 * wts xs) mb := by
  have hb : Below w.heap.size w (((w.alloc (.map #[] 0)).alloc (.map #[] 0)).alloc (.cells #[.slice none 0 0, .int .i64 0, .map (some w.heap.size), .map (some (w.heap.size + 1))] 41)) := belA (belA (belA (Below.refl _ _)))
  by_cases hlen : xs.length = ys.length
  · have s1 : (w.alloc (.map #[] 0)).heap.size = w.heap.size + 1 := size_alloc _ _
    have s2 : ((w.alloc (.map #[] 0)).alloc (.map #[] 0)).heap.size = w.heap.size + 1 + 1 := by rw [size_alloc, size_alloc]
    have hbox := boxAt_new ((w.alloc (.map #[] 0)).alloc (.map #[] 0)) #[.slice none 0 0, .int .i64 0, .map (some w.heap.size), .map (some (w.heap.size + 1))] 41
    rw [s2] at hbox
    have hmA := ((mapIs_made w w.heap.size (fun _ => False) (fun _ h => h)).alloc (.map #[] 0)).alloc (.cells #[.slice none 0 0, .int .i64 0, .map (some w.heap.size), .map (some (w.heap.size + 1))] 41)
    have hmB := (mapIs_made (w.alloc (.map #[] 0)) w.heap.size (fun _ => False) (fun _ h => h)).alloc (.cells #[.slice none 0 0, .int .i64 0, .map (some w.heap.size), .map (some (w.heap.size + 1))] 41)
    rw [s1] at hmB
    have h0 : St w (((w.alloc (.map #[] 0)).alloc (.map #[] 0)).alloc (.cells #[.slice none 0 0, .int .i64 0, .map (some w.heap.size), .map (some (w.heap.size + 1))] 41)) (w.heap.size + 1 + 1) w.heap.size (w.heap.size + 1) (fun _ => False) (fun _ => False) (.slice none 0 0) 0 0 0 (timesOf (·.1) []) (timesOf (·.2) []) [] [] :=
      ⟨hb, by omega, Nat.le_refl _, by omega, by omega, hbox, hmA.congr (fun _ => rfl), hmB.congr (fun _ => rfl), fun g h => h.elim, fun g h => h.elim, fun g h => h.elim, fun g h => by simp [Value.ownBlock] at h, World.ownsRow_nil _ _ _ _, trivial⟩
    rw [← hlen] at hL2 ⊢
    refine (within_any w _ _ _ _ _ _ _ 0 0 [] [] [] h0 ⟨xs, ys, [], []⟩ xs.length 0 ao cap ao2 cap2 none 0 none 0 ⟨hL, hL2, strs_nil _ _ _ _, strs_nil _ _ _ _⟩ rfl rfl (fun j h => absurd h (Nat.not_lt_zero _)) (fun j h => absurd h (Nat.not_lt_zero _)) (by omega) (by omega) (by simp) (by simp)).mono ?_
    rintro e w' ⟨rfl, SA', SB', ov', h1⟩
    refine ⟨true, rfl, h1.bel, fun h => (by cases h), fun _ => ⟨SA', SB', ov', 0, 0, _, _, [], h1, ⟨rfl, List.Pairwise.nil, fun q hq => absurd hq (by simp), fun l hl => ?_, fun l hl => ?_, ?_, ?_, Nat.le_refl _, ?_, ?_, ?_⟩, ?_, ?_⟩⟩
    · rcases List.mem_singleton.1 hl with rfl; exact ⟨hlen, rfl⟩
    · rcases List.mem_singleton.1 hl with rfl; exact ⟨fun j h => absurd h (Nat.not_lt_zero _), fun j h => absurd h (Nat.not_lt_zero _)⟩
    · simp only [binds, List.length_nil]; omega
    · simp only [wS]; omega
    · simp only [wS, List.length_cons, List.length_nil]; omega
    · simp only [wS]; omega
    · simp only [wSb]; omega
    · exact (lvOk_top xs ys hlen).symm
    · simp only [todo]; omega
  · refine (within_no _ _ ao xs.length cap ao2 ys.length cap2 none 0 0 none 0 0 (fun h => hlen h.1)).mono ?_
    rintro e w' ⟨rfl, hb2⟩
    refine ⟨false, rfl, bel_go hb hb2, fun _ => ?_, fun h => by cases h⟩
    unfold alphaTop
    rw [show (xs.length == ys.length) = false by rw [beq_eq_false_iff_ne]; exact hlen, Bool.false_and]

theorem step_any (w0 W : World) (M A B : Nat) (R : Bool) (k : Nat) (SA SB : Nat → Prop) (ov : Value) (p n : Nat) (l : Lv) (r : List Lv) (qs : List (Value × Value × Value × Value)) (env : TEnv)
    (h : St w0 W M A B SA SB ov p n n (timesOf (·.1) env) (timesOf (·.2) env) (l :: r) qs) (hi : Ivs (l :: r) env p n) (hR : R = lvOk (l :: r)) (hk : todo (l :: r) ≤ k) :
    Calls Try.prog 13 #[.pointer (some ⟨M, 0, none⟩)] W fun e w' => ∃ mb k', k' < k ∧ e = .returned (.bool mb) ∧ Run w0 w' M A B R k' mb := by
  obtain ⟨q, qs', rfl, hlv⟩ : ∃ q qs', qs = q :: qs' ∧ LvAt w0 l q := by
    cases qs with
    | nil => exact h.lvs.elim
    | cons q qs' => exact ⟨q, qs', rfl, h.lvs.1⟩
  obtain ⟨va, vb, vna, vnb⟩ := q
  cases l with
  | mk la lb na nb =>
  obtain ⟨aa, ca, hva⟩ := hlv.a.slice
  obtain ⟨ab, cb, hvb⟩ := hlv.b.slice
  obtain ⟨an, cn, hvn⟩ := hlv.na.slice
  obtain ⟨an2, cn2, hvn2⟩ := hlv.nb.slice
  simp only at hva hvb hvn hvn2
  subst hva hvb hvn hvn2
  have hfit := hi.fit _ (List.mem_cons_self)
  have hsz := hi.sz _ (List.mem_cons_self)
  have b1 := hi.b1
  have b2 := hi.b2
  have b3 := hi.b3
  have b4 := hi.b4
  have b5 := hi.b5
  have b6 := hi.b6
  simp only [List.length_cons] at hfit b4
  cases la with
  | nil =>
    have hlb : lb = [] := List.length_eq_zero_iff.1 hfit.1.symm
    subst hlb
    obtain ⟨pre, env', he, hpre, hi'⟩ := inv_pop hi
    subst he
    simp only [binds, wts_nil] at b1
    have h' := h
    simp only [List.length_nil, ← hfit.2] at h'
    refine (goOn_pop w0 W M A B SA SB ov p n ⟨[], [], na, nb⟩ r aa ca ab cb an cn an2 cn2 na.length qs' pre env' h' hpre rfl hfit.2.symm hsz.1 hsz.2 (by omega) (by omega)).mono ?_
    rintro e w' ⟨rfl, ov', h1⟩
    refine ⟨true, todo r, Nat.lt_of_lt_of_le (todo_pop [] na nb r) hk, rfl, h1.bel, fun h => (by cases h), fun _ => ⟨SA, SB, ov', p, n + na.length, r, qs', env', h1, hi', ?_, Nat.le_refl _⟩⟩
    rw [hR]; exact lvOk_pop [] na nb r
  | cons x xs =>
    cases lb with
    | nil => exact absurd hfit.1 (by simp)
    | cons y ys =>
      have hwx := wt_eq x
      have hxl := wts_len xs
      simp only [binds, wS, wSb, wts_cons] at b1 b2 b4 b5 b6
      have hca : (x :: xs).length ≤ ca := hlv.a.cap
      have hcb : (y :: ys).length ≤ cb := hlv.b.cap
      simp only [List.length_cons] at hca hcb
      have e2 : ys.length = xs.length := by have := hfit.1; simp at this; omega
      have h' := h
      simp only [List.length_cons, e2] at h'
      obtain ⟨ok, hok⟩ : ∃ ok, (mat env x y && (x.kids.length == y.kids.length && x.names.length == y.names.length)) = ok := ⟨_, rfl⟩
      have hstep := lvOk_next hi.desc hi.ev ok hok
      refine (goOn_next w0 W M A B SA SB ov p n x y xs ys na nb r aa ca xs.length ab cb _ _ qs' env h' rfl e2 (by omega) (by omega) (by omega) (by omega) (by omega) (by omega) (by omega) hca (by omega)).mono ?_
      rintro e w' ⟨hy, hn⟩
      rw [hok] at hy hn
      cases ok with
      | false =>
        obtain ⟨rfl, hb⟩ := hn rfl
        refine ⟨false, 0, ?_, rfl, hb, fun _ => by rw [hR, hstep]; rfl, fun h => by cases h⟩
        have := todo_push x y xs ys na nb r
        omega
      | true =>
        obtain ⟨rfl, SA', SB', ov', q1, q2, h1⟩ := hy rfl
        rw [Bool.and_eq_true, Bool.and_eq_true, beq_iff_eq, beq_iff_eq] at hok
        refine ⟨true, todo (⟨x.kids, y.kids, x.names, y.names⟩ :: ⟨xs, ys, na, nb⟩ :: r), Nat.lt_of_lt_of_le (todo_push x y xs ys na nb r) hk, rfl, h1.bel, fun h => (by cases h), fun _ => ⟨SA', SB', ov', _, _, _, _, _, h1, inv_push hi hok.2.1 hok.2.2, ?_, Nat.le_refl _⟩⟩
        rw [hR, hstep, Bool.true_and]

set_option maxHeartbeats 4000000 in
theorem iExpAlpha_any (xs ys : List T) (ao : Option Addr) (cap : Nat) (ao2 : Option Addr) (cap2 : Nat) (w : World) (hL : Lies w 0 (.slice ao xs.length cap) xs) (hL2 : Lies w 0 (.slice ao2 ys.length cap2) ys) (hw : wts xs ≤ 1048576) (hw2 : wts ys ≤ 1048576) :
    Calls Try.prog 7 #[.slice ao xs.length cap, .slice ao2 ys.length cap2] w fun e w' => e = .returned (.bool (alphaTop xs ys)) ∧ Below w.heap.size w w' := by
  have hmm := @run_makeMap Try.prog
  have HC := start_any xs ys ao cap ao2 cap2 w hL hL2 hw hw2
  obtain ⟨R, hR⟩ : ∃ R, alphaTop xs ys = R := ⟨_, rfl⟩
  rw [hR] at HC ⊢
  have HCC : Hid (Calls _ _ _ _ _) := HC
  clear hL hL2 hR HC
  go_enter Try.func7, Try.ntmps7
  go_wp2_with fail
  refine (HCC.out).mono ?_
  rintro e w1 ⟨mb0, rfl, hrun0⟩
  have HRun0 : Hid (Run _ _ _ _ _ _ _ _) := hrun0
  clear hrun0 HCC
  go_wp2_with fail
  go_loopg [6] (1 + 2 * wts xs) (fun k u wr => ∃ mb, u = .bool mb ∧ Hid (Run w wr (w.heap.size + 1 + 1) w.heap.size (w.heap.size + 1) R k mb))
  case atStart => exact ⟨mb0, rfl, HRun0.out⟩
  case round =>
    obtain ⟨mb, rfl, hrun⟩ := hrel
    cases mb
    · have e : Hid (R = false) := hrun.out.no rfl
      have HB : Hid (Below _ _ _) := hrun.out.bel
      clear hrun HRun0
      go_wp2
      go_ret
      rw [e.out]
      exact ⟨rfl, HB.out⟩
    · obtain ⟨SA, SB, ov, p, n, st, qs, env, h1, h2, h3, h4⟩ := hrun.out.yes rfl
      have cM0 := h1.box.cell 0 rfl
      cases st with
      | nil =>
        have e : Hid (R = true) := by rw [h3]; rfl
        have HB : Hid (Below _ _ _) := h1.bel
        have hov : (∃ ao l c, ov = .slice ao l c ∧ l = 0) := by
          rcases h1.row.2 with ⟨rfl, _⟩ | ⟨g, c, _, rfl, _⟩
          · exact ⟨_, _, _, rfl, rfl⟩
          · exact ⟨_, _, _, rfl, rfl⟩
        obtain ⟨ao', l', c', rfl, rfl⟩ := hov
        clear hrun HRun0 h1 h2 h3 h4
        go_wp2
        go_ret
        rw [e.out]
        exact ⟨rfl, HB.out⟩
      | cons l r =>
        obtain ⟨g, c, rfl, _⟩ := h1.open_
        have HC : Hid (Calls _ _ _ _ _) := step_any w wr _ _ _ R gk SA SB _ p n l r qs env h1 h2 h3 h4
        have hpos : (0 : Int) < (r.length : Int) + 1 := by omega
        clear hrun HRun0 h1 h2 h3 h4
        go_wp2_with fail
        refine (HC.out).mono ?_
        rintro e w2 ⟨mb, k', hk', rfl, hrun⟩
        have HR2 : Hid (Run _ _ _ _ _ _ _ _) := hrun
        have HK : Hid (k' < gk) := hk'
        clear hrun hk' cM0
        go_wp2
        go_roundg k'
        case measure => exact HK.out
        case rel => exact ⟨mb, rfl, HR2.out⟩

end Go.Proofs.Ytooeapjlfmknfaa.Tr
