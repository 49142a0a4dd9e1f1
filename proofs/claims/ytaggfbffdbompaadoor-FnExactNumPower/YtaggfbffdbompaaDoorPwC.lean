/-
  The contract of a ratio so many times with itself.
-/
import Derived.Test.YtaggfbffdbompaaDoorPwA
import Derived.Test.YtaggfbffdbompaaDoorPwB2
import Derived.Test.YtaggfbffdbompaaDoorDiv
namespace Go.Proofs.YtaggfbffdbompaaDoor
set_option maxRecDepth 100000
set_option linter.unusedVariables false
set_option linter.unusedSimpArgs false
open Go.RowKit Go.Shelf

attribute [local go_sem] Oper.semAt_some

/-- A power that has more than sixty digits, above or below. -/
def pBig (u d p : Nat) : Bool := big (u ^ p) || big (d ^ p)

theorem big_mono (u p q : Nat) (h : p ≤ q) (hb : big (u ^ p) = true) : big (u ^ q) = true := by
  unfold big at *
  simp only [decide_eq_true_eq] at *
  rcases Nat.eq_zero_or_pos u with h0 | h0
  · subst h0
    rcases Nat.eq_zero_or_pos p with hp | hp
    · subst hp; exact absurd hb (by decide)
    · rw [Nat.zero_pow hp] at hb; exact absurd hb (by decide)
  · exact Nat.le_trans hb (Nat.pow_le_pow_right h0 h)

theorem pBig_mono (u d p q : Nat) (h : p ≤ q) (hb : pBig u d p = true) : pBig u d q = true := by
  unfold pBig at *
  rw [Bool.or_eq_true] at *
  rcases hb with hb | hb
  · exact .inl (big_mono u p q h hb)
  · exact .inr (big_mono d p q h hb)

theorem big_fits {n : Nat} (h : big n = false) : fits n 7 := by
  unfold big at h
  rw [decide_eq_false_iff_not] at h
  exact (fits_pow 60 7 (by omega)).mono (by omega) (Nat.le_refl _)

theorem pBig_fits {u d p : Nat} (h : pBig u d p = false) : fits (u ^ p) 7 ∧ fits (d ^ p) 7 := by
  unfold pBig at h
  rw [Bool.or_eq_false_iff] at h
  exact ⟨big_fits h.1, big_fits h.2⟩

theorem box_nc {W W' : World} {row : Option Nat} {b t : Nat} {cs : Array Value} (h : boxAt W b cs t) (hg : W.grownBy W' row) (hr : ∀ r, row = some r → ∃ o : Obj, W.heap[r]? = some o ∧ o.isCells = false) : boxAt W' b cs t := by
  refine (hg.block b h.lt ?_).trans h
  intro e
  obtain ⟨o, h1, h2⟩ := hr b e.symm
  rw [show W.heap[b]? = _ from h] at h1
  cases h1
  cases h2

theorem below_nc {n₀ B : Nat} {w W W' : World} {row : Option Nat} (h : Below n₀ w W) (hn : n₀ ≤ w.heap.size) (hB : n₀ ≤ B) (hg : W.grownBy W' row) (hr : ∀ r, row = some r → B ≤ r) : Below n₀ w W' :=
  h.trans ⟨hg.os, hg.tape, hg.output, hg.size, fun k hk => hg.block k (by have := h.size; omega) (fun e => by have := hr k e.symm; omega)⟩

/-- What the power is, so far. -/
structure PwPow (W : World) (P : Nat) (b b2 : Bool) (u d t L : Nat) (pre : List (Fin L)) (c : Bool) (a5 : Option Addr) (l5 c5 : Nat) (c6 : Bool) (a6 : Option Addr) (l6 c6' : Nat) (p : Nat) : Prop where
  box : boxAt W P #[.bool c, .slice a5 l5 c5, .bool c6, .slice a6 l6 c6'] 60
  n : isN W (.slice a5 l5 c5) (u ^ p)
  m : isN W (.slice a6 l6 c6') (d ^ p)
  s : c = (b && p % 2 == 1)
  s2 : c6 = (b2 && p % 2 == 1)
  ok : pBig u d p = false
  at_ : pre = dnk L pre.length → p = t / 2 ^ (L - pre.length)

/-- What stands between two rounds of powerOf. -/
structure PwInv (w : World) (B P : Nat) (b : Bool) (ao : Option Addr) (len cap : Nat) (b2 : Bool) (ao2 : Option Addr) (len2 cap2 : Nat) (u d t L : Nat) (pre : List (Fin L)) (W : World) : Prop where
  base : boxAt W w.heap.size #[.bool b, .slice ao len cap, .bool b2, .slice ao2 len2 cap2] 60
  res : boxAt W (w.heap.size + 1) #[.bool false, .slice none 0 0, .bool false, .slice none 0 0] 60
  err : boxAt W (w.heap.size + 1 + 1) #[.nilIface] 46
  n : isN W (.slice ao len cap) u
  m : isN W (.slice ao2 len2 cap2) d
  pow : ∃ c a5 l5 c5 c6 a6 l6 c6' p, PwPow W P b b2 u d t L pre c a5 l5 c5 c6 a6 l6 c6' p
  bel : Below w.heap.size w W
  sz : B ≤ W.heap.size
/-- How a round of powerOf is left by a return. -/
structure PwOut (w : World) (B : Nat) (u d t L : Nat) (c : Code) (pre : List (Fin L)) (W : World) : Prop where
  ret : c = .ret
  res : boxAt W (w.heap.size + 1) #[.bool false, .slice none 0 0, .bool false, .slice none 0 0] 60
  err : boxAt W (w.heap.size + 1 + 1) #[.iface 75 (.agg #[.int .i64 3])] 46
  at_ : pre = dnk L pre.length → pBig u d t = true
  bel : Below w.heap.size w W
  sz : B ≤ W.heap.size

theorem PwInv.own {w : World} {B P : Nat} {b : Bool} {ao : Option Addr} {len cap : Nat} {b2 : Bool} {ao2 : Option Addr} {len2 cap2 : Nat} {u d t L : Nat} (hB : w.heap.size ≤ B) : OwnFrom B (PwInv w B P b ao len cap b2 ao2 len2 cap2 u d t L) := by
  intro s W W' row h hg hr
  have hr2 : ∀ r, row = some r → ∃ o : Obj, W.heap[r]? = some o ∧ o.isCells = false := fun r e => (hr r e).2
  obtain ⟨c, a5, l5, c5, c6, a6, l6, c6', p, q⟩ := h.pow
  exact ⟨box_nc h.base hg hr2, box_nc h.res hg hr2, box_nc h.err hg hr2, isN_nc h.n hg hr2, isN_nc h.m hg hr2,
    ⟨c, a5, l5, c5, c6, a6, l6, c6', p, ⟨box_nc q.box hg hr2, isN_nc q.n hg hr2, isN_nc q.m hg hr2, q.s, q.s2, q.ok, q.at_⟩⟩,
    below_nc h.bel (Nat.le_refl _) hB hg (fun r e => (hr r e).1), Nat.le_trans h.sz hg.size⟩

theorem PwOut.own {w : World} {B : Nat} {u d t L : Nat} {c : Code} (hB : w.heap.size ≤ B) : OwnFrom B (PwOut w B u d t L c) := by
  intro s W W' row h hg hr
  have hr2 : ∀ r, row = some r → ∃ o : Obj, W.heap[r]? = some o ∧ o.isCells = false := fun r e => (hr r e).2
  exact ⟨h.ret, box_nc h.res hg hr2, box_nc h.err hg hr2, h.at_, below_nc h.bel (Nat.le_refl _) hB hg (fun r e => (hr r e).1), Nat.le_trans h.sz hg.size⟩

theorem grown_b {W W' : World} {row : Option Nat} (h : Below W.heap.size W W') : W.grownBy W' row := ⟨h.os, h.tape, h.output, h.size, fun k hk _ => h.block k hk⟩

theorem grown_t {A B C : World} {row : Option Nat} (h : A.grownBy B row) (k : B.grownBy C row) : A.grownBy C row :=
  ⟨k.os.trans h.os, k.tape.trans h.tape, k.output.trans h.output, Nat.le_trans h.size k.size, fun i hi hne => (k.block i (Nat.lt_of_lt_of_le hi h.size) hne).trans (h.block i hi hne)⟩

theorem grown_box {W W' : World} {P b t : Nat} {cs : Array Value} (h : boxAt W b cs t) (hg : W.grownBy W' (some P)) (hne : b ≠ P) : boxAt W' b cs t := (hg.block b h.lt (fun e => hne (Option.some.inj e))).trans h

theorem grown_n {W W' : World} {P n : Nat} {v : Value} (h : isN W v n) (hg : W.grownBy W' (some P)) (hne : v.ownBlock ≠ some P) : isN W' v n := by
  obtain ⟨xs, h1, h2⟩ := h
  refine ⟨xs, ⟨h1.1, ?_⟩, h2⟩
  rcases h1.2 with h3 | ⟨g, cap, cur, e1, e2, e3, e4⟩
  · exact .inl h3
  · refine .inr ⟨g, cap, cur, e1, e2, (hg.block g (Array.getElem?_eq_some_iff.1 e3).1 (fun e => hne (by rw [e1]; exact e))).trans e3, e4⟩

theorem grown_bel {W W' : World} {P n₀ : Nat} {w : World} (h : Below n₀ w W) (hg : W.grownBy W' (some P)) (hP : n₀ ≤ P) (hn : n₀ ≤ w.heap.size) : Below n₀ w W' :=
  h.trans ⟨hg.os, hg.tape, hg.output, hg.size, fun k hk => hg.block k (by have := h.size; omega) (fun e => by cases e; omega)⟩

theorem grown_keeps {W W' : World} {P B : Nat} (hg : W.grownBy W' (some P)) (hP : P < B) : KeepsFrom B W W' :=
  ⟨hg.size, fun k o hk h1 _ => (hg.block k (Array.getElem?_eq_some_iff.1 h1).1 (fun e => by cases e; omega)).trans h1⟩

/-- A ratio stored whole. -/
def set4 (W : World) (P : Nat) (x0 x1 x2 x3 : Value) : World := (((W.setCell ⟨P, 0, none⟩ x0).setCell ⟨P, 1, none⟩ x1).setCell ⟨P, 2, none⟩ x2).setCell ⟨P, 3, none⟩ x3

theorem set4_grown (W : World) (P : Nat) (x0 x1 x2 x3 : Value) : W.grownBy (set4 W P x0 x1 x2 x3) (some P) := by
  have h : ∀ (W : World) (i : Nat) (x : Value), W.grownBy (W.setCell ⟨P, i, none⟩ x) (some P) := fun W i x =>
    ⟨rfl, rfl, rfl, by rw [World.size_setCell]; exact Nat.le_refl _, fun k _ hne => Below.heap_setCell W ⟨P, i, none⟩ x k (fun e => hne (by rw [e]))⟩
  exact grown_t (grown_t (grown_t (h _ _ _) (h _ _ _)) (h _ _ _)) (h _ _ _)

theorem box_set {W : World} {P t : Nat} {cs : Array Value} (h : boxAt W P cs t) (i : Nat) (x : Value) : boxAt (W.setCell ⟨P, i, none⟩ x) P (cs.setIfInBounds i x) t := by
  have h' : W.heap[P]? = some (.cells cs t (0, 0)) := h
  obtain ⟨hl, he⟩ := Array.getElem?_eq_some_iff.1 h'
  unfold boxAt
  simp [World.setCell, hl, Array.getElem_modify, he]

theorem set4_box {W : World} {P t : Nat} {y0 y1 y2 y3 : Value} (h : boxAt W P #[y0, y1, y2, y3] t) (x0 x1 x2 x3 : Value) : boxAt (set4 W P x0 x1 x2 x3) P #[x0, x1, x2, x3] t :=
  box_set (box_set (box_set (box_set h 0 x0) 1 x1) 2 x2) 3 x3

theorem pw_even (u p : Nat) : u ^ p * u ^ p = u ^ (2 * p) := by rw [← Nat.pow_add]; congr 1; omega

theorem pw_odd (u p : Nat) : u ^ p * u ^ p * u = u ^ (2 * p + 1) := by rw [Nat.pow_succ, ← pw_even]

theorem sg_even (b c : Bool) (p : Nat) : (c != c) = (b && 2 * p % 2 == 1) := by
  have : 2 * p % 2 = 0 := by omega
  rw [this]; cases b <;> cases c <;> rfl

theorem sg_odd (b c : Bool) (p : Nat) : ((c != c) != b) = (b && (2 * p + 1) % 2 == 1) := by
  have : (2 * p + 1) % 2 = 1 := by omega
  rw [this]; cases b <;> cases c <;> rfl

theorem pw_next {L : Nat} (t p : Nat) {pre : List (Fin L)} {x : Fin L} (hpre : pre.length < L) (h : pre = dnk L pre.length → p = t / 2 ^ (L - pre.length)) (k : Nat) (hk : k = if bitB t x.1 then 1 else 0) :
    pre ++ [x] = dnk L (pre ++ [x]).length → 2 * p + k = t / 2 ^ (L - (pre ++ [x]).length) := by
  intro hp
  obtain ⟨h1, h2⟩ := dnk_snoc hp hpre
  have e1 : L - (pre ++ [x]).length = x.1 := by rw [List.length_append, List.length_singleton]; omega
  have e2 : L - pre.length = x.1 + 1 := by omega
  rw [e1, bit_step t x.1, h h1, e2, hk]

theorem pBig_of {u d q : Nat} (h : big (u ^ q) = false) (k : big (d ^ q) = false) : pBig u d q = false := by unfold pBig; rw [h, k]; rfl

theorem pBig_l {u d q t m : Nat} (h : big (u ^ q) = true) (hq : q = t / m) : pBig u d t = true :=
  pBig_mono u d q t (by rw [hq]; exact Nat.div_le_self _ _) (by unfold pBig; rw [h]; rfl)

theorem pBig_r {u d q t m : Nat} (h : big (d ^ q) = true) (hq : q = t / m) : pBig u d t = true :=
  pBig_mono u d q t (by rw [hq]; exact Nat.div_le_self _ _) (by unfold pBig; rw [h, Bool.or_true])

/-- What powerOf answers. -/
def PwRet (b b2 : Bool) (u d t : Nat) (e : Ending) (w' : World) : Prop :=
  (pBig u d t = true ∧ e = .returned (.tuple #[.agg #[.bool false, .slice none 0 0, .bool false, .slice none 0 0], .iface 75 (.agg #[.int .i64 3])])) ∨
  (pBig u d t = false ∧ ∃ a5 l5 c5 a6 l6 c6, e = .returned (.tuple #[.agg #[.bool (b && t % 2 == 1), .slice a5 l5 c5, .bool (b2 && t % 2 == 1), .slice a6 l6 c6], .nilIface]) ∧ isN w' (.slice a5 l5 c5) (u ^ t) ∧ isN w' (.slice a6 l6 c6) (d ^ t))

set_option maxHeartbeats 1000000 in
theorem powerOf_any (b : Bool) (ao : Option Addr) (len cap : Nat) (b2 : Bool) (ao2 : Option Addr) (len2 cap2 : Nat) (u d t L : Nat) (w : World) (hn : isN w (.slice ao len cap) u) (hm : isN w (.slice ao2 len2 cap2) d) (fu : fits u 7) (fd : fits d 7) (ht : t ≤ 1000) (hL : Lib.bitLen t = L) (hL64 : L ≤ 64) :
    Calls Tryd.prog 38 #[.agg #[.bool b, .slice ao len cap, .bool b2, .slice ao2 len2 cap2], .int .u64 t] w fun e w' => PwRet b b2 u d t e w' ∧ Below w.heap.size w w' := by
  refine (callsIn_wide (n := 9)).1 ?_
  refine callsIn_of_wp_marks Tryd.func38 rfl trivial ?_ rfl
  simp only [Tryd.ntmps38, List.size_toArray, List.length_cons, List.length_nil, Nat.reduceAdd, Nat.reduceSub, Array.replicate_succ, Array.replicate_zero, List.push_toArray, List.append_toArray, List.nil_append, List.cons_append]
  gi_wp2_with fail
  obtain ⟨V, hV, hBV, x0, x1, x2⟩ := boxes3 w #[Value.bool b, Value.slice ao len cap, Value.bool b2, Value.slice ao2 len2 cap2] #[Value.bool false, Value.slice none 0 0, Value.bool false, Value.slice none 0 0] #[Value.nilIface] 60 60 46
  rw [← hV]
  have HBV : Hid (Below w.heap.size w V) := hBV
  have X0 : Hid (boxAt V _ _ _) := x0
  have X1 : Hid (boxAt V _ _ _) := x1
  have X2 : Hid (boxAt V _ _ _) := x2
  have HN : Hid (isN V (.slice ao len cap) u) := isN_below hn hBV
  have HM : Hid (isN V (.slice ao2 len2 cap2) d) := isN_below hm hBV
  have HL : Hid (Lib.bitLen t = L) := hL
  clear hV hBV x0 x1 x2 hn hm hL
  refine ⟨trivial, (callsIn_wide.2 (natOfWord_any 1 _ (by omega))).mono ?_⟩
  rintro e w1 ⟨⟨v1, rfl, h1⟩, hb1⟩
  obtain ⟨ao1, len1, cap1, rfl⟩ := isN_slice h1
  have HB1 : Hid (Below w.heap.size w w1) := HBV.out.trans (hb1.mono HBV.out.size)
  have Y0 : Hid (boxAt w1 _ _ _) := X0.out.on hb1
  have Y1 : Hid (boxAt w1 _ _ _) := X1.out.on hb1
  have Y2 : Hid (boxAt w1 _ _ _) := X2.out.on hb1
  have HN1 : Hid (isN w1 (.slice ao len cap) u) := isN_below HN.out hb1
  have HM1 : Hid (isN w1 (.slice ao2 len2 cap2) d) := isN_below HM.out hb1
  have H1 : Hid (isN w1 (.slice ao1 len1 cap1) 1) := h1
  clear h1 hb1 X0 X1 X2 HN HM HBV
  gi_wp2_with fail
  refine ⟨trivial, (bits_in 8 t _).mono ?_⟩
  rintro e w' ⟨rfl, rfl⟩
  gi_wp2_with fail
  have hs1 : ∀ (w : World) o, (w.alloc o).heap.size = w.heap.size + 1 := fun w o => by show (w.heap.push _).size = _; simp
  obtain ⟨W, hW, hBW, y0, y1, y2⟩ := boxes3 w1 #[Value.bool false, Value.slice ao1 len1 cap1] #[Value.bool false, Value.slice ao1 len1 cap1, Value.bool false, Value.slice ao1 len1 cap1] #[Value.int .u64 t] 44 60 61
  have hsz : W.heap.size = w1.heap.size + 1 + 1 + 1 := by rw [hW, hs1, hs1, hs1]
  rw [← hW]
  have HS : Hid (w.heap.size + 3 ≤ w1.heap.size) := by have := Y2.out.lt; show _ ≤ _; omega
  have HSZ : Hid (W.heap.size = w1.heap.size + 1 + 1 + 1) := hsz
  have hB0 : Below w.heap.size w W := HB1.out.trans (hBW.mono HB1.out.size)
  have N1 : isN W (.slice ao1 len1 cap1) 1 := isN_below H1.out hBW
  have hbig1 : pBig u d 0 = false := by unfold pBig; rw [Nat.pow_zero, Nat.pow_zero]; decide
  have hI : PwInv w W.heap.size (w1.heap.size + 1) b ao len cap b2 ao2 len2 cap2 u d t L [] W :=
    ⟨Y0.out.on hBW, Y1.out.on hBW, Y2.out.on hBW, isN_below HN1.out hBW, isN_below HM1.out hBW,
      ⟨_, _, _, _, _, _, _, _, 0, ⟨y1, by rw [Nat.pow_zero]; exact N1, by rw [Nat.pow_zero]; exact N1, by cases b <;> rfl, by cases b2 <;> rfl, hbig1, fun _ => by rw [List.length_nil, Nat.sub_zero, ← HL.out]; exact (len_top t ht).symm⟩⟩, hB0, Nat.le_refl _⟩
  have y2c := y2.cell 0 rfl
  have HI : Hid _ := hI
  have HB0 : Hid _ := hB0
  clear N1 hI hB0 y0 y1 hW hBW hsz Y0 Y1 Y2 HN1 HM1 H1
  refine wpIn_rangeFunc_ownG rfl (by omega) (gf := 89) (lb := #[.pointer (some ⟨w1.heap.size + 1 + 1, 0, none⟩)]) rfl trivial (enters_of Tryd.func89 (by kernel_rfl) rfl)
    (bits_stops 8 (by omega) (w1.heap.size + 1 + 1) w.heap.size t L ht HL.out hL64 W y2.lt y2c) KpB.trans (KpB_b HB0.out.size y2.lt) (Below.refl _ _) (fun _ => rfl)
    (PwInv w W.heap.size (w1.heap.size + 1) b ao len cap b2 ao2 len2 cap2 u d t L)
    (PwOut w W.heap.size u d t L)
    (PwInv.own HB0.out.size) (fun c => PwOut.own HB0.out.size) HI.out
    (fun x => { tmps := #[Value.agg #[Value.bool b, Value.slice ao len cap, Value.bool b2, Value.slice ao2 len2 cap2],
          Value.int IntKind.u64 t, Value.pointer (some { block := w.heap.size, off := 0 }), undef,
          Value.pointer (some { block := w.heap.size + 1, off := 0 }),
          Value.pointer (some { block := w.heap.size + 1 + 1, off := 0 }),
          Value.pointer (some { block := w1.heap.size, off := 0 }),
          Value.pointer (some { block := w1.heap.size + 1, off := 0 }), .bool (bitB t x.1), Value.slice ao1 len1 cap1,
          Value.agg #[Value.bool false, Value.slice ao1 len1 cap1],
          Value.agg #[Value.bool false, Value.slice ao1 len1 cap1],
          Value.agg #[Value.bool false, Value.slice ao1 len1 cap1],
          Value.agg #[Value.bool false, Value.slice ao1 len1 cap1, Value.bool false, Value.slice ao1 len1 cap1],
          Value.int IntKind.u64 t,
          Value.func (Fn.func 89) #[] #[Value.pointer (some { block := w1.heap.size + 1 + 1, off := 0 })], .bool (bitB t x.1), undef,
          undef, undef, undef, undef, undef, undef, undef, undef, undef, undef, undef, undef, undef, undef, undef,
          undef, undef, undef, undef, undef], defers := [] }) ?assign ?body ?done ?stop
  case assign =>
    intro l x W K hK
    simp only [encB]
    gi_wp2
    exact hK
  case body =>
    rintro l pre x Z hI hpre
    obtain ⟨i, hi⟩ := x
    dsimp only
    obtain ⟨c, a5, l5, c5, c6, a6, l6, c6', p, q⟩ := hI.pow
    have HI2 : Hid _ := hI
    have HQ : Hid _ := q
    have HPRE : Hid _ := hpre
    clear hpre y2c y2 HI
    have k0 := q.box.cell 0 rfl
    have k1 := q.box.cell 1 rfl
    have k2 := q.box.cell 2 rfl
    have k3 := q.box.cell 3 rfl
    clear hI q
    obtain ⟨fp, fq⟩ := pBig_fits HQ.out.ok
    have fp1 : fits (u ^ p) 10000 := fp.mono (Nat.le_refl _) (by omega)
    have fq1 : fits (d ^ p) 10000 := fq.mono (Nat.le_refl _) (by omega)
    have fu1 : fits u 10000 := fu.mono (Nat.le_refl _) (by omega)
    have fd1 : fits d 10000 := fd.mono (Nat.le_refl _) (by omega)
    have g0 := HQ.out.box.frozen 0
    have g1 := HQ.out.box.frozen 1
    have g2 := HQ.out.box.frozen 2
    have g3 := HQ.out.box.frozen 3
    have hZ : w.heap.size + 3 ≤ w1.heap.size := HS.out
    have hPB : w1.heap.size + 1 < W.heap.size := by have := HSZ.out; omega
    have hP0 : w.heap.size ≤ w1.heap.size + 1 := by omega
    have hr0 : w.heap.size ≠ w1.heap.size + 1 := by omega
    have hr1 : w.heap.size + 1 ≠ w1.heap.size + 1 := by omega
    have hr2 : w.heap.size + 1 + 1 ≠ w1.heap.size + 1 := by omega
    have hZ0 : w.heap.size ≤ Z.heap.size := HI2.out.bel.size
    have hZ2 : w1.heap.size + 1 + 1 < Z.heap.size := by have := HI2.out.sz; have := HSZ.out; omega
    have ff : fits (u ^ p * u ^ p) 10000 := (fits_mul0 fp fp).mono (Nat.le_refl _) (by omega)
    have fg : fits (d ^ p * d ^ p) 10000 := (fits_mul0 fq fq).mono (Nat.le_refl _) (by omega)
    have ff2 : fits (u ^ p * u ^ p * u) 10000 := (fits_mul0 (fits_mul0 fp fp) fu).mono (Nat.le_refl _) (by omega)
    have fg2 : fits (d ^ p * d ^ p * d) 10000 := (fits_mul0 (fits_mul0 fq fq) fd).mono (Nat.le_refl _) (by omega)
    have HP : Hid (w.heap.size + 3 ≤ w1.heap.size) := hZ
    by_cases hbt : bitB t i
    · gi_wp2_with fail
      refine ⟨trivial, (CallsIn.inRound l (callsIn_wide.2 (combineProd_any c a5 l5 c5 c6 a6 l6 c6' c a5 l5 c5 c6 a6 l6 c6' (u ^ p) (d ^ p) (u ^ p) (d ^ p) _ HQ.out.n HQ.out.m HQ.out.n HQ.out.m fp1 fq1 fp1 fq1))).mono ?_⟩
      rintro e w5 ⟨⟨cc, b5, m5, e5, cc6, b6, m6, e6, rfl, hc, hn, hc6, hm⟩, hb5⟩
      have XP : Hid (boxAt w5 _ _ _) := HQ.out.box.on hb5
      have X0 : Hid (boxAt w5 _ _ _) := HI2.out.base.on hb5
      have HB5 : Hid (Z.grownBy w5 (some (w1.heap.size + 1))) := grown_b hb5
      have NB : Hid (isN w5 (.slice ao len cap) u) := isN_below HI2.out.n hb5
      have MB : Hid (isN w5 (.slice ao2 len2 cap2) d) := isN_below HI2.out.m hb5
      clear hb5 k0 k1 k2 k3 g0 g1 g2 g3
      have k0 := XP.out.cell 0 rfl
      have k1 := XP.out.cell 1 rfl
      have k2 := XP.out.cell 2 rfl
      have k3 := XP.out.cell 3 rfl
      have g0 := XP.out.frozen 0
      have g1 := XP.out.frozen 1
      have g2 := XP.out.frozen 2
      have g3 := XP.out.frozen 3
      have hlt := XP.out.lt
      have r0 := X0.out.cell 0 rfl
      have r1 := X0.out.cell 1 rfl
      have r2 := X0.out.cell 2 rfl
      have r3 := X0.out.cell 3 rfl
      gi_wp2_with fail
      have hap : Hid _ := isN_apart hn.out XP.out (by decide)
      have hap2 : Hid _ := isN_apart hm.out XP.out (by decide)
      obtain ⟨W6, hW6⟩ : ∃ W6, set4 w5 (w1.heap.size + 1) (.bool cc) (.slice b5 m5 e5) (.bool cc6) (.slice b6 m6 e6) = W6 := ⟨_, rfl⟩
      have hg6 : w5.grownBy W6 (some (w1.heap.size + 1)) := by rw [← hW6]; exact set4_grown _ _ _ _ _ _
      have X6 : Hid (boxAt W6 (w1.heap.size + 1) #[.bool cc, .slice b5 m5 e5, .bool cc6, .slice b6 m6 e6] 60) := by rw [← hW6]; exact set4_box XP.out (.bool cc) (.slice b5 m5 e5) (.bool cc6) (.slice b6 m6 e6)
      have HG6 : Hid (Z.grownBy W6 (some (w1.heap.size + 1))) := grown_t HB5.out hg6
      have HN6 : Hid (isN W6 (.slice b5 m5 e5) (u ^ p * u ^ p)) := grown_n hn.out hg6 hap.out
      have HM6 : Hid (isN W6 (.slice b6 m6 e6) (d ^ p * d ^ p)) := grown_n hm.out hg6 hap2.out
      rw [set4] at hW6
      rw [hW6]
      refine ⟨trivial, (CallsIn.inRound l (callsIn_wide.2 (combineProd_any cc b5 m5 e5 cc6 b6 m6 e6 b ao len cap b2 ao2 len2 cap2 (u ^ p * u ^ p) (d ^ p * d ^ p) u d _ HN6.out HM6.out (grown_n NB.out hg6 (isN_apart NB.out XP.out (by decide))) (grown_n MB.out hg6 (isN_apart MB.out XP.out (by decide))) ff fg fu1 fd1))).mono ?_⟩
      clear k0 k1 k2 k3 g0 g1 g2 g3 hlt r0 r1 r2 r3 hW6 hg6
      rintro e w7 ⟨⟨c7, b7, m7, e7, c8, b8, m8, e8, rfl, hc7, hn7, hc8, hm8⟩, hb7⟩
      have X7 : Hid (boxAt w7 _ _ _) := X6.out.on hb7
      have HG7 : Hid (Z.grownBy w7 (some (w1.heap.size + 1))) := grown_t HG6.out (grown_b hb7)
      obtain ⟨q, hq⟩ : ∃ q, q = 2 * p + 1 := ⟨_, rfl⟩
      have HNq : Hid (isN w7 (.slice b7 m7 e7) (u ^ q)) := by rw [hq, ← pw_odd]; exact hn7.out
      have HMq : Hid (isN w7 (.slice b8 m8 e8) (d ^ q)) := by rw [hq, ← pw_odd]; exact hm8.out
      have FN : fits (u ^ q) 10000 := by rw [hq, ← pw_odd]; exact ff2
      have FM : fits (d ^ q) 10000 := by rw [hq, ← pw_odd]; exact fg2
      have HS7 : Hid (c7 = (b && q % 2 == 1)) := by show _ = _; rw [hc7.out, hc.out, hq]; exact sg_odd b c p
      have HS8 : Hid (c8 = (b2 && q % 2 == 1)) := by show _ = _; rw [hc8.out, hc6.out, hq]; exact sg_odd b2 c6 p
      have HQN : Hid (pre ++ [(⟨i, hi⟩ : Fin L)] = dnk L (pre ++ [(⟨i, hi⟩ : Fin L)]).length → q = t / 2 ^ (L - (pre ++ [(⟨i, hi⟩ : Fin L)]).length)) := by rw [hq]; exact pw_next t p HPRE.out HQ.out.at_ 1 (by rw [if_pos hbt])
      clear hb7 hn7 hm8 hc7 hc8 hn hm hc hc6 hq ff fg ff2 fg2
      have k0 := X7.out.cell 0 rfl
      have k1 := X7.out.cell 1 rfl
      have k2 := X7.out.cell 2 rfl
      have k3 := X7.out.cell 3 rfl
      have g0 := X7.out.frozen 0
      have g1 := X7.out.frozen 1
      have g2 := X7.out.frozen 2
      have g3 := X7.out.frozen 3
      have hlt := X7.out.lt
      have hap : Hid _ := isN_apart HNq.out X7.out (by decide)
      have hap2 : Hid _ := isN_apart HMq.out X7.out (by decide)
      obtain ⟨W8, hW8⟩ : ∃ W8, set4 w7 (w1.heap.size + 1) (.bool c7) (.slice b7 m7 e7) (.bool c8) (.slice b8 m8 e8) = W8 := ⟨_, rfl⟩
      have hg8 : w7.grownBy W8 (some (w1.heap.size + 1)) := by rw [← hW8]; exact set4_grown _ _ _ _ _ _
      have XC : Hid (boxAt W8 (w1.heap.size + 1) #[.bool c7, .slice b7 m7 e7, .bool c8, .slice b8 m8 e8] 60) := by rw [← hW8]; exact set4_box X7.out (.bool c7) (.slice b7 m7 e7) (.bool c8) (.slice b8 m8 e8)
      have HGC : Hid (Z.grownBy W8 (some (w1.heap.size + 1))) := grown_t HG7.out hg8
      have HNC : Hid (isN W8 (.slice b7 m7 e7) (u ^ q)) := grown_n HNq.out hg8 hap.out
      have HMC : Hid (isN W8 (.slice b8 m8 e8) (d ^ q)) := grown_n HMq.out hg8 hap2.out
      rw [set4] at hW8
      have n0 := XC.out.cell 0 rfl
      have n1 := XC.out.cell 1 rfl
      have n2 := XC.out.cell 2 rfl
      have n3 := XC.out.cell 3 rfl
      have f0 := XC.out.frozen 0
      have f1 := XC.out.frozen 1
      have f2 := XC.out.frozen 2
      have f3 := XC.out.frozen 3
      have hlt2 := XC.out.lt
      gi_wp2_with fail
      clear n0 n1 n2 n3 f0 f1 f2 f3 hlt2 hW8 hg8 hap hap2
      cases hb7 : big (u ^ q)
      · refine ⟨trivial, (CallsIn.inRound l (callsIn_wide.2 (isTooBig_any _ (u ^ q) false _ HNC.out FN hb7))).mono ?_⟩
        rintro e wy ⟨rfl, hby⟩
        have XY : Hid (boxAt wy _ _ _) := XC.out.on hby
        have HNY : Hid (isN wy _ (u ^ q)) := isN_below HNC.out hby
        have HMY : Hid (isN wy _ (d ^ q)) := isN_below HMC.out hby
        have HGY : Hid (Z.grownBy wy (some (w1.heap.size + 1))) := grown_t HGC.out (grown_b hby)
        clear k0 k1 k2 k3 g0 g1 g2 g3 hlt
        have k0 := XY.out.cell 0 rfl
        have k1 := XY.out.cell 1 rfl
        have k2 := XY.out.cell 2 rfl
        have k3 := XY.out.cell 3 rfl
        have g0 := XY.out.frozen 0
        have g1 := XY.out.frozen 1
        have g2 := XY.out.frozen 2
        have g3 := XY.out.frozen 3
        have hlt := XY.out.lt
        gi_wp2_with fail
        cases hb8 : big (d ^ q)
        · refine ⟨trivial, (CallsIn.inRound l (callsIn_wide.2 (isTooBig_any _ (d ^ q) false _ HMY.out FM hb8))).mono ?_⟩
          rintro e wz ⟨rfl, hbz⟩
          have HGz : Hid (Z.grownBy wz (some (w1.heap.size + 1))) := grown_t HGY.out (grown_b hbz)
          have XZ : Hid (boxAt wz _ _ _) := XY.out.on hbz
          have HNZ : Hid (isN wz _ (u ^ q)) := isN_below HNY.out hbz
          have HMZ : Hid (isN wz _ (d ^ q)) := isN_below HMY.out hbz
          gi_wp2
          refine ⟨grown_keeps HGz.out hPB, ⟨grown_bel (Below.refl _ Z) HGz.out hP0 hZ0, HGz.out.block _ hZ2 (fun e => by have := Option.some.inj e; omega)⟩, ?_⟩
          exact ⟨grown_box HI2.out.base HGz.out hr0, grown_box HI2.out.res HGz.out hr1, grown_box HI2.out.err HGz.out hr2, grown_n HI2.out.n HGz.out (isN_apart HI2.out.n HQ.out.box (by decide)), grown_n HI2.out.m HGz.out (isN_apart HI2.out.m HQ.out.box (by decide)),
            ⟨_, _, _, _, _, _, _, _, q, ⟨XZ.out, HNZ.out, HMZ.out, HS7.out, HS8.out, pBig_of hb7 hb8, HQN.out⟩⟩, grown_bel HI2.out.bel HGz.out hP0 (Nat.le_refl _), Nat.le_trans HI2.out.sz HGz.out.size⟩
        · refine ⟨trivial, (CallsIn.inRound l (callsIn_wide.2 (isTooBig_any _ (d ^ q) true _ HMY.out FM hb8))).mono ?_⟩
          rintro e wz ⟨rfl, hbz⟩
          have HGz : Hid (Z.grownBy wz (some (w1.heap.size + 1))) := grown_t HGY.out (grown_b hbz)
          have HRZ : Hid (True) := trivial
          clear k0 k1 k2 k3 g0 g1 g2 g3 hlt
          have XR : Hid (boxAt wz _ _ _) := grown_box HI2.out.res HGz.out hr1
          have XE : Hid (boxAt wz _ _ _) := grown_box HI2.out.err HGz.out hr2
          have k0 := XR.out.cell 0 rfl
          have k1 := XR.out.cell 1 rfl
          have k2 := XR.out.cell 2 rfl
          have k3 := XR.out.cell 3 rfl
          have g0 := XR.out.frozen 0
          have g1 := XR.out.frozen 1
          have g2 := XR.out.frozen 2
          have g3 := XR.out.frozen 3
          have y0 := XE.out.cell 0 rfl
          have y1 := XE.out.frozen 0
          have hlt := XE.out.lt
          have hrz := HRZ.out
          gi_wp2
          refine ⟨((((grown_keeps HGz.out hPB).trans ((KeepsOthers.setCell _ _ _).from _)).trans ((KeepsOthers.setCell _ _ _).from _)).trans (((KeepsOthers.setCell _ _ _).from _).trans ((KeepsOthers.setCell _ _ _).from _))).trans ((KeepsOthers.setCell _ _ _).from _), ?_⟩
          exact ⟨rfl, (set4_box XR.out _ _ _ _).set (by omega), box_set ((((XE.out.set (by omega)).set (by omega)).set (by omega)).set (by omega)) 0 _, fun hp => pBig_r hb8 (HQN.out hp),
            ((((grown_bel HI2.out.bel HGz.out hP0 (Nat.le_refl _)).setCell (by show _ ≤ w.heap.size + 1; omega) _).setCell (by show _ ≤ w.heap.size + 1; omega) _).setCell (by show _ ≤ w.heap.size + 1; omega) _).setCell (by show _ ≤ w.heap.size + 1; omega) _ |>.setCell (by show _ ≤ w.heap.size + 1 + 1; omega) _, by
              have := HI2.out.sz; have := HGz.out.size; simp only [World.size_setCell]; omega⟩
      · refine ⟨trivial, (CallsIn.inRound l (callsIn_wide.2 (isTooBig_any _ (u ^ q) true _ HNC.out FN hb7))).mono ?_⟩
        rintro e wz ⟨rfl, hbz⟩
        have HGz : Hid (Z.grownBy wz (some (w1.heap.size + 1))) := grown_t HGC.out (grown_b hbz)
        have HRZ : Hid (True) := trivial
        clear k0 k1 k2 k3 g0 g1 g2 g3 hlt
        have XR : Hid (boxAt wz _ _ _) := grown_box HI2.out.res HGz.out hr1
        have XE : Hid (boxAt wz _ _ _) := grown_box HI2.out.err HGz.out hr2
        have k0 := XR.out.cell 0 rfl
        have k1 := XR.out.cell 1 rfl
        have k2 := XR.out.cell 2 rfl
        have k3 := XR.out.cell 3 rfl
        have g0 := XR.out.frozen 0
        have g1 := XR.out.frozen 1
        have g2 := XR.out.frozen 2
        have g3 := XR.out.frozen 3
        have y0 := XE.out.cell 0 rfl
        have y1 := XE.out.frozen 0
        have hlt := XE.out.lt
        have hrz := HRZ.out
        gi_wp2
        refine ⟨trivial, ?_⟩
        gi_wp2
        refine ⟨((((grown_keeps HGz.out hPB).trans ((KeepsOthers.setCell _ _ _).from _)).trans ((KeepsOthers.setCell _ _ _).from _)).trans (((KeepsOthers.setCell _ _ _).from _).trans ((KeepsOthers.setCell _ _ _).from _))).trans ((KeepsOthers.setCell _ _ _).from _), ?_⟩
        exact ⟨rfl, (set4_box XR.out _ _ _ _).set (by omega), box_set ((((XE.out.set (by omega)).set (by omega)).set (by omega)).set (by omega)) 0 _, fun hp => pBig_l hb7 (HQN.out hp),
          ((((grown_bel HI2.out.bel HGz.out hP0 (Nat.le_refl _)).setCell (by show _ ≤ w.heap.size + 1; omega) _).setCell (by show _ ≤ w.heap.size + 1; omega) _).setCell (by show _ ≤ w.heap.size + 1; omega) _).setCell (by show _ ≤ w.heap.size + 1; omega) _ |>.setCell (by show _ ≤ w.heap.size + 1 + 1; omega) _, by
            have := HI2.out.sz; have := HGz.out.size; simp only [World.size_setCell]; omega⟩
    · gi_wp2_with fail
      refine ⟨trivial, (CallsIn.inRound l (callsIn_wide.2 (combineProd_any c a5 l5 c5 c6 a6 l6 c6' c a5 l5 c5 c6 a6 l6 c6' (u ^ p) (d ^ p) (u ^ p) (d ^ p) _ HQ.out.n HQ.out.m HQ.out.n HQ.out.m fp1 fq1 fp1 fq1))).mono ?_⟩
      rintro e w5 ⟨⟨cc, b5, m5, e5, cc6, b6, m6, e6, rfl, hc, hn, hc6, hm⟩, hb5⟩
      have XP : Hid (boxAt w5 _ _ _) := HQ.out.box.on hb5
      have X0 : Hid (boxAt w5 _ _ _) := HI2.out.base.on hb5
      have HB5 : Hid (Z.grownBy w5 (some (w1.heap.size + 1))) := grown_b hb5
      have NB : Hid (isN w5 (.slice ao len cap) u) := isN_below HI2.out.n hb5
      have MB : Hid (isN w5 (.slice ao2 len2 cap2) d) := isN_below HI2.out.m hb5
      clear hb5 k0 k1 k2 k3 g0 g1 g2 g3
      have k0 := XP.out.cell 0 rfl
      have k1 := XP.out.cell 1 rfl
      have k2 := XP.out.cell 2 rfl
      have k3 := XP.out.cell 3 rfl
      have g0 := XP.out.frozen 0
      have g1 := XP.out.frozen 1
      have g2 := XP.out.frozen 2
      have g3 := XP.out.frozen 3
      have hlt := XP.out.lt
      have hap : Hid _ := isN_apart hn.out XP.out (by decide)
      have hap2 : Hid _ := isN_apart hm.out XP.out (by decide)
      obtain ⟨W6, hW6⟩ : ∃ W6, set4 w5 (w1.heap.size + 1) (.bool cc) (.slice b5 m5 e5) (.bool cc6) (.slice b6 m6 e6) = W6 := ⟨_, rfl⟩
      have hg6 : w5.grownBy W6 (some (w1.heap.size + 1)) := by rw [← hW6]; exact set4_grown _ _ _ _ _ _
      have X6 : Hid (boxAt W6 (w1.heap.size + 1) #[.bool cc, .slice b5 m5 e5, .bool cc6, .slice b6 m6 e6] 60) := by rw [← hW6]; exact set4_box XP.out (.bool cc) (.slice b5 m5 e5) (.bool cc6) (.slice b6 m6 e6)
      have HG6 : Hid (Z.grownBy W6 (some (w1.heap.size + 1))) := grown_t HB5.out hg6
      have HNC0 : Hid (isN W6 (.slice b5 m5 e5) (u ^ p * u ^ p)) := grown_n hn.out hg6 hap.out
      have HMC0 : Hid (isN W6 (.slice b6 m6 e6) (d ^ p * d ^ p)) := grown_n hm.out hg6 hap2.out
      obtain ⟨q, hq⟩ : ∃ q, q = 2 * p := ⟨_, rfl⟩
      have XC : Hid (boxAt W6 _ _ _) := X6
      have HGC : Hid (Z.grownBy W6 (some (w1.heap.size + 1))) := HG6
      have HNC : Hid (isN W6 (.slice b5 m5 e5) (u ^ q)) := by rw [hq, ← pw_even]; exact HNC0.out
      have HMC : Hid (isN W6 (.slice b6 m6 e6) (d ^ q)) := by rw [hq, ← pw_even]; exact HMC0.out
      have FN : fits (u ^ q) 10000 := by rw [hq, ← pw_even]; exact ff
      have FM : fits (d ^ q) 10000 := by rw [hq, ← pw_even]; exact fg
      have HS7 : Hid (cc = (b && q % 2 == 1)) := by show _ = _; rw [hc.out, hq]; exact sg_even b c p
      have HS8 : Hid (cc6 = (b2 && q % 2 == 1)) := by show _ = _; rw [hc6.out, hq]; exact sg_even b2 c6 p
      have HQN : Hid (pre ++ [(⟨i, hi⟩ : Fin L)] = dnk L (pre ++ [(⟨i, hi⟩ : Fin L)]).length → q = t / 2 ^ (L - (pre ++ [(⟨i, hi⟩ : Fin L)]).length)) := by rw [hq]; exact pw_next t p HPRE.out HQ.out.at_ 0 (by rw [if_neg hbt])
      clear hn hm hc hc6 hq ff fg ff2 fg2
      rw [set4] at hW6
      have n0 := XC.out.cell 0 rfl
      have n1 := XC.out.cell 1 rfl
      have n2 := XC.out.cell 2 rfl
      have n3 := XC.out.cell 3 rfl
      have f0 := XC.out.frozen 0
      have f1 := XC.out.frozen 1
      have f2 := XC.out.frozen 2
      have f3 := XC.out.frozen 3
      have hlt2 := XC.out.lt
      gi_wp2_with fail
      clear n0 n1 n2 n3 f0 f1 f2 f3 hlt2 hW6 hg6 hap hap2
      cases hb7 : big (u ^ q)
      · refine ⟨trivial, (CallsIn.inRound l (callsIn_wide.2 (isTooBig_any _ (u ^ q) false _ HNC.out FN hb7))).mono ?_⟩
        rintro e wy ⟨rfl, hby⟩
        have XY : Hid (boxAt wy _ _ _) := XC.out.on hby
        have HNY : Hid (isN wy _ (u ^ q)) := isN_below HNC.out hby
        have HMY : Hid (isN wy _ (d ^ q)) := isN_below HMC.out hby
        have HGY : Hid (Z.grownBy wy (some (w1.heap.size + 1))) := grown_t HGC.out (grown_b hby)
        clear k0 k1 k2 k3 g0 g1 g2 g3 hlt
        have k0 := XY.out.cell 0 rfl
        have k1 := XY.out.cell 1 rfl
        have k2 := XY.out.cell 2 rfl
        have k3 := XY.out.cell 3 rfl
        have g0 := XY.out.frozen 0
        have g1 := XY.out.frozen 1
        have g2 := XY.out.frozen 2
        have g3 := XY.out.frozen 3
        have hlt := XY.out.lt
        gi_wp2_with fail
        cases hb8 : big (d ^ q)
        · refine ⟨trivial, (CallsIn.inRound l (callsIn_wide.2 (isTooBig_any _ (d ^ q) false _ HMY.out FM hb8))).mono ?_⟩
          rintro e wz ⟨rfl, hbz⟩
          have HGz : Hid (Z.grownBy wz (some (w1.heap.size + 1))) := grown_t HGY.out (grown_b hbz)
          have XZ : Hid (boxAt wz _ _ _) := XY.out.on hbz
          have HNZ : Hid (isN wz _ (u ^ q)) := isN_below HNY.out hbz
          have HMZ : Hid (isN wz _ (d ^ q)) := isN_below HMY.out hbz
          gi_wp2
          refine ⟨grown_keeps HGz.out hPB, ⟨grown_bel (Below.refl _ Z) HGz.out hP0 hZ0, HGz.out.block _ hZ2 (fun e => by have := Option.some.inj e; omega)⟩, ?_⟩
          exact ⟨grown_box HI2.out.base HGz.out hr0, grown_box HI2.out.res HGz.out hr1, grown_box HI2.out.err HGz.out hr2, grown_n HI2.out.n HGz.out (isN_apart HI2.out.n HQ.out.box (by decide)), grown_n HI2.out.m HGz.out (isN_apart HI2.out.m HQ.out.box (by decide)),
            ⟨_, _, _, _, _, _, _, _, q, ⟨XZ.out, HNZ.out, HMZ.out, HS7.out, HS8.out, pBig_of hb7 hb8, HQN.out⟩⟩, grown_bel HI2.out.bel HGz.out hP0 (Nat.le_refl _), Nat.le_trans HI2.out.sz HGz.out.size⟩
        · refine ⟨trivial, (CallsIn.inRound l (callsIn_wide.2 (isTooBig_any _ (d ^ q) true _ HMY.out FM hb8))).mono ?_⟩
          rintro e wz ⟨rfl, hbz⟩
          have HGz : Hid (Z.grownBy wz (some (w1.heap.size + 1))) := grown_t HGY.out (grown_b hbz)
          have HRZ : Hid (True) := trivial
          clear k0 k1 k2 k3 g0 g1 g2 g3 hlt
          have XR : Hid (boxAt wz _ _ _) := grown_box HI2.out.res HGz.out hr1
          have XE : Hid (boxAt wz _ _ _) := grown_box HI2.out.err HGz.out hr2
          have k0 := XR.out.cell 0 rfl
          have k1 := XR.out.cell 1 rfl
          have k2 := XR.out.cell 2 rfl
          have k3 := XR.out.cell 3 rfl
          have g0 := XR.out.frozen 0
          have g1 := XR.out.frozen 1
          have g2 := XR.out.frozen 2
          have g3 := XR.out.frozen 3
          have y0 := XE.out.cell 0 rfl
          have y1 := XE.out.frozen 0
          have hlt := XE.out.lt
          have hrz := HRZ.out
          gi_wp2
          refine ⟨((((grown_keeps HGz.out hPB).trans ((KeepsOthers.setCell _ _ _).from _)).trans ((KeepsOthers.setCell _ _ _).from _)).trans (((KeepsOthers.setCell _ _ _).from _).trans ((KeepsOthers.setCell _ _ _).from _))).trans ((KeepsOthers.setCell _ _ _).from _), ?_⟩
          exact ⟨rfl, (set4_box XR.out _ _ _ _).set (by omega), box_set ((((XE.out.set (by omega)).set (by omega)).set (by omega)).set (by omega)) 0 _, fun hp => pBig_r hb8 (HQN.out hp),
            ((((grown_bel HI2.out.bel HGz.out hP0 (Nat.le_refl _)).setCell (by show _ ≤ w.heap.size + 1; omega) _).setCell (by show _ ≤ w.heap.size + 1; omega) _).setCell (by show _ ≤ w.heap.size + 1; omega) _).setCell (by show _ ≤ w.heap.size + 1; omega) _ |>.setCell (by show _ ≤ w.heap.size + 1 + 1; omega) _, by
              have := HI2.out.sz; have := HGz.out.size; simp only [World.size_setCell]; omega⟩
      · refine ⟨trivial, (CallsIn.inRound l (callsIn_wide.2 (isTooBig_any _ (u ^ q) true _ HNC.out FN hb7))).mono ?_⟩
        rintro e wz ⟨rfl, hbz⟩
        have HGz : Hid (Z.grownBy wz (some (w1.heap.size + 1))) := grown_t HGC.out (grown_b hbz)
        have HRZ : Hid (True) := trivial
        clear k0 k1 k2 k3 g0 g1 g2 g3 hlt
        have XR : Hid (boxAt wz _ _ _) := grown_box HI2.out.res HGz.out hr1
        have XE : Hid (boxAt wz _ _ _) := grown_box HI2.out.err HGz.out hr2
        have k0 := XR.out.cell 0 rfl
        have k1 := XR.out.cell 1 rfl
        have k2 := XR.out.cell 2 rfl
        have k3 := XR.out.cell 3 rfl
        have g0 := XR.out.frozen 0
        have g1 := XR.out.frozen 1
        have g2 := XR.out.frozen 2
        have g3 := XR.out.frozen 3
        have y0 := XE.out.cell 0 rfl
        have y1 := XE.out.frozen 0
        have hlt := XE.out.lt
        have hrz := HRZ.out
        gi_wp2
        refine ⟨trivial, ?_⟩
        gi_wp2
        refine ⟨((((grown_keeps HGz.out hPB).trans ((KeepsOthers.setCell _ _ _).from _)).trans ((KeepsOthers.setCell _ _ _).from _)).trans (((KeepsOthers.setCell _ _ _).from _).trans ((KeepsOthers.setCell _ _ _).from _))).trans ((KeepsOthers.setCell _ _ _).from _), ?_⟩
        exact ⟨rfl, (set4_box XR.out _ _ _ _).set (by omega), box_set ((((XE.out.set (by omega)).set (by omega)).set (by omega)).set (by omega)) 0 _, fun hp => pBig_l hb7 (HQN.out hp),
          ((((grown_bel HI2.out.bel HGz.out hP0 (Nat.le_refl _)).setCell (by show _ ≤ w.heap.size + 1; omega) _).setCell (by show _ ≤ w.heap.size + 1; omega) _).setCell (by show _ ≤ w.heap.size + 1; omega) _).setCell (by show _ ≤ w.heap.size + 1; omega) _ |>.setCell (by show _ ≤ w.heap.size + 1 + 1; omega) _, by
            have := HI2.out.sz; have := HGz.out.size; simp only [World.size_setCell]; omega⟩
  case done =>
    rintro D ps Z hD rfl hI hK
    obtain ⟨c, a5, l5, c5, c6, a6, l6, c6', p, q⟩ := hI.pow
    have hp : p = t := by
      have h := q.at_ (by rw [dnk_length _ _ (Nat.le_refl _)])
      rw [dnk_length _ _ (Nat.le_refl _), Nat.sub_self, Nat.pow_zero, Nat.div_one] at h
      exact h
    have k0 := q.box.cell 0 rfl
    have k1 := q.box.cell 1 rfl
    have k2 := q.box.cell 2 rfl
    have k3 := q.box.cell 3 rfl
    have y0 := hI.res.cell 0 rfl
    have y1 := hI.res.cell 1 rfl
    have y2 := hI.res.cell 2 rfl
    have y3 := hI.res.cell 3 rfl
    have f0 := hI.res.frozen 0
    have f1 := hI.res.frozen 1
    have f2 := hI.res.frozen 2
    have f3 := hI.res.frozen 3
    have z0 := hI.err.cell 0 rfl
    have z1 := hI.err.frozen 0
    have hlt := hI.err.lt
    have HI2 : Hid _ := hI
    have HQ : Hid _ := q
    have HPT : Hid (p = t) := hp
    clear hI q hp HI
    gi_wp2
    have XR : boxAt (set4 Z (w.heap.size + 1) (.bool c) (.slice a5 l5 c5) (.bool c6) (.slice a6 l6 c6')) _ _ _ := set4_box HI2.out.res (.bool c) (.slice a5 l5 c5) (.bool c6) (.slice a6 l6 c6')
    have hg := set4_grown Z (w.heap.size + 1) (.bool c) (.slice a5 l5 c5) (.bool c6) (.slice a6 l6 c6')
    obtain ⟨F0, hF0⟩ : ∃ F0, set4 Z (w.heap.size + 1) (.bool c) (.slice a5 l5 c5) (.bool c6) (.slice a6 l6 c6') = F0 := ⟨_, rfl⟩
    rw [hF0] at XR hg
    rw [set4] at hF0
    rw [hF0]
    have XE := grown_box HI2.out.err hg (by omega)
    have hN0 : isN F0 (.slice a5 l5 c5) (u ^ p) := grown_n HQ.out.n hg (isN_apart HQ.out.n HI2.out.res (by decide))
    have hM0 : isN F0 (.slice a6 l6 c6') (d ^ p) := grown_n HQ.out.m hg (isN_apart HQ.out.m HI2.out.res (by decide))
    have hB0 : Below w.heap.size w F0 := grown_bel HI2.out.bel hg (by omega) (Nat.le_refl _)
    have hK0 : F0.heap[D]? = some (.deferred (some [])) := (grown_keeps (B := w.heap.size + 2) hg (by omega)).same D _ (by have := HSZ.out; have := HS.out; omega) hK rfl
    have XR1 := XR.set (b' := w.heap.size + 1 + 1) (o' := 0) (u := .nilIface) (by omega)
    have XE1 := box_set XE 0 .nilIface
    have hN1 : isN (F0.setCell ⟨w.heap.size + 1 + 1, 0, none⟩ .nilIface) _ _ := isN_set hN0 (isN_apart hN0 XE (by decide))
    have hM1 : isN (F0.setCell ⟨w.heap.size + 1 + 1, 0, none⟩ .nilIface) _ _ := isN_set hM0 (isN_apart hM0 XE (by decide))
    have hB1 : Below w.heap.size w (F0.setCell ⟨w.heap.size + 1 + 1, 0, none⟩ .nilIface) := hB0.setCell (by show _ ≤ w.heap.size + 1 + 1; omega) _
    have hK1 : (F0.setCell ⟨w.heap.size + 1 + 1, 0, none⟩ .nilIface).heap[D]? = some (.deferred (some [])) := (KeepsOthers.setCell _ _ _).same D _ hK0 rfl
    obtain ⟨F, hF⟩ : ∃ F, F0.setCell ⟨w.heap.size + 1 + 1, 0, none⟩ .nilIface = F := ⟨_, rfl⟩
    rw [hF] at XR1 XE1 hN1 hM1 hB1 hK1
    rw [hF]
    clear k0 k1 k2 k3 y0 y1 y2 y3 f0 f1 f2 f3 z0 z1 hlt XR XE hN0 hM0 hB0 hK0 hg
    refine ⟨by simp, .inl ⟨_, _, rfl, run_takeDeferred hK1, ?_⟩⟩
    have hgD := grownBy_putObj' F D (.deferred none)
    have hrD : ∀ r, some D = some r → ∃ o : Obj, F.heap[r]? = some o ∧ o.isCells = false := fun r e => by cases e; exact ⟨_, hK1, rfl⟩
    have XR2 := box_nc XR1 hgD hrD
    have XE2 := box_nc XE1 hgD hrD
    have k0 := XR2.cell 0 rfl
    have k1 := XR2.cell 1 rfl
    have k2 := XR2.cell 2 rfl
    have k3 := XR2.cell 3 rfl
    have z0 := XE2.cell 0 rfl
    have hs := HQ.out.s
    have hs2 := HQ.out.s2
    rw [HPT.out] at hs hs2 hN1 hM1
    have HRET : Hid (PwRet b b2 u d t (.returned (.tuple #[.agg #[.bool c, .slice a5 l5 c5, .bool c6, .slice a6 l6 c6'], .nilIface])) (F.putObj D (.deferred none))) := by
      rw [hs, hs2]
      exact .inr ⟨by rw [← HPT.out]; exact HQ.out.ok, _, _, _, _, _, _, rfl, isN_nc hN1 hgD hrD, isN_nc hM1 hgD hrD⟩
    have HB1 : Hid _ := hB1
    clear hs hs2 hN1 hM1 hB1
    refine ⟨.tuple #[.agg #[.bool c, .slice a5 l5 c5, .bool c6, .slice a6 l6 c6'], .nilIface], ?_, HRET.out, HB1.out.trans (belowK_b (w := w) (Nat.le_refl _) _ D _ _ (by have := HB0.out.size; omega) hK1 rfl rfl)⟩
    simp [results, Tryd.results38, go_sem, k0, k1, k2, k3, z0]
  case stop =>
    rintro D c pre Z hD ⟨k, hk, rfl⟩ hO hK
    obtain rfl := hO.ret
    gi_wp2
    refine ⟨by simp, .inl ⟨_, _, rfl, run_takeDeferred hK, ?_⟩⟩
    have hgD := grownBy_putObj' Z D (.deferred none)
    have hrD : ∀ r, some D = some r → ∃ o : Obj, Z.heap[r]? = some o ∧ o.isCells = false := fun r e => by cases e; exact ⟨_, hK, rfl⟩
    have XR2 := box_nc hO.res hgD hrD
    have XE2 := box_nc hO.err hgD hrD
    have k0 := XR2.cell 0 rfl
    have k1 := XR2.cell 1 rfl
    have k2 := XR2.cell 2 rfl
    have k3 := XR2.cell 3 rfl
    have z0 := XE2.cell 0 rfl
    have HRET : Hid (PwRet b b2 u d t (.returned (.tuple #[.agg #[.bool false, .slice none 0 0, .bool false, .slice none 0 0], .iface 75 (.agg #[.int .i64 3])])) (Z.putObj D (.deferred none))) :=
      .inl ⟨hO.at_ (by rw [dnk_length _ _ hk]), rfl⟩
    refine ⟨.tuple #[.agg #[.bool false, .slice none 0 0, .bool false, .slice none 0 0], .iface 75 (.agg #[.int .i64 3])], ?_, HRET.out, hO.bel.trans (belowK_b (w := w) (Nat.le_refl _) _ D _ _ (by have := HB0.out.size; omega) hK rfl rfl)⟩
    simp [results, Tryd.results38, go_sem, k0, k1, k2, k3, z0]

end Go.Proofs.YtaggfbffdbompaaDoor
