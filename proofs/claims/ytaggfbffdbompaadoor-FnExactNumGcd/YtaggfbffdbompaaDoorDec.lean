/-
  The contract of writing a whole number as decimal digits.
-/
import Derived.Test.YtaggfbffdbompaaDoorShelf
import Derived.Test.YtaggfbffdbompaaDoorMathP
import Derived.Test.YtaggfbffdbompaaDoorSigned
import Derived.Test.YtaggfbffdbompaaDoorRound
import Derived.Test.YtaggfbffdbompaaDoorDiv
import Derived.Test.YtaggfbffdbompaaDoorOfDec
namespace Go.Proofs.YtaggfbffdbompaaDoor
set_option maxRecDepth 100000
set_option linter.unusedVariables false
set_option linter.unusedSimpArgs false
open Go.RowKit Go.Shelf
attribute [local go_sem ↓] Go.wp_at_zero Go.wp_at_succ
attribute [local go_sem] Oper.semAt_some

/-- The library's table of powers of ten reads as its text lays it. -/
def TB (w : World) : Prop := Lib.TabIs Tryd.prog w "internal/strconv.uint64pow10" .u64 Lib.pow10Tab

theorem TB.on {w w' : World} (h : TB w) (hb : Below w.heap.size w w') : TB w' := Lib.tabBelow_of_tabIs h w' hb

theorem byteCells_eq (l : List UInt8) : Lib.byteCells l = l.map (fun b : UInt8 => Value.int .u8 b.toNat) := rfl

/-- Bytes as values. -/
def bV (l : List UInt8) : List Value := l.map (fun b : UInt8 => Value.int .u8 b.toNat)

theorem bV_snoc (l : List UInt8) (d : Nat) (h : d < 10) : bV l ++ [Value.int .u8 (48 + (d : Int))] = bV (l ++ [Dm.sg d]) := by
  simp [bV, Dm.sg_toNat d h]

set_option maxHeartbeats 1600000 in
theorem appendUint_any (B n u : Nat) (hu64 : u < 18446744073709551616) (sv : Value) (xs : List Value) (w : World) (hown : w.ownsRow B 5 1 sv n xs) (hBw : B ≤ w.heap.size) (hlim : n + 20 ≤ 140737488355328) (htab : TB w) :
    Calls Tryd.prog 82 #[sv, .int .u64 u, .int .i64 10] w fun e w' => ∃ v', e = .returned v' ∧ w'.ownsRow B 5 1 v' (n + (Lib.decDigits u).length) (xs ++ bV (Lib.decDigits u)) ∧ Lib.OthersKept 5 none w w' ∧ Below B w w' := by
  have HT : Hid (TB w) := htab
  clear htab
  go_enter Tryd.func82, Tryd.ntmps82
  go_wp2_with fail
  refine (Tryd.internal_strconv_AppendUint_10 B n u hu64 sv xs _ hown hBw hlim HT.out).mono ?_
  rintro e w1 ⟨v', rfl, h1, h2, h3⟩
  have H1 : Hid _ := h1
  have H2 : Hid _ := h2
  have H3 : Hid _ := h3
  clear h1 h2 h3 hown
  go_wp2
  go_ret
  exact ⟨v', rfl, H1.out, H3.out, H2.out⟩

/-- What stands between two rounds of writing digits. -/
def AdInv (B0 : Nat) (w : World) (Bs : Nat) (v0 : Value) (B : Nat) (xs : List Nat) (t : Nat) (pre : List (Fin xs.length)) (W : World) : Prop :=
  ∃ (l : List UInt8) (v : Value), Boxed W Bs 42 v0 ∧ Boxed W w.heap.size 73 v ∧ W.ownsRow B0 5 1 v l.length (bV l) ∧ l.length ≤ 10 + 9 * pre.length ∧ Dm.good l ∧
    (pre = dnk xs.length pre.length → Dm.val l = Lm.lval (xs.drop (xs.length - pre.length)) + 1000000000 ^ pre.length * t) ∧ Below B0 w W ∧ B ≤ W.heap.size

theorem AdInv.own {B0 : Nat} {w : World} {Bs : Nat} {v0 : Value} {B : Nat} {xs : List Nat} {t : Nat} (hw : w.heap.size ≤ B) (hB0 : B0 ≤ w.heap.size) : OwnFrom B (AdInv B0 w Bs v0 B xs t) := by
  rintro pre W W' row ⟨l, v, a0, a1, a2, a3, a4, a5, a6, a7⟩ hg hr
  have hr' : ∀ r, row = some r → ∃ o : Obj, W.heap[r]? = some o ∧ o.isCells = false := fun r e => (hr r e).2
  refine ⟨l, v, boxed_nc a0 hg hr', boxed_nc a1 hg hr', own_nc a2 hg hr', a3, a4, a5, a6.trans ⟨hg.os, hg.tape, hg.output, hg.size, fun k hk => hg.block k (by omega) (fun e => by have := (hr k e.symm).1; omega)⟩, Nat.le_trans a7 hg.size⟩

theorem operIn_append_own {F : Fence} {n : Nat} {P : Program} (w : World) {o : Oper} {a : Act} {K : Act → World → Prop} {Q : Exit → Act → World → Prop}
    (s x : Operand) (t : TypeId) (hop : o.op = Op.call { callee := Callee.builtin Builtin.append, args := #[s, x], argTypes := #[t, t] })
    (base : Nat) (e : TypeId) (i : TypeInfo) (z : Value) (size bytes : Nat) (h1 : P.underlying t = some (.slice e)) (h2 : P.info? e = some i) (h3 : i.zero = some z) (h4 : i.size = size) (h5 : i.bytes = bytes) (h6 : z.cells.size = size) (h7 : 0 < size)
    (v : Value) (k : Nat) (xs : List Value) (hs : a.eval s = v) (hown : w.ownsRow base e size v k xs) (ad : Addr) (m c : Nat) (news : List Value) (hx : a.eval x = .slice (some ad) m c) (hn : news.length = m * size)
    (hc : ∀ j u, news[j]? = some u → w.cell? (ad.add j) = some u) (h1c : ∀ u ∈ news, u.oneCell' = true) (b1 : k + m ≤ maxLen) (b2 : (k + m) * bytes ≤ 140737488355328) (b3 : base ≤ w.heap.size)
    (hK : ∀ v' w', w'.ownsRow base e size v' (k + m) (xs ++ news) → w.grownBy w' v.ownBlock → K (a.put o.dst v') w') :
    o.wpIn F n P a w K Q := by
  obtain ⟨v', w', hrun, r1, r2, r3⟩ := run_append_own (P := P) w base t o.type e i z size bytes h1 h2 h3 h4 h5 h6 h7 v k xs hown ad m c news hn hc h1c b1 b2 b3
  unfold Oper.wpIn
  refine ⟨?_, ?_⟩
  · simp [Oper.about, hop, resolve, Target.leads, Sem.run_pure]
  · rw [Oper.semAt_plain F _ _ (by rw [hop]; intro c hc'; cases hc')]
    simp [execOp, hop, resolve, invoke, builtin, hs, hx, hrun, Result.andThen]
    exact hK v' w' r1 r2

/-- A digit more, said of the world that it leaves. -/

theorem ad_leaf {w W wr w9 : World} {B0 Bs : Nat} {v0 : Value} {ds : List UInt8} {g k r g3 cap3 : Nat} {v4 : Value} {tmp : Obj} (hB0 : B0 ≤ w.heap.size) (hBs : w.heap.size < Bs) (hr : r = g / 10 ^ (8 - k) % 10) (hW : w.heap.size ≤ wr.heap.size)
    (hq : Boxed wr Bs 42 v0) (hbx : Boxed wr w.heap.size 73 (.slice (some ⟨g3, 0, none⟩) (ds.length + k) cap3))
    (how : wr.ownsRow B0 5 1 (.slice (some ⟨g3, 0, none⟩) (ds.length + k) cap3) (ds.length + k) (bV (ds ++ Dm.pd g k))) (hko : KeepsOthers W wr) (hkp : KpB B0 Bs W wr)
    (hg9 : (wr.drew.alloc tmp).grownBy w9 (some g3)) (ho9 : w9.ownsRow B0 5 1 v4 (ds.length + k + 1) (bV (ds ++ Dm.pd g k) ++ [.int .u8 (48 + (r : Int))])) :
    ∃ g4 cap4, v4 = .slice (some ⟨g4, 0, none⟩) (ds.length + (k + 1)) cap4 ∧ w9.cell? ⟨w.heap.size, 0, none⟩ = some (.slice (some ⟨g3, 0, none⟩) (ds.length + k) cap3) ∧ w9.frozen? ⟨w.heap.size, 0, none⟩ = false ∧
      Hid (Boxed (w9.setCell ⟨w.heap.size, 0, none⟩ v4) w.heap.size 73 v4) ∧
      Hid ((w9.setCell ⟨w.heap.size, 0, none⟩ v4).ownsRow B0 5 1 v4 (ds.length + (k + 1)) (bV (ds ++ Dm.pd g (k + 1)))) ∧
      Hid (KeepsOthers W (w9.setCell ⟨w.heap.size, 0, none⟩ v4)) ∧ Hid (KpB B0 Bs W (w9.setCell ⟨w.heap.size, 0, none⟩ v4)) := by
  have hr10 : r < 10 := by rw [hr]; exact Nat.mod_lt _ (by decide)
  obtain ⟨g4, cap4, rfl, hg4, hg4s, hc4, hcm4⟩ := own_some ho9 (by omega)
  have hn1 : w.heap.size ≠ g3 := fun e => hbx.not_row (t := 73) (by decide) how (by rw [e]; rfl)
  have hn2 : Bs ≠ g3 := fun e => hq.not_row (t := 42) (by decide) how (by rw [e]; rfl)
  have hbd : Boxed wr.drew w.heap.size 73 (.slice (some ⟨g3, 0, none⟩) (ds.length + k) cap3) := boxed_drew hbx
  have hb1 : Boxed w9 w.heap.size 73 (.slice (some ⟨g3, 0, none⟩) (ds.length + k) cap3) := (hbd.alloc tmp).kept hg9 (by simpa using hn1)
  have hn4 : w.heap.size ≠ g4 := fun e => hb1.not_row (t := 73) (by decide) ho9 (by rw [e]; rfl)
  have hrow : ∀ j (o : Obj), some g3 = some j → (wr.drew.alloc tmp).heap[j]? = some o → o.isCells = true := by
    intro j o e ho
    cases e
    have h1 := how.drew.alloc tmp
    rcases h1.2 with ⟨h2, _⟩ | ⟨g5, c5, cur5, h2, _, h3, _⟩
    · cases h2
    · cases h2
      rw [h3] at ho
      cases ho
      rfl
  have hbel : Below B0 wr w9 := ((Below.refl _ wr).drew.alloc (Nat.le_trans hB0 hW) tmp).grown hg9 (by show _ ≤ (wr.heap.push _).size; simp; omega) (fun j hj => by cases hj; exact (how.lt g3 rfl).1)
  have hBlk : w9.heap[Bs]? = wr.heap[Bs]? := by
    have hlt := hq.lt
    have h1 := hg9.block Bs (by show _ < (wr.heap.push _).size; simp; omega) (by simpa using hn2)
    exact h1.trans (Below.heap_alloc _ _ _ hlt)
  refine ⟨g4, cap4, by rw [Nat.add_assoc], hb1.cell, hb1.frozen, ?_, ?_, ?_, ?_⟩
  · exact hb1.set _
  · have h1 := own_other ho9 ⟨w.heap.size, 0, none⟩ (.slice (some ⟨g4, 0, none⟩) (ds.length + k + 1) cap4) (by simp only [Value.ownBlock, ne_eq, Option.some.injEq]; exact fun e => hn4 e.symm)
    rw [bV_snoc _ _ hr10, List.append_assoc, hr, ← Dm.pd_succ] at h1
    exact h1
  · exact ((hko.trans (KeepsOthers.drew _)).trans ((KeepsOthers.alloc _ tmp).trans (KeepsOthers.of_grownBy hg9 hrow))).trans (KeepsOthers.setCell _ _ _)
  · exact ⟨(hkp.1.trans hbel).setCell (p := ⟨w.heap.size, 0, none⟩) hB0 _, (Below.heap_setCell _ ⟨w.heap.size, 0, none⟩ _ Bs (by simp; omega)).trans (hBlk.trans hkp.2)⟩

theorem appendUint_own (B u : Nat) (hu0 : u ≠ 0) (hu64 : u < 18446744073709551616) (sv : Value) (w : World) (hsv : w.ownsRow B 5 1 sv 0 []) (hBw : B ≤ w.heap.size) (htab : TB w) :
    Calls Tryd.prog 82 #[sv, .int .u64 u, .int .i64 10] w fun e w' => (∃ g cap, e = .returned (.slice (some ⟨g, 0, none⟩) (Lib.decDigits u).length cap) ∧ B ≤ g ∧ w'.ownsRow B 5 1 (.slice (some ⟨g, 0, none⟩) (Lib.decDigits u).length cap) (Lib.decDigits u).length (bV (Lib.decDigits u))) ∧ Lib.OthersKept 5 none w w' ∧ Below B w w' := by
  have hlp : 0 < (Lib.decDigits u).length := List.length_pos_iff.2 (Dm.decDigits_good u hu0).1
  refine (appendUint_any B 0 u hu64 sv [] w hsv hBw (by omega) htab).mono ?_
  rintro e w1 ⟨v1, rfl, ho1, hk1, hb1⟩
  rw [Nat.zero_add, List.nil_append] at ho1
  obtain ⟨g1, cap1, rfl, hg1, hg1s, hc1, hcm1⟩ := own_some ho1 (by omega)
  exact ⟨⟨g1, cap1, rfl, hg1, ho1⟩, hk1, hb1⟩

set_option maxHeartbeats 2000000 in
theorem appendDecimal_posB (B0 : Nat) (sa : Option Addr) (sc : Nat) (v : Value) (n : Nat) (w : World) (hv : isN w v n) (hn0 : n ≠ 0) (hL : n < 1000000000 ^ 10000) (htab : TB w) (hB0 : B0 ≤ w.heap.size) (hvB : ∀ g, v.ownBlock = some g → g < B0) (hsv : w.ownsRow B0 5 1 (.slice sa 0 sc) 0 []) :
    Calls Tryd.prog 51 #[v, .slice sa 0 sc] w fun e w' => (∃ (v' : Value) (l : List UInt8), e = .returned v' ∧ Dm.isDec l n ∧ w'.ownsRow B0 5 1 v' l.length (bV l)) ∧ Below B0 w w' := by
  obtain ⟨i0, hi, hz0, hz1, hz2⟩ := info_parts infoU8
  obtain ⟨zs, hr, hn⟩ := hv
  have hlen := Lm.isNat_length zs n 10000 hn hL
  have hne := Lm.isNat_pos_ne zs n hn hn0
  obtain ⟨g0, cap, rfl, hg0, hcap, hcm⟩ := rowN_some hr hne
  have hg0B : g0 < B0 := hvB g0 rfl
  clear hvB
  have hzp : 0 < zs.length := List.length_pos_iff.2 hne
  obtain ⟨m, hm⟩ : ∃ m, m = zs.length - 1 := ⟨_, rfl⟩
  have hlm : zs.length = m + 1 := by omega
  have hcell := rowN_cell hr rfl m (by omega)
  have htop : zs.getLast? = some (zs[m]'(by omega)) := by rw [List.getLast?_eq_getElem?, ← hm, List.getElem?_eq_getElem (by omega)]
  obtain ⟨t, ht⟩ : ∃ t, t = zs[m]'(by omega) := ⟨_, rfl⟩
  rw [← ht] at hcell htop
  have ht0 : t ≠ 0 := by
    intro e
    have := hn.2.2
    rw [htop, e] at this
    exact this rfl
  have ht9 : t < 1000000000 := by rw [ht]; exact hn.2.1 _ (List.getElem_mem _)
  have hval : Lm.lval (zs.take m) + 1000000000 ^ m * t = n := by
    have h := hn.1
    rw [Lm.lval_take_drop zs m (by omega), List.drop_eq_getElem_cons (by omega), ← ht, List.drop_eq_nil_of_le (by omega)] at h
    simpa [Lm.lval] using h
  have HVAL : Hid (Lm.lval (zs.take m) + 1000000000 ^ m * t = n) := hval
  have HSM : Hid (Lm.small (zs.take m)) := Lm.small_take hn.2.1 m
  have HT : Hid (TB w) := htab
  have hztl : (zs.take m).length = m := by simp; omega
  obtain ⟨xs, hxs⟩ : ∃ xs, xs = zs.take m := ⟨_, rfl⟩
  have hxl : xs.length = m := by rw [hxs]; exact hztl
  have hrx : rowN w (.slice (some ⟨g0, 0, none⟩) m cap) xs := by
    rw [hxs]
    exact rowN_take hr rfl m (by omega)
  have HRX : Hid _ := hrx
  rw [← hxs] at HVAL HSM
  have hz : ((m : Int) + 1 == 0) = false := beq_eq_false_iff_ne.2 (by omega)
  have hcell2 : (w.alloc (.cells #[.slice sa 0 sc] 73)).cell? ⟨g0, m, none⟩ = some (.int .u64 (t : Nat)) := by
    refine (((Below.refl _ w).alloc (Nat.le_refl _) _).cell (p := ⟨g0, m, none⟩) ?_).trans hcell
    exact hg0
  clear hn hL hne htop ht hval htab hztl hr hm hn0 hrx hxs
  rw [hlm]
  refine (callsIn_wide (n := 9)).1 ?_
  refine callsIn_of_wp_marks Tryd.func51 rfl trivial ?_ rfl
  simp only [Tryd.ntmps51, List.size_toArray, List.length_cons, List.length_nil, Nat.reduceAdd, Nat.reduceSub, Array.replicate_succ, Array.replicate_zero, List.push_toArray, List.append_toArray, List.nil_append, List.cons_append]
  gi_wp2_with fail
  have hsz0 : (w.alloc (.cells #[.slice sa 0 sc] 73)).heap.size = w.heap.size + 1 := by show (w.heap.push _).size = _; simp
  have hBB : Below w.heap.size w (w.alloc (.cells #[.slice sa 0 sc] 73)).drew := ((Below.refl _ w).alloc (Nat.le_refl _) _).drew
  have x0 := boxAt_new w #[.slice sa 0 sc] 73
  have HSZ : Hid _ := hsz0
  have HB0 : Hid _ := hBB
  have X0 : Hid _ := x0
  have hlp : 0 < (Lib.decDigits t).length := List.length_pos_iff.2 (Dm.decDigits_good t ht0).1
  have HSV : Hid (((w.alloc (.cells #[.slice sa 0 sc] 73)).drew).ownsRow B0 5 1 (.slice sa 0 sc) 0 []) := (hsv.alloc _).drew
  clear hsz0 hBB x0 hsv
  refine Go.wpIn_mono (Q := fun e a' w' => match e with | .normal => Hid (Below B0 w w') ∧ ∃ (g1 cap1 : Nat), Hid (Boxed w' w.heap.size 73 (.slice (some ⟨g1, 0, none⟩) (Lib.decDigits t).length cap1)) ∧ Hid (w'.ownsRow B0 5 1 (.slice (some ⟨g1, 0, none⟩) (Lib.decDigits t).length cap1) (Lib.decDigits t).length (bV (Lib.decDigits t))) ∧ a' = { tmps := #[.slice (some ⟨g0, 0, none⟩) (m + 1) cap, .slice sa 0 sc, undef, .pointer (some ⟨w.heap.size, 0, none⟩), .slice none 0 0, .int .i64 m, undef, undef, undef, .slice (some ⟨g0, 0, none⟩) (m + 1) cap, .int .i64 ((m : Int) + 1), .bool false, undef, undef, undef, .slice (some ⟨g0, 0, none⟩) (m + 1) cap, .int .i64 ((m : Int) + 1), .int .i64 m, .slice sa 0 sc, .slice (some ⟨g0, 0, none⟩) (m + 1) cap, .int .i64 m, .pointer (some ⟨g0, m, none⟩), .int .u64 t, .slice (some ⟨g1, 0, none⟩) (Lib.decDigits t).length cap1, undef, undef, undef, undef, undef, undef, undef, undef, undef, undef, undef, undef, undef, undef, undef, undef, undef, undef, undef, undef, undef], defers := [] } | _ => False) ?_ ?_
  · refine wpIn_wide.2 ?_
    go_region_with (go_loud (go_at_call 82; refine (appendUint_own B0 t ht0 (by omega) _ _ HSV.out (by have h0 := HSZ.out; show _ ≤ (w.heap.push _).size; simp; omega) (HT.out.on HB0.out)).mono ?_; rintro e w1 ⟨⟨g1, cap1, rfl, hg1, ho1⟩, hk1, hb1⟩; have hx1 : boxAt w1 w.heap.size #[.slice sa 0 sc] 73 := hk1 _ _ X0.out (by simp) (fun c fz e => by injection e with _ e2 _; exact absurd e2 (by decide)); have c0 := hx1.cell 0 rfl; have f0 := hx1.frozen 0; have HO1 : Hid _ := ho1; have HB1 : Hid _ := hb1; have HX1 : Hid _ := hx1; clear ho1 hb1 hk1 hx1))
    all_goals
      refine ⟨?_, g1, cap1, ?_, ?_, rfl⟩
      · have h1 : Below B0 w w1 := (HB0.out.mono hB0).trans HB1.out
        exact h1.setCell (p := ⟨w.heap.size, 0, none⟩) hB0 _
      · have h1 : Boxed w1 w.heap.size 73 (.slice sa 0 sc) := HX1.out
        exact h1.set _
      · have h2 : Boxed w1 w.heap.size 73 (.slice sa 0 sc) := HX1.out
        have h3 : w.heap.size ≠ g1 := fun e => h2.not_row (t := 73) (by decide) HO1.out (by rw [e]; rfl)
        exact own_other HO1.out ⟨w.heap.size, 0, none⟩ _ (by simp only [Value.ownBlock, ne_eq, Option.some.injEq]; exact fun e => h3 e.symm)
  · intro e a' w' hq
    cases e
    case normal =>
      obtain ⟨hbw, g1, cap1, hbx, how, rfl⟩ := hq
      clear hcell hcell2 HB0 X0 HSZ HSV
      gi_wp2_with fail
      refine ⟨trivial, (back_in Fence.wide 8 trivial rfl _ _ ⟨_, _, _, rfl⟩).mono ?_⟩
      rintro e w2 ⟨rfl, rfl⟩
      gi_wp2_with fail
      have hszw : w.heap.size ≤ w'.heap.size := hbw.out.size
      have q1 := Boxed.new w' 42 (.slice (some ⟨g0, 0, none⟩) m cap)
      have b1 : Below B0 w (w'.alloc (Obj.cells #[Value.slice (some ⟨g0, 0, none⟩) m cap] 42)) := hbw.out.alloc (by omega) _
      have d1 : Boxed (w'.alloc (Obj.cells #[Value.slice (some ⟨g0, 0, none⟩) m cap] 42)) w.heap.size 73 (.slice (some ⟨g1, 0, none⟩) (Lib.decDigits t).length cap1) := hbx.out.alloc _
      have o1 := how.out.alloc (Obj.cells #[Value.slice (some ⟨g0, 0, none⟩) m cap] 42)
      have hsz : (w'.alloc (Obj.cells #[Value.slice (some ⟨g0, 0, none⟩) m cap] 42)).heap.size = w'.heap.size + 1 := by show (w'.heap.push _).size = _; simp
      generalize w'.alloc (Obj.cells #[Value.slice (some ⟨g0, 0, none⟩) m cap] 42) = L at *
      have hrL : rowN L (.slice (some ⟨g0, 0, none⟩) m cap) xs := own_belowB HRX.out b1 (fun g hg => by cases hg; exact hg0B)
      have hltL : ∀ g, (Value.slice (some ⟨g0, 0, none⟩) m cap).ownBlock = some g → g < B0 := fun g hg => by cases hg; exact hg0B
      have hltb := hbx.out.lt
      have hxlen : xs.length ≤ 1000000 := by omega
      refine wpIn_rangeFunc_ownG rfl (by omega) (gf := 95) (lb := #[.pointer (some ⟨w'.heap.size, 0, none⟩)]) rfl trivial (enters_of Tryd.func95 (by kernel_rfl) rfl)
        (back_stops Fence.wide 8 trivial rfl (by omega) w'.heap.size B0 (.slice (some ⟨g0, 0, none⟩) m cap) xs hxlen L (by omega) (by omega) q1.cell hrL hltL) KpB.trans (KpB_b (by omega) (by omega)) (Below.refl _ _) (fun _ => rfl)
        (AdInv B0 w w'.heap.size (.slice (some ⟨g0, 0, none⟩) m cap) L.heap.size xs t)
        (fun _ _ _ => False)
        (AdInv.own (by omega) hB0)
        (fun _ _ _ _ _ hs _ _ => hs)
        ⟨Lib.decDigits t, _, q1, d1, o1, by have := Dm.decDigits_len t ht9; omega, Dm.decDigits_good t ht0, fun _ => by
          show Dm.val _ = Lm.lval (xs.drop (xs.length - 0)) + 1000000000 ^ 0 * t
          rw [Nat.sub_zero, List.drop_length, (Dm.decDigits_dec t).2.2.1]; simp [Lm.lval], b1, Nat.le_refl _⟩
        (fun x => { tmps := #[.slice (some ⟨g0, 0, none⟩) (m + 1) cap, .slice sa 0 sc, undef, .pointer (some ⟨w.heap.size, 0, none⟩), .slice none 0 0, .int .i64 m, undef, .int .u64 (xs[x.1]'x.2 : Nat), undef, .slice (some ⟨g0, 0, none⟩) (m + 1) cap, .int .i64 ((m : Int) + 1), .bool false, undef, undef, undef, .slice (some ⟨g0, 0, none⟩) (m + 1) cap, .int .i64 ((m : Int) + 1), .int .i64 m, .slice sa 0 sc, .slice (some ⟨g0, 0, none⟩) (m + 1) cap, .int .i64 m, .pointer (some ⟨g0, m, none⟩), .int .u64 t, .slice (some ⟨g1, 0, none⟩) (Lib.decDigits t).length cap1,
          .slice (some ⟨g0, 0, none⟩) (m + 1) cap, .int .i64 m, .slice (some ⟨g0, 0, none⟩) m cap, .func (.func 95) #[] #[.pointer (some ⟨w'.heap.size, 0, none⟩)], .int .i64 (x.1 : Nat), .int .u64 (xs[x.1]'x.2 : Nat), undef, undef, undef, undef, undef, undef, undef, undef, undef, undef, undef, undef, undef, undef, undef], defers := [] }) ?assign ?body ?done ?stop
      case assign =>
        intro l x W K hK
        simp only [encG]
        gi_wp2
        exact hK
      case body =>
        rintro l pre x W ⟨ds, v, a0, a1, a2, a3, a4, a5, a6, a7⟩ hpre
        obtain ⟨i, hi'⟩ := x
        dsimp only
        have hg9 := HSM.out (xs[i]'hi') (List.getElem_mem _)
        obtain ⟨g, hg⟩ : ∃ g, g = xs[i]'hi' := ⟨_, rfl⟩
        rw [← hg] at hg9 ⊢
        have hdl : 0 < ds.length := List.length_pos_iff.2 a4.1
        obtain ⟨g2, cap2, rfl, hg2, hg2s, hc2, hcm2⟩ := own_some a2 (by omega)
        have HG : Hid (g = xs[i]'hi') := hg
        have A4 : Hid _ := a4
        have A5 : Hid _ := a5
        have A6 : Hid _ := a6
        have hdsl : ds.length ≤ 100000 := by omega
        clear hg a4 a5 a6 q1 d1 o1 hrL hltL b1 hbw hbx how HRX
        gi_wp2
        gi_loopw [8] (fun u wr => ∃ (k g3 cap3 : Nat), k ≤ 9 ∧ u = .int .i64 (8 - (k : Int)) ∧ Hid (Boxed wr w'.heap.size 42 (.slice (some ⟨g0, 0, none⟩) m cap)) ∧ Hid (Boxed wr w.heap.size 73 (.slice (some ⟨g3, 0, none⟩) (ds.length + k) cap3)) ∧ Hid (wr.ownsRow B0 5 1 (.slice (some ⟨g3, 0, none⟩) (ds.length + k) cap3) (ds.length + k) (bV (ds ++ Dm.pd g k))) ∧ Hid (KeepsOthers W wr) ∧ Hid (KpB B0 w'.heap.size W wr))
          (fun u _ => ((intOf u) + 1).toNat)
        case atStart => exact ⟨0, g2, cap2, by omega, rfl, a0, a1, by rw [Dm.pd_zero, List.append_nil]; exact a2, KeepsOthers.refl _, KpB.refl _ _ _⟩
        case round =>
          obtain ⟨k, g3, cap3, hk, rfl, hbq, hbx, how, hko, hkp⟩ := hrel
          by_cases hk9 : k < 9
          · obtain ⟨p, hp⟩ : ∃ p, p = 8 - k := ⟨_, rfl⟩
            have hpk : (8 : Int) - (k : Int) = (p : Int) := by omega
            have hp9 : p ≤ 8 := by omega
            obtain ⟨q, hq⟩ : ∃ q, q = g / pw p := ⟨_, rfl⟩
            obtain ⟨r, hr⟩ : ∃ r, r = q % 10 := ⟨_, rfl⟩
            have hr10 : r < 10 := by omega
            have hpw1 : 1 ≤ pw p := Nat.pow_pos (by decide)
            have hpw2 : pw p ≤ 100000000 := Nat.le_trans (Nat.pow_le_pow_right (by omega) hp9) (by decide)
            have hq9 : q < 1000000000 := by rw [hq]; exact Nat.lt_of_le_of_lt (Nat.div_le_self _ _) hg9
            have HR : Hid (r = g / 10 ^ (8 - k) % 10) := by show _ = _; rw [hr, hq, hp]; rfl
            have HBS : Hid (w.heap.size < w'.heap.size) := hltb
            have HWR : Hid (w.heap.size ≤ wr.heap.size) := by show _ ≤ _; have := hbx.out.lt; omega
            have c0 := hbx.out.cell
            have c0a := (hbx.out.alloc (Obj.cells #[Value.int IntKind.u8 (48 + (r : Int))] 5)).cell
            have hqw : IntKind.u64.wrap (q : Int) = (q : Int) := by rw [IntKind.wrap_u64]; omega
            have hqd : (g : Int) / (pw p : Int) = (q : Int) := by rw [hq]; simp
            have hqt : (g : Int).tdiv (pw p : Int) = (q : Int) := by rw [Int.tdiv_eq_ediv_of_nonneg (by omega)]; exact hqd
            have hrd : (q : Int) % 10 = (r : Int) := by omega
            have hrt : (q : Int).tmod 10 = (r : Int) := by rw [Int.tmod_eq_emod_of_nonneg (by omega)]; exact hrd
            have hr8 : IntKind.u8.wrap (r : Int) = (r : Int) := by simp [IntKind.wrap, IntKind.bits, IntKind.signed]; omega
            have hs8 : IntKind.u8.wrap (48 + (r : Int)) = 48 + (r : Int) := by simp [IntKind.wrap, IntKind.bits, IntKind.signed]; omega
            have hpwz : ((pw p : Int) == 0) = false := beq_eq_false_iff_ne.2 (by omega)
            have hp0 : (0 : Int) ≤ (p : Int) := by omega
            clear hq hr hp hltb a7
            gi_wp2
            refine Go.wpIn_mono (Q := fun e a' w'' => match e with | .normal => Hid (Boxed w'' w'.heap.size 42 (.slice (some ⟨g0, 0, none⟩) m cap)) ∧ ∃ (g4 cap4 : Nat), Hid (Boxed w'' w.heap.size 73 (.slice (some ⟨g4, 0, none⟩) (ds.length + (k + 1)) cap4)) ∧ Hid (w''.ownsRow B0 5 1 (.slice (some ⟨g4, 0, none⟩) (ds.length + (k + 1)) cap4) (ds.length + (k + 1)) (bV (ds ++ Dm.pd g (k + 1)))) ∧ Hid (KeepsOthers W w'') ∧ Hid (KpB B0 w'.heap.size W w'') ∧ ∃ x34 x35 x36 x37 x38 x39 x40 x41 x42 x43 : Value, a' = { tmps := #[.slice (some ⟨g0, 0, none⟩) (m + 1) cap, .slice sa 0 sc, undef, .pointer (some ⟨w.heap.size, 0, none⟩), .slice none 0 0, .int .i64 m, undef, .int .u64 g, .int .i64 p, .slice (some ⟨g0, 0, none⟩) (m + 1) cap, .int .i64 ((m : Int) + 1), .bool false, undef, undef, undef, .slice (some ⟨g0, 0, none⟩) (m + 1) cap, .int .i64 ((m : Int) + 1), .int .i64 m, .slice sa 0 sc, .slice (some ⟨g0, 0, none⟩) (m + 1) cap, .int .i64 m, .pointer (some ⟨g0, m, none⟩), .int .u64 t, .slice (some ⟨g1, 0, none⟩) (Lib.decDigits t).length cap1, .slice (some ⟨g0, 0, none⟩) (m + 1) cap, .int .i64 m, .slice (some ⟨g0, 0, none⟩) m cap, .func (.func 95) #[] #[.pointer (some ⟨w'.heap.size, 0, none⟩)], .int .i64 i, .int .u64 g, .int .i64 p, .bool true, u32, u33, x34, x35, x36, x37, x38, x39, x40, x41, x42, x43, undef], defers := [] } | _ => False) ?_ ?_
            · refine wpIn_region_any (by kernel_rfl) ?_
              change wpAnyIn _ _ _ _ _ _ _ _ _ (World.drew _)
              refine wpAnyIn_round rfl (by kernel_rfl) _ _ _ _ ?_
              refine wpAnyIn_take (i := 1) (v := .int .u64 (g : Nat)) rfl rfl (by kernel_rfl) (by kernel_rfl) (by kernel_rfl) (fun _ _ _ h => h) ⟨Or.inl ⟨by rfl, ?_⟩, fun _ => rfl⟩ ?_
              · intro wx; go_simp
              refine wpAnyIn_take (i := 2) (v := .int .i64 (p : Nat)) rfl rfl (by kernel_rfl) (by kernel_rfl) (by kernel_rfl) (fun _ _ _ h => h) ⟨Or.inl ⟨by rfl, ?_⟩, fun _ => rfl⟩ ?_
              · intro wx; go_simp
              refine wpAnyIn_ready (rs := [0, 3]) (by kernel_rfl) (by simp) ?_
              refine AllReadyIn.cons rfl (fun K hK => ?_) ?_
              · go_simp
                refine hK _ _ ?_; clear hK K
                refine wpAnyIn_ready (rs := [3]) (by kernel_rfl) (by simp) ?_
                refine AllReadyIn.cons rfl (fun K hK => ?_) ?_
                · go_simp
                  refine ⟨trivial, (callsIn_wide.2 (pow10_any p _ (by omega))).mono ?_⟩
                  rintro e w7 ⟨rfl, rfl⟩
                  refine hK _ _ ?_; clear hK K
                  refine wpAnyIn_take (i := 4) (v := .int .u64 (q : Nat)) rfl rfl (by kernel_rfl) (by kernel_rfl) (by kernel_rfl) (fun _ _ _ h => h) ⟨Or.inl ⟨by rfl, ?_⟩, fun _ => rfl⟩ ?_
                  · intro wx; go_simp; omega
                  refine wpAnyIn_take (i := 5) (v := .int .u64 (r : Nat)) rfl rfl (by kernel_rfl) (by kernel_rfl) (by kernel_rfl) (fun _ _ _ h => h) ⟨Or.inl ⟨by rfl, ?_⟩, fun _ => rfl⟩ ?_
                  · intro wx; go_simp
                  refine wpAnyIn_take (i := 6) (v := .int .u8 (r : Nat)) rfl rfl (by kernel_rfl) (by kernel_rfl) (by kernel_rfl) (fun _ _ _ h => h) ⟨Or.inl ⟨by rfl, ?_⟩, fun _ => rfl⟩ ?_
                  · intro wx; go_simp
                  refine wpAnyIn_take (i := 7) (v := .int .u8 (48 + (r : Int))) rfl rfl (by kernel_rfl) (by kernel_rfl) (by kernel_rfl) (fun _ _ _ h => h) ⟨Or.inl ⟨by rfl, ?_⟩, fun _ => rfl⟩ ?_
                  · intro wx; go_simp
                  refine wpAnyIn_ready (rs := [8]) (by kernel_rfl) (by simp) ?_
                  refine AllReadyIn.cons rfl (fun K hK => ?_) ?_
                  · go_simp
                    refine hK _ _ ?_; clear hK K
                    refine wpAnyIn_ready (rs := [9]) (by kernel_rfl) (by simp) ?_
                    refine AllReadyIn.cons rfl (fun K hK => ?_) ?_
                    · refine operIn_append_own _ (.tmp 34) (.tmp 42) 73 rfl B0 5 i0 (.int .u8 0) 1 1 Tryd.underlying73 hi hz0 hz1 hz2 rfl (by decide) _ (ds.length + k) (bV (ds ++ Dm.pd g k)) rfl (how.out.drew.alloc _) ⟨wr.heap.size, 0, none⟩ 1 1 [.int .u8 (48 + (r : Int))] rfl rfl (cell_one_new wr.drew _ _) (by simp [Value.oneCell']) (by unfold maxLen; omega) (by omega) (by show _ ≤ (wr.heap.push _).size; simp; have := HWR.out; omega) ?_
                      intro v4 w9 ho9 hg9
                      obtain ⟨g4, cap4, rfl, e1, e2, e3, e4, e5, e6⟩ := ad_leaf hB0 HBS.out HR.out HWR.out hbq.out hbx.out how.out hko.out hkp.out hg9 ho9
                      have hbq9 : Hid (Boxed (w9.setCell ⟨w.heap.size, 0, none⟩ (.slice (some ⟨g4, 0, none⟩) (ds.length + (k + 1)) cap4)) w'.heap.size 42 (.slice (some ⟨g0, 0, none⟩) m cap)) := by
                        have h1 := e6.out.2
                        have h2 := hkp.out.2
                        have h3 : wr.heap[w'.heap.size]? = some (.cells #[.slice (some ⟨g0, 0, none⟩) m cap] 42 (0, 0)) := hbq.out
                        show _ = _
                        rw [h1, ← h2]; exact h3
                      clear ho9 hg9
                      refine hK _ _ ?_; clear hK K
                      refine wpAnyIn_ready (rs := [10]) (by kernel_rfl) (by simp) ?_
                      refine AllReadyIn.cons rfl (fun K hK => ?_) ?_
                      · go_simp
                        refine hK _ _ ?_; clear hK K
                        refine wpAnyIn_done (by kernel_rfl) ?_ _
                        exact ⟨hbq9, g4, cap4, e3, e4, e5, e6, _, _, _, _, _, _, _, _, _, _, rfl⟩
                      exact AllReadyIn.nil
                    exact AllReadyIn.nil
                  exact AllReadyIn.nil
                exact AllReadyIn.nil
              refine AllReadyIn.cons rfl (fun K hK => ?_) ?_
              · go_simp
                refine ⟨trivial, (callsIn_wide.2 (pow10_any p _ (by omega))).mono ?_⟩
                rintro e w7 ⟨rfl, rfl⟩
                refine hK _ _ ?_; clear hK K
                refine wpAnyIn_take (i := 4) (v := .int .u64 (q : Nat)) rfl rfl (by kernel_rfl) (by kernel_rfl) (by kernel_rfl) (fun _ _ _ h => h) ⟨Or.inl ⟨by rfl, ?_⟩, fun _ => rfl⟩ ?_
                · intro wx; go_simp; omega
                refine wpAnyIn_take (i := 5) (v := .int .u64 (r : Nat)) rfl rfl (by kernel_rfl) (by kernel_rfl) (by kernel_rfl) (fun _ _ _ h => h) ⟨Or.inl ⟨by rfl, ?_⟩, fun _ => rfl⟩ ?_
                · intro wx; go_simp
                refine wpAnyIn_take (i := 6) (v := .int .u8 (r : Nat)) rfl rfl (by kernel_rfl) (by kernel_rfl) (by kernel_rfl) (fun _ _ _ h => h) ⟨Or.inl ⟨by rfl, ?_⟩, fun _ => rfl⟩ ?_
                · intro wx; go_simp
                refine wpAnyIn_take (i := 7) (v := .int .u8 (48 + (r : Int))) rfl rfl (by kernel_rfl) (by kernel_rfl) (by kernel_rfl) (fun _ _ _ h => h) ⟨Or.inl ⟨by rfl, ?_⟩, fun _ => rfl⟩ ?_
                · intro wx; go_simp
                refine wpAnyIn_ready (rs := [0, 8]) (by kernel_rfl) (by simp) ?_
                refine AllReadyIn.cons rfl (fun K hK => ?_) ?_
                · go_simp
                  refine hK _ _ ?_; clear hK K
                  refine wpAnyIn_ready (rs := [8]) (by kernel_rfl) (by simp) ?_
                  refine AllReadyIn.cons rfl (fun K hK => ?_) ?_
                  · go_simp
                    refine hK _ _ ?_; clear hK K
                    refine wpAnyIn_ready (rs := [9]) (by kernel_rfl) (by simp) ?_
                    refine AllReadyIn.cons rfl (fun K hK => ?_) ?_
                    · refine operIn_append_own _ (.tmp 34) (.tmp 42) 73 rfl B0 5 i0 (.int .u8 0) 1 1 Tryd.underlying73 hi hz0 hz1 hz2 rfl (by decide) _ (ds.length + k) (bV (ds ++ Dm.pd g k)) rfl (how.out.drew.alloc _) ⟨wr.heap.size, 0, none⟩ 1 1 [.int .u8 (48 + (r : Int))] rfl rfl (cell_one_new wr.drew _ _) (by simp [Value.oneCell']) (by unfold maxLen; omega) (by omega) (by show _ ≤ (wr.heap.push _).size; simp; have := HWR.out; omega) ?_
                      intro v4 w9 ho9 hg9
                      obtain ⟨g4, cap4, rfl, e1, e2, e3, e4, e5, e6⟩ := ad_leaf hB0 HBS.out HR.out HWR.out hbq.out hbx.out how.out hko.out hkp.out hg9 ho9
                      have hbq9 : Hid (Boxed (w9.setCell ⟨w.heap.size, 0, none⟩ (.slice (some ⟨g4, 0, none⟩) (ds.length + (k + 1)) cap4)) w'.heap.size 42 (.slice (some ⟨g0, 0, none⟩) m cap)) := by
                        have h1 := e6.out.2
                        have h2 := hkp.out.2
                        have h3 : wr.heap[w'.heap.size]? = some (.cells #[.slice (some ⟨g0, 0, none⟩) m cap] 42 (0, 0)) := hbq.out
                        show _ = _
                        rw [h1, ← h2]; exact h3
                      clear ho9 hg9
                      refine hK _ _ ?_; clear hK K
                      refine wpAnyIn_ready (rs := [10]) (by kernel_rfl) (by simp) ?_
                      refine AllReadyIn.cons rfl (fun K hK => ?_) ?_
                      · go_simp
                        refine hK _ _ ?_; clear hK K
                        refine wpAnyIn_done (by kernel_rfl) ?_ _
                        exact ⟨hbq9, g4, cap4, e3, e4, e5, e6, _, _, _, _, _, _, _, _, _, _, rfl⟩
                      exact AllReadyIn.nil
                    exact AllReadyIn.nil
                  exact AllReadyIn.nil
                refine AllReadyIn.cons rfl (fun K hK => ?_) ?_
                · go_simp
                  refine hK _ _ ?_; clear hK K
                  refine wpAnyIn_ready (rs := [0]) (by kernel_rfl) (by simp) ?_
                  refine AllReadyIn.cons rfl (fun K hK => ?_) ?_
                  · go_simp
                    refine hK _ _ ?_; clear hK K
                    refine wpAnyIn_ready (rs := [9]) (by kernel_rfl) (by simp) ?_
                    refine AllReadyIn.cons rfl (fun K hK => ?_) ?_
                    · refine operIn_append_own _ (.tmp 34) (.tmp 42) 73 rfl B0 5 i0 (.int .u8 0) 1 1 Tryd.underlying73 hi hz0 hz1 hz2 rfl (by decide) _ (ds.length + k) (bV (ds ++ Dm.pd g k)) rfl (how.out.drew.alloc _) ⟨wr.heap.size, 0, none⟩ 1 1 [.int .u8 (48 + (r : Int))] rfl rfl (cell_one_new wr.drew _ _) (by simp [Value.oneCell']) (by unfold maxLen; omega) (by omega) (by show _ ≤ (wr.heap.push _).size; simp; have := HWR.out; omega) ?_
                      intro v4 w9 ho9 hg9
                      obtain ⟨g4, cap4, rfl, e1, e2, e3, e4, e5, e6⟩ := ad_leaf hB0 HBS.out HR.out HWR.out hbq.out hbx.out how.out hko.out hkp.out hg9 ho9
                      have hbq9 : Hid (Boxed (w9.setCell ⟨w.heap.size, 0, none⟩ (.slice (some ⟨g4, 0, none⟩) (ds.length + (k + 1)) cap4)) w'.heap.size 42 (.slice (some ⟨g0, 0, none⟩) m cap)) := by
                        have h1 := e6.out.2
                        have h2 := hkp.out.2
                        have h3 : wr.heap[w'.heap.size]? = some (.cells #[.slice (some ⟨g0, 0, none⟩) m cap] 42 (0, 0)) := hbq.out
                        show _ = _
                        rw [h1, ← h2]; exact h3
                      clear ho9 hg9
                      refine hK _ _ ?_; clear hK K
                      refine wpAnyIn_ready (rs := [10]) (by kernel_rfl) (by simp) ?_
                      refine AllReadyIn.cons rfl (fun K hK => ?_) ?_
                      · go_simp
                        refine hK _ _ ?_; clear hK K
                        refine wpAnyIn_done (by kernel_rfl) ?_ _
                        exact ⟨hbq9, g4, cap4, e3, e4, e5, e6, _, _, _, _, _, _, _, _, _, _, rfl⟩
                      exact AllReadyIn.nil
                    exact AllReadyIn.nil
                  exact AllReadyIn.nil
                exact AllReadyIn.nil
              exact AllReadyIn.nil
            · intro e a' w'' hq
              cases e
              case normal =>
                obtain ⟨hbq9, g4, cap4, e3, e4, e5, e6, x34, x35, x36, x37, x38, x39, x40, x41, x42, x43, rfl⟩ := hq
                clear c0 c0a hqd hqt hrd hrt hr8 hs8 hpwz hqw
                simp only [Exit.inBlock]
                gi_wp2
                refine ⟨⟨k + 1, g4, cap4, by omega, by rw [show (8 : Int) - ((k + 1 : Nat) : Int) = (p : Int) - 1 from by omega], hbq9, e3, e4, e5, e6⟩, ?_⟩
                simp only [intOf]; omega
              all_goals exact hq.elim
          · obtain rfl : k = 9 := by omega
            have hl9 : (ds ++ Dm.pd g 9).length = ds.length + 9 := by rw [List.length_append, Dm.pd_length]
            have HL9 : Hid _ := hl9
            clear hl9
            gi_wp2
            refine ⟨hko.out.from _, hkp.out, ds ++ Dm.pd g 9, _, hbq.out, hbx.out, ?_, ?_, Dm.good_app A4.out (Dm.pd_dig g 9), ?_, A6.out.trans hkp.out.1, Nat.le_trans a7 hko.out.size⟩
            · rw [HL9.out]; exact how.out
            · rw [HL9.out, List.length_append, List.length_singleton]; omega
            · intro hp
              obtain ⟨hp1, hp2⟩ := dnk_snoc hp hpre
              dsimp only at hp2
              have c1 := A5.out hp1
              have e1 : xs.length - (pre ++ [(⟨i, hi'⟩ : Fin xs.length)]).length = i := by simp; omega
              have e2 : xs.length - pre.length = i + 1 := by omega
              rw [e2] at c1
              rw [e1, Dm.val_group _ _ hg9, c1, List.drop_eq_getElem_cons hi', ← HG.out, List.length_append, List.length_singleton, Nat.pow_succ]
              simp only [Lm.lval]
              rw [Nat.add_mul, Nat.mul_right_comm]
              omega
      case done =>
        rintro D ps W hD rfl ⟨ds, v, a0, a1, a2, a3, a4, a5, a6, a7⟩ hK
        have hdl : (dnk xs.length xs.length).length = xs.length := dnk_length _ _ (Nat.le_refl _)
        rw [hdl] at a5
        have hv := a5 rfl
        rw [Nat.sub_self, List.drop_zero, hxl, HVAL.out] at hv
        have HDEC : Hid (Dm.isDec ds n) := Dm.good_dec a4 hv
        have hdl : 0 < ds.length := List.length_pos_iff.2 a4.1
        obtain ⟨g2, cap2, rfl, hg2, hg2s, hc2, hcm2⟩ := own_some a2 (by omega)
        have c1 := a1.cell
        clear hv a5 a4 q1 d1 o1 hrL hltL b1 hbw hbx how HRX
        gi_wp2
        refine ⟨by simp, .inl ⟨_, _, rfl, run_takeDeferred hK, ?_⟩⟩
        exact ⟨_, results_tmp rfl _ _ _, ⟨_, ds, rfl, HDEC.out, ownsRow_putObj a2 _ hK rfl⟩, a6.trans (belowK_b (w := w) hB0 W D _ _ (by omega) hK rfl rfl)⟩
      case stop =>
        rintro D c pre W _ _ h _
        exact h.elim
    all_goals exact hq.elim

set_option maxHeartbeats 1600000 in
theorem appendDecimal_zeroB (B0 : Nat) (sa : Option Addr) (sc : Nat) (v : Value) (w : World) (hv : isN w v 0) (hB0 : B0 ≤ w.heap.size) (hsv : w.ownsRow B0 5 1 (.slice sa 0 sc) 0 []) :
    Calls Tryd.prog 51 #[v, .slice sa 0 sc] w fun e w' => (∃ (v' : Value) (l : List UInt8), e = .returned v' ∧ Dm.isDec l 0 ∧ w'.ownsRow B0 5 1 v' l.length (bV l)) ∧ Below B0 w w' := by
  obtain ⟨i0, hi, hz0, hz1, hz2⟩ := info_parts infoU8
  obtain ⟨zs, hr, hn⟩ := hv
  have hz := Lm.isNat_zero zs hn
  subst hz
  obtain ⟨ao, cap, rfl, _⟩ := rowN_open hr
  simp only [List.length_nil]
  clear hr hn
  have hsz0 : (w.alloc (.cells #[.slice sa 0 sc] 73)).heap.size = w.heap.size + 1 := by show (w.heap.push _).size = _; simp
  have HSZ : Hid _ := hsz0
  have HSV : Hid (((w.alloc (.cells #[.slice sa 0 sc] 73)).alloc (.cells #[.int .u8 48] 5)).ownsRow B0 5 1 (.slice sa 0 sc) 0 []) := (hsv.alloc _).alloc _
  clear hsz0 hsv
  go_enter Tryd.func51, Tryd.ntmps51
  go_wp2_with (at_builtin; refine wpList_append_own _ rfl _ _ 73 rfl B0 5 i0 (.int .u8 0) 1 1 Tryd.underlying73 hi hz0 hz1 hz2 rfl (by decide) (.slice sa 0 sc) 0 [] rfl HSV.out ⟨w.heap.size + 1, 0, none⟩ 1 1 [.int .u8 48] rfl rfl (by have h := cell_one_new (w.alloc (.cells #[.slice sa 0 sc] 73)) (.int .u8 48) 5; rw [HSZ.out] at h; exact h) (by simp [Value.oneCell']) (by unfold maxLen; omega) (by omega) (by simp only [World.size_alloc]; omega) ?_)
  intro v' w1 hown' hgrow _
  have hb : Below B0 w w1 := (((Below.refl _ w).alloc hB0 _).alloc (by simp; omega) _).grown hgrow (by simp; omega) (fun k hk => (World.ownsRow.lt HSV.out k hk).1)
  have HO : Hid (w1.ownsRow B0 5 1 v' ([48] : List UInt8).length (bV [48])) := hown'
  clear hgrow hown'
  go_wp2
  go_ret
  exact ⟨⟨v', [48], rfl, Dm.dec_zero, HO.out⟩, hb⟩

theorem appendDecimal_anyB (B0 : Nat) (sa : Option Addr) (sc : Nat) (v : Value) (n : Nat) (w : World) (hv : isN w v n) (hL : fits n 10000) (htab : TB w) (hB0 : B0 ≤ w.heap.size) (hvB : ∀ g, v.ownBlock = some g → g < B0) (hsv : w.ownsRow B0 5 1 (.slice sa 0 sc) 0 []) :
    Calls Tryd.prog 51 #[v, .slice sa 0 sc] w fun e w' => (∃ (v' : Value) (l : List UInt8), e = .returned v' ∧ Dm.isDec l n ∧ w'.ownsRow B0 5 1 v' l.length (bV l)) ∧ Below B0 w w' := by
  by_cases h : n = 0
  · subst h
    exact appendDecimal_zeroB B0 sa sc v w hv hB0 hsv
  · exact appendDecimal_posB B0 sa sc v n w hv h hL.out htab hB0 hvB hsv

theorem appendDecimal_any (v : Value) (n : Nat) (w : World) (hv : isN w v n) (hL : fits n 10000) (htab : TB w) :
    Calls Tryd.prog 51 #[v, .slice none 0 0] w fun e w' => (∃ (v' : Value) (l : List UInt8), e = .returned v' ∧ Dm.isDec l n ∧ w'.ownsRow w.heap.size 5 1 v' l.length (bV l)) ∧ Below w.heap.size w w' := by
  exact appendDecimal_anyB w.heap.size none 0 v n w hv hL htab (Nat.le_refl _) (fun g hg => by obtain ⟨xs, hr, _⟩ := hv; exact (World.ownsRow.lt hr g hg).2) (World.ownsRow_nil _ _ _ _)

set_option maxHeartbeats 1600000 in
theorem decimal_any (v : Value) (n : Nat) (w : World) (hv : isN w v n) (hL : fits n 10000) (htab : TB w) :
    Calls Tryd.prog 91 #[v] w fun e w' => (∃ s : ByteArray, e = .returned (.string s) ∧ Dm.isDec s.data.toList n) ∧ Below w.heap.size w w' := by
  have HV : Hid (isN w v n) := hv
  have HT : Hid (TB w) := htab
  clear hv htab
  go_enter Tryd.func91, Tryd.ntmps91
  go_wp2_with fail
  refine (appendDecimal_any v n _ HV.out hL HT.out).mono ?_
  rintro e w1 ⟨⟨v', l, rfl, hd, ho⟩, hb⟩
  have hlp : 0 < l.length := List.length_pos_iff.2 hd.1
  obtain ⟨g, cap, rfl, hg, hgs, hc, hcm⟩ := own_some ho (by omega)
  have hcv := own_string l rfl ho
  have HD : Hid (Dm.isDec l n) := hd
  clear ho hd HV HT hL
  obtain ⟨S, hS⟩ : ∃ S : ByteArray, S = ⟨l.toArray⟩ := ⟨_, rfl⟩
  have HS : Hid (S.data.toList = l) := by rw [hS]; show l.toArray.toList = l; simp
  rw [← hS] at hcv
  clear hS
  go_wp2
  go_ret
  exact ⟨⟨S, rfl, by rw [HS.out]; exact HD.out⟩, hb⟩

end Go.Proofs.YtaggfbffdbompaaDoor
