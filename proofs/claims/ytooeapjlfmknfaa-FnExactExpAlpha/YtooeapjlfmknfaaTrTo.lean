/-
  Copies of parts: the laws' own.
-/
import Derived.Test.YtooeapjlfmknfaaTrB
namespace Go.Proofs.Ytooeapjlfmknfaa.Tr
set_option maxRecDepth 100000
set_option linter.unusedVariables false
set_option linter.unusedSimpArgs false
open Go.RowKit Go.Deep
attribute [local go_sem ↓] Go.wp_at_zero Go.wp_at_succ

theorem infoStr : (Try.prog.info? 9).map (fun i => (i.zero, i.size, i.bytes)) = some (some (.string ⟨#[]⟩), 1, 16) := by kernel_rfl

set_option maxHeartbeats 400000 in
theorem toStringS_any (ns : List ByteArray) (ao : Option Addr) (cap : Nat) (w : World) (base : Nat) (hS : Strs w base (.slice ao ns.length cap) ns) (hl : wtN ns ≤ 1048576) :
    Calls Try.prog 18 #[.slice ao ns.length cap] w fun e w' => (∃ ao' cap', e = .returned (.slice ao' ns.length cap') ∧ Strs w' w.heap.size (.slice ao' ns.length cap') ns) ∧ Below w.heap.size w w' := by
  have HS : Hid (Strs w base (.slice ao ns.length cap) ns) := hS
  have hlen := wtN_len ns
  have hmk := run_make_row' (P := Try.prog) 29 9 (.string ⟨#[]⟩) 16 Try.underlying29 infoStr rfl .i64 .i64 ns.length (by omega) (by omega)
  clear hS
  go_enter Try.func18, Try.ntmps18
  go_wp2_with fail
  go_loopw [4] (fun b wr => ∃ (i : Nat) (cs : Array Value), b = .int .i64 i ∧ i ≤ ns.length ∧ boxAt wr w.heap.size cs 9 ∧ cs.size = ns.length ∧ Hid (∀ j (h : j < ns.length), j < i → cs[j]? = some (.string ns[j])) ∧ Below w.heap.size w wr)
    (fun b _ => (ns.length : Int).toNat - (intOf b).toNat)
  case atStart => exact ⟨0, _, by go_num, Nat.zero_le _, boxAt_new _ _ _, by simp [size_madeCells], fun j h h0 => absurd h0 (Nat.not_lt_zero _), belA (Below.refl _ _)⟩
  case round =>
    obtain ⟨i, cs, rfl, hi, hbox, hsz, hv, hb⟩ := hrel
    have HB : Hid _ := hb
    have HX : Hid (boxAt wr w.heap.size cs 9) := hbox
    clear hb
    by_cases hlt : i < ns.length
    · obtain ⟨b, o, rfl, hbb, hc⟩ := Strs.at (Strs.on HS.out (Stays.below HB.out base)) i hlt
      have hblt := cell_lt hc
      obtain ⟨x, hxx⟩ : ∃ x, ns[i] = x := ⟨_, rfl⟩
      have HXX : Hid (ns[i] = x) := hxx
      rw [hxx] at hc
      have f0 := hbox.frozen i
      have hc0 : ∃ y, cs[i]? = some y := ⟨cs[i]'(by omega), by simp [show i < cs.size from by omega]⟩
      obtain ⟨y, hy⟩ := hc0
      have q0 := hbox.cell i hy
      have hlt2 : (i : Int) < (ns.length : Int) := by omega
      clear hxx hbox
      go_wp2
      go_roundw
      case rel =>
        refine ⟨i + 1, cs.setIfInBounds i (.string x), by go_num, by omega, box_set HX.out i _, by simp; omega, ?_, belS HB.out (by exact Nat.le_refl _)⟩
        intro j h hj
        rw [Array.getElem?_setIfInBounds]
        by_cases e : i = j
        · subst e; rw [if_pos rfl, if_pos (by omega), HXX.out]
        · rw [if_neg e]; exact hv.out j h (by omega)
      case measure => simp [intOf]; omega
    · have hie : i = ns.length := by omega
      subst hie
      have HR : Hid (Strs wr w.heap.size (.slice (some ⟨w.heap.size, 0, none⟩) ns.length ns.length) ns) :=
        ⟨_, _, rfl, fun j h => ⟨_, _, rfl, Nat.le_refl _, by rw [Nat.zero_add]; exact HX.out.cell j (hv.out j h h)⟩⟩
      clear hv
      go_wp2
      go_ret
      exact ⟨⟨_, _, rfl, HR.out⟩, HB.out⟩

theorem infoExp : (Try.prog.info? 35).map (fun i => (i.zero, i.size, i.bytes)) = some (some (.agg #[.int .i64 0, .string ⟨#[]⟩, .bool false, .slice none 0 0, .slice none 0 0]), 5, 80) := by kernel_rfl

/-- What is asked of the copy of a list of parts. -/
def ToOk (ts : List T) : Prop := ∀ (ao : Option Addr) (cap : Nat) (w : World) (base : Nat), Lies w base (.slice ao ts.length cap) ts → wts ts ≤ 1048576 →
    Calls Try.prog 6 #[.slice ao ts.length cap] w fun e w' => (∃ ao' cap', e = .returned (.slice ao' ts.length cap') ∧ Lies w' w.heap.size (.slice ao' ts.length cap') ts) ∧ Below w.heap.size w w'

set_option maxHeartbeats 1600000 in
theorem toExpCore_any (s : Int) (x : ByteArray) (r : Bool) (ns : List ByteArray) (ks : List T) (an : Option Addr) (cn : Nat) (ak : Option Addr) (ck : Nat) (w : World) (base : Nat)
    (hN : Strs w base (.slice an ns.length cn) ns) (hK : Lies w base (.slice ak ks.length ck) ks) (hn : wtN ns ≤ 1048576) (hk : wts ks ≤ 1048576) (ih : ToOk ks) :
    Calls Try.prog 11 #[.agg #[.int .i64 s, .string x, .bool r, .slice an ns.length cn, .slice ak ks.length ck]] w fun e w' => (∃ an' cn' ak' ck', e = .returned (.agg #[.int .i64 s, .string x, .bool r, .slice an' ns.length cn', .slice ak' ks.length ck']) ∧ Strs w' w.heap.size (.slice an' ns.length cn') ns ∧ Lies w' w.heap.size (.slice ak' ks.length ck') ks) ∧ Below w.heap.size w w' := by
  have HN : Hid (Strs w base (.slice an ns.length cn) ns) := hN
  have HK : Hid (Lies w base (.slice ak ks.length ck) ks) := hK
  have IH : Hid (ToOk ks) := ih
  clear hN hK ih
  go_enter Try.func11, Try.ntmps11
  go_wp2_with fail
  obtain ⟨V, hV, hBV, hsz, x0, x1, x2⟩ := boxes3 w #[Value.int .i64 s, Value.string x, Value.bool r, Value.slice an ns.length cn, Value.slice ak ks.length ck] #[Value.int .i64 0, Value.string ⟨#[]⟩, Value.bool false, Value.slice none 0 0, Value.slice none 0 0] #[Value.int .i64 s, Value.string x, Value.bool r, Value.slice none 0 0, Value.slice none 0 0] 31 35 35
  rw [← hV]
  have HBV : Hid (Below w.heap.size w V) := hBV
  have HSZ : Hid (V.heap.size = w.heap.size + 1 + 1 + 1) := hsz
  have X0 : Hid (boxAt V _ _ _) := x0
  have X1 : Hid (boxAt V _ _ _) := x1
  have X2 : Hid (boxAt V _ _ _) := x2
  clear hV hBV x0 x1 x2 hsz
  refine (toStringS_any ns an cn _ base (Strs.on HN.out (Stays.below HBV.out base)) hn).mono ?_
  rintro e w1 ⟨⟨an', cn', rfl, hs1⟩, hb1⟩
  have HB1 : Hid (Below w.heap.size w w1) := bel_go HBV.out hb1
  have Y0 : Hid (boxAt w1 _ _ _) := X0.out.on hb1
  have Y1 : Hid (boxAt w1 _ _ _) := X1.out.on hb1
  have Y2 : Hid (boxAt w1 _ _ _) := X2.out.on hb1
  have HS1 : Hid (Strs w1 (w.heap.size + 1 + 1 + 1) (.slice an' ns.length cn') ns) := by have := hs1; rw [HSZ.out] at this; exact this
  clear hs1 hb1 X0 X1 X2 HBV
  have k04 := keep_set (b' := w.heap.size + 1 + 1) (o' := 3) (u := .slice an' ns.length cn') (Y0.out.cell 4 rfl) (by omega)
  have f3 := Y2.out.frozen 3
  have q3 := Y2.out.cell 3 rfl
  have hlt := Y2.out.lt
  go_wp2_with fail
  obtain ⟨W, hW⟩ : ∃ W, w1.setCell ⟨w.heap.size + 1 + 1, 3, none⟩ (.slice an' ns.length cn') = W := ⟨_, rfl⟩
  have hgW : w1.grownBy W (some (w.heap.size + 1 + 1)) := by rw [← hW]; exact grown_set _ _ _ _
  have Z1 : Hid (boxAt W _ _ _) := Y1.out.grown hgW (by simp)
  have z2 := box_set Y2.out 3 (.slice an' ns.length cn')
  rw [hW] at z2
  have Z2 : Hid (boxAt W _ _ _) := z2
  clear z2
  have HSW : Hid (Strs W (w.heap.size + 1 + 1 + 1) (.slice an' ns.length cn') ns) := Strs.on HS1.out (stays_grown hgW (by omega))
  have HBW : Hid (Below w.heap.size w W) := grown_bel HB1.out hgW (by omega) (Nat.le_refl _)
  rw [hW] at k04 ⊢
  clear hW hgW Y0 Y1 Y2 HB1 HS1 f3 q3 hlt
  refine (IH.out ak ck _ base (Lies.on HK.out (Stays.below HBW.out base)) hk).mono ?_
  rintro e w2 ⟨⟨ak', ck', rfl, hl2⟩, hb2⟩
  have T1 : Hid (boxAt w2 _ _ _) := Z1.out.on hb2
  have T2 : Hid (boxAt w2 _ _ _) := Z2.out.on hb2
  have HS2 : Hid (Strs w2 (w.heap.size + 1 + 1 + 1) (.slice an' ns.length cn') ns) := Strs.on HSW.out (Stays.below hb2 _)
  have HL2 : Hid (Lies w2 (w.heap.size + 1 + 1 + 1) (.slice ak' ks.length ck') ks) := hl2.mono (by have := Z2.out.lt; omega)
  have HB2 : Hid (Below w.heap.size w w2) := bel_go HBW.out hb2
  clear hl2 hb2 Z1 Z2 HSW HBW k04
  have f4 := T2.out.frozen 4
  have q0 := T2.out.cell 0 rfl
  have q1 := T2.out.cell 1 rfl
  have q2 := T2.out.cell 2 rfl
  have q3 := T2.out.cell 3 rfl
  have q4 := T2.out.cell 4 rfl
  have g0 := T1.out.frozen 0
  have g1 := T1.out.frozen 1
  have g2 := T1.out.frozen 2
  have g3 := T1.out.frozen 3
  have g4 := T1.out.frozen 4
  have p0 := T1.out.cell 0 rfl
  have p1 := T1.out.cell 1 rfl
  have p2 := T1.out.cell 2 rfl
  have p3 := T1.out.cell 3 rfl
  have p4 := T1.out.cell 4 rfl
  have hlt := T2.out.lt
  go_wp2
  simp only [bodyPost]
  refine ⟨trivial, _, ?_, ⟨_, _, _, _, rfl, Strs.mono (Strs.on HS2.out ?_) (by omega), Lies.mono (Lies.on HL2.out ?_) (by omega)⟩, ?_⟩
  · simp only [results, Try.results11]
    go_simp
  · (repeat' first | with_reducible refine Stays.setAfter ?_ ?_ ?_ _ | with_reducible exact Stays.refl _ _) <;> first | (simp only [World.size_setCell]; with_reducible exact Nat.le_refl _) | omega | (dsimp only; omega)
  · (repeat' first | with_reducible refine Stays.setAfter ?_ ?_ ?_ _ | with_reducible exact Stays.refl _ _) <;> first | (simp only [World.size_setCell]; with_reducible exact Nat.le_refl _) | omega | (dsimp only; omega)
  · exact belS (belS (belS (belS (belS (belS HB2.out (by show _ ≤ w.heap.size + 1 + 1; omega)) (Nat.le_succ _)) (Nat.le_succ _)) (Nat.le_succ _)) (Nat.le_succ _)) (Nat.le_succ _)

set_option maxHeartbeats 1600000 in
theorem toExpCoreS_any : ∀ (n : Nat) (ts : List T), wts ts < n → ToOk ts := by
  intro n
  induction n with
  | zero => intro ts h; exact absurd h (Nat.not_lt_zero _)
  | succ n ihn =>
    intro ts hts ao cap w base hL hw
    have HL : Hid (Lies w base (.slice ao ts.length cap) ts) := hL
    have IH : Hid (∀ i (h : i < ts.length), ToOk ts[i].kids) := fun i h => ihn _ (by have := kids_lt h; omega)
    have hlen := wts_len ts
    obtain ⟨i0, hi0, hz0, hz1, hz2⟩ := info_parts infoExp
    clear hL ihn
    go_enter Try.func6, Try.ntmps6
    go_wp2_with (at_make; refine wpList_make_full w rfl _ _ 25 rfl w.heap.size 35 i0 _ 5 Try.underlying25 hi0 hz0 hz1 .i64 .i64 _ _ ts.length rfl rfl rfl rfl (by rw [hz2]; omega) (by unfold maxLen; omega) (Nat.le_refl _) ?_)
    intro w1 hown hgrow
    obtain ⟨cs1, hbox1, hsz1, _⟩ := box_of_row hown rfl
    have HB1 : Hid (Below w.heap.size w w1) := ⟨hgrow.os, hgrow.tape, hgrow.output, hgrow.size, fun k hk => hgrow.block k hk (by simp)⟩
    have hlt1 := hbox1.lt
    clear hown hgrow
    go_wp2_with fail
    go_loopw [4] (fun b wr => ∃ (i : Nat) (cs : Array Value) (NV KV : Nat → Value), b = .int .i64 i ∧ i ≤ ts.length ∧ boxAt wr w.heap.size cs 35 ∧ cs.size = ts.length * 5 ∧
        Hid (∀ j (h : j < ts.length), j < i → cs[j * 5]? = some (.int .i64 ts[j].sort) ∧ cs[j * 5 + 1]? = some (.string ts[j].text) ∧ cs[j * 5 + 2]? = some (.bool ts[j].rest) ∧ cs[j * 5 + 3]? = some (NV j) ∧ cs[j * 5 + 4]? = some (KV j) ∧ LiesAt wr (w.heap.size + 1) ts[j] (NV j) (KV j)) ∧ Below w.heap.size w wr)
      (fun b _ => (ts.length : Int).toNat - (intOf b).toNat)
    case atStart => exact ⟨0, cs1, fun _ => .nilIface, fun _ => .nilIface, by go_num, Nat.zero_le _, hbox1, hsz1, fun j h h0 => absurd h0 (Nat.not_lt_zero _), HB1.out⟩
    case round =>
      obtain ⟨i, cs, NV, KV, rfl, hi, hbox, hsz, hv, hb⟩ := hrel
      have HB : Hid _ := hb
      have HX : Hid (boxAt wr w.heap.size cs 35) := hbox
      clear hb
      by_cases hlt : i < ts.length
      · obtain ⟨b, o, nv, kv, rfl, hbb, c0, c1, c2, c3, c4, hat⟩ := (Lies.on HL.out (Stays.below HB.out base)).at i hlt
        obtain ⟨an, cn, rfl⟩ := hat.names.slice
        obtain ⟨ak, ck, rfl⟩ := hat.kids.slice
        have HAT : Hid _ := hat
        have IHK : Hid _ := IH.out i hlt
        have he := wt_eq ts[i]
        have hg := wts_get ts i hlt
        obtain ⟨t, ht⟩ : ∃ t, ts[i] = t := ⟨_, rfl⟩
        have HT : Hid (ts[i] = t) := ht
        rw [ht] at c0 c1 c2 c3 c4 HAT IHK he hg
        have hlt2 : (i : Int) < (ts.length : Int) := by omega
        clear hat ht hbox
        go_wp2_with fail
        refine (toExpCore_any t.sort t.text t.rest t.names t.kids an cn ak ck _ base HAT.out.names HAT.out.kids (by omega) (by omega) IHK.out).mono ?_
        rintro e w2 ⟨⟨an', cn', ak', ck', rfl, hs2, hl2⟩, hb2⟩
        have HB2 : Hid (Below w.heap.size w w2) := HB.out.trans (hb2.mono HB.out.size)
        have X2 : Hid (boxAt w2 w.heap.size cs 35) := HX.out.on hb2
        have hlt3 : w.heap.size + 1 ≤ wr.heap.size := HX.out.lt
        have HAT2 : Hid (LiesAt w2 (w.heap.size + 1) t (.slice an' t.names.length cn') (.slice ak' t.kids.length ck')) := ⟨hs2.mono hlt3, hl2.mono hlt3⟩
        have HV : Hid (∀ j (h : j < ts.length), j < i → cs[j * 5]? = some (.int .i64 ts[j].sort) ∧ cs[j * 5 + 1]? = some (.string ts[j].text) ∧ cs[j * 5 + 2]? = some (.bool ts[j].rest) ∧ cs[j * 5 + 3]? = some (NV j) ∧ cs[j * 5 + 4]? = some (KV j) ∧ LiesAt w2 (w.heap.size + 1) ts[j] (NV j) (KV j)) :=
          fun j h hj => by obtain ⟨h0, h1, h2, h3, h4, h5⟩ := hv.out j h hj; exact ⟨h0, h1, h2, h3, h4, h5.on (Stays.below hb2 _)⟩
        clear hs2 hl2 hb2 hv HB HX c0 c1 c2 c3 c4 HAT IHK he hg
        have hex : ∀ k, k < 5 → ∃ y, cs[i * 5 + k]? = some y := fun k hk => ⟨cs[i * 5 + k]'(by omega), by simp [show i * 5 + k < cs.size by omega]⟩
        obtain ⟨y0, e0⟩ := hex 0 (by omega)
        obtain ⟨y1, e1⟩ := hex 1 (by omega)
        obtain ⟨y2, e2⟩ := hex 2 (by omega)
        obtain ⟨y3, e3⟩ := hex 3 (by omega)
        obtain ⟨y4, e4⟩ := hex 4 (by omega)
        have f0 := X2.out.frozen (i * 5)
        have f1 := X2.out.frozen (i * 5 + 1)
        have f2 := X2.out.frozen (i * 5 + 2)
        have f3 := X2.out.frozen (i * 5 + 3)
        have f4 := X2.out.frozen (i * 5 + 4)
        have q0 := X2.out.cell (i * 5) e0
        have q1 := X2.out.cell (i * 5 + 1) e1
        have q2 := X2.out.cell (i * 5 + 2) e2
        have q3 := X2.out.cell (i * 5 + 3) e3
        have q4 := X2.out.cell (i * 5 + 4) e4
        clear hex e0 e1 e2 e3 e4
        go_wp2
        go_roundw
        case rel =>
          obtain ⟨hz5, g0, g1, g2, g3, g4, gold⟩ := get_set5 hsz hlt (.int .i64 t.sort) (.string t.text) (.bool t.rest) (.slice an' t.names.length cn') (.slice ak' t.kids.length ck')
          refine ⟨i + 1, _, fun j => if j = i then .slice an' t.names.length cn' else NV j, fun j => if j = i then .slice ak' t.kids.length ck' else KV j, by go_num, by omega, box_set (box_set (box_set (box_set (box_set X2.out (i * 5) _) (i * 5 + 1) _) (i * 5 + 2) _) (i * 5 + 3) _) (i * 5 + 4) _, hz5, ?_,
            belS (belS (belS (belS (belS HB2.out (Nat.le_refl _)) (Nat.le_refl _)) (Nat.le_refl _)) (Nat.le_refl _)) (Nat.le_refl _)⟩
          have hst : Stays (w.heap.size + 1) w2 (((((w2.setCell ⟨w.heap.size, i * 5, none⟩ (.int .i64 t.sort)).setCell ⟨w.heap.size, i * 5 + 1, none⟩ (.string t.text)).setCell ⟨w.heap.size, i * 5 + 2, none⟩ (.bool t.rest)).setCell ⟨w.heap.size, i * 5 + 3, none⟩ (.slice an' t.names.length cn')).setCell ⟨w.heap.size, i * 5 + 4, none⟩ (.slice ak' t.kids.length ck')) := by
            refine Stays.trans (Stays.trans (Stays.trans (Stays.trans (Stays.set ?_ _) (Stays.set ?_ _) ?_) (Stays.set ?_ _) ?_) (Stays.set ?_ _) ?_) (Stays.set ?_ _) ?_
            all_goals first | exact Nat.lt_succ_self _ | (simp only [World.size_setCell]; exact Nat.le_refl _)
          intro j h hj
          by_cases e : j = i
          · subst e
            simp only [if_true]
            rw [HT.out]
            exact ⟨g0, g1, g2, g3, g4, HAT2.out.on hst⟩
          · simp only [if_neg e]
            obtain ⟨h0, h1, h2, h3, h4, h5⟩ := HV.out j h (by omega)
            have hji : j < i := by omega
            exact ⟨(gold j 0 hji (by omega)).trans h0, (gold j 1 hji (by omega)).trans h1, (gold j 2 hji (by omega)).trans h2, (gold j 3 hji (by omega)).trans h3, (gold j 4 hji (by omega)).trans h4, h5.on hst⟩
        case measure => simp [intOf]; omega
      · have hie : i = ts.length := by omega
        subst hie
        have HR : Hid (Lies wr w.heap.size (.slice (some ⟨w.heap.size, 0, none⟩) ts.length ts.length) ts) :=
          Lies.row _ _ ts w.heap.size 0 NV KV (Nat.le_refl _) (fun _ => ⟨rfl, Nat.le_refl _⟩)
            (fun j h => by obtain ⟨h0, h1, h2, h3, h4, _⟩ := hv.out j h h; rw [Nat.zero_add]; exact ⟨HX.out.cell _ h0, HX.out.cell _ h1, HX.out.cell _ h2, HX.out.cell _ h3, HX.out.cell _ h4⟩)
            (fun j h => ((hv.out j h h).2.2.2.2.2.mono (Nat.le_succ _)).names) (fun j h => ((hv.out j h h).2.2.2.2.2.mono (Nat.le_succ _)).kids)
        clear hv
        go_wp2
        go_ret
        exact ⟨⟨_, _, rfl, HR.out⟩, HB.out⟩

end Go.Proofs.Ytooeapjlfmknfaa.Tr
