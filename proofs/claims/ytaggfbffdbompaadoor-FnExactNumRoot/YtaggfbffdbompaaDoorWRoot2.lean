/-
  Contracts of reading a whole number that has a root, and of the program's NumRoot.
-/
import Derived.Test.YtaggfbffdbompaaDoorWhole4
import Derived.Test.YtaggfbffdbompaaDoorWRoot1
namespace Go.Proofs.YtaggfbffdbompaaDoor
set_option maxRecDepth 100000
set_option linter.unusedVariables false
set_option linter.unusedSimpArgs false
open Go.RowKit
attribute [local go_sem ↓] Go.wp_at_zero Go.wp_at_succ

/-- Two numbers and a code. -/
def twoNums (C : Bool) (U D : ByteArray) (C2 : Bool) (U2 D2 : ByteArray) (K : Int) : Ending := .returned (.tuple #[.agg #[.bool C, .string U, .string D], .agg #[.bool C2, .string U2, .string D2], .int .i64 K])

def RtErr (neg : Bool) (up dn : ByteArray) (c : Int) : Prop :=
  ∀ w : World, Calls Tryd.prog 45 #[.agg #[.bool neg, .string up, .string dn]] w fun e w' => e = .returned (.tuple #[.slice none 0 0, .iface 75 (.agg #[.int .i64 c])]) ∧ Below w.heap.size w w'
def RtYes (neg : Bool) (up dn : ByteArray) (u : Nat) : Prop :=
  ∀ w : World, Calls Tryd.prog 45 #[.agg #[.bool neg, .string up, .string dn]] w fun e w' => (∃ v, e = .returned (.tuple #[v, .nilIface]) ∧ isN w' v u) ∧ Below w.heap.size w w'

theorem box1 (w : World) (c0 : Array Value) (t0 : Nat) : ∃ W, W = w.alloc (Obj.cells c0 t0) ∧ Below w.heap.size w W ∧ boxAt W w.heap.size c0 t0 :=
  ⟨_, rfl, (Below.refl _ _).alloc (Nat.le_refl _) _, boxAt_new _ _ _⟩

set_option maxHeartbeats 1600000 in
theorem rootedOf_no (neg : Bool) (up dn : ByteArray) (hu : up.size ≤ maxLen) (hd : dn.size ≤ maxLen) (H1 : Hid (okN neg up.data.toList dn.data.toList = false)) : RtErr neg up dn 1 := by
  intro w
  go_enter Tryd.func45, Tryd.ntmps45
  go_wp2_with fail
  obtain ⟨V, hV, hBV, x0⟩ := box1 w #[Value.bool neg, Value.string up, Value.string dn] 25
  rw [← hV]
  have HBV : Hid (Below w.heap.size w V) := hBV
  have Z0 : Hid (boxAt V _ _ _) := x0
  clear hV hBV x0
  refine (implNumOk_b neg up dn _ _ hu hd H1.out).mono ?_
  rintro e w3 ⟨rfl, hb3⟩
  have HB3 : Hid (Below w.heap.size w w3) := HBV.out.trans (hb3.mono HBV.out.size)
  have Y0 : Hid (boxAt w3 _ _ _) := Z0.out.on hb3
  clear hb3 Z0 HBV
  go_wp2
  simp only [bodyPost]
  refine ⟨trivial, _, ?_, rfl, HB3.out⟩
  simp [results, Tryd.results45, go_sem]

set_option maxHeartbeats 1600000 in
theorem rootedOf_nw1 (neg : Bool) (up dn : ByteArray) (hu : up.size ≤ maxLen) (hd : dn.size ≤ maxLen) (H1 : Hid (okN neg up.data.toList dn.data.toList = true)) (e1 : (dn.toList == [49]) = false) : RtErr neg up dn 4 := by
  intro w
  go_enter Tryd.func45, Tryd.ntmps45
  go_wp2_with fail
  obtain ⟨V, hV, hBV, x0⟩ := box1 w #[Value.bool neg, Value.string up, Value.string dn] 25
  rw [← hV]
  have HBV : Hid (Below w.heap.size w V) := hBV
  have Z0 : Hid (boxAt V _ _ _) := x0
  clear hV hBV x0
  refine (implNumOk_b neg up dn _ _ hu hd H1.out).mono ?_
  rintro e w3 ⟨rfl, hb3⟩
  have HB3 : Hid (Below w.heap.size w w3) := HBV.out.trans (hb3.mono HBV.out.size)
  have Y0 : Hid (boxAt w3 _ _ _) := Z0.out.on hb3
  clear hb3 Z0 HBV
  have k00 := Y0.out.cell 0 rfl
  have k01 := Y0.out.cell 1 rfl
  have k02 := Y0.out.cell 2 rfl
  go_wp2_with fail
  refine (isWhole_any neg up dn _ _ e1).mono ?_
  rintro e w4 ⟨rfl, hb4⟩
  have HB4 : Hid (Below w.heap.size w w4) := HB3.out.trans (hb4.mono HB3.out.size)
  have X0 : Hid (boxAt w4 _ _ _) := Y0.out.on hb4
  clear hb4 Y0 HB3 k00 k01 k02
  have k00 := X0.out.cell 0 rfl
  have k01 := X0.out.cell 1 rfl
  go_wp2
  simp only [bodyPost]
  refine ⟨trivial, _, ?_, rfl, HB4.out⟩
  simp [results, Tryd.results45, go_sem]

set_option maxHeartbeats 1600000 in
theorem rootedOf_neg (up dn : ByteArray) (hu : up.size ≤ maxLen) (hd : dn.size ≤ maxLen) (H1 : Hid (okN true up.data.toList dn.data.toList = true)) (e1 : (dn.toList == [49]) = true) : RtErr true up dn 4 := by
  intro w
  go_enter Tryd.func45, Tryd.ntmps45
  go_wp2_with fail
  obtain ⟨V, hV, hBV, x0⟩ := box1 w #[Value.bool true, Value.string up, Value.string dn] 25
  rw [← hV]
  have HBV : Hid (Below w.heap.size w V) := hBV
  have Z0 : Hid (boxAt V _ _ _) := x0
  clear hV hBV x0
  refine (implNumOk_b true up dn _ _ hu hd H1.out).mono ?_
  rintro e w3 ⟨rfl, hb3⟩
  have HB3 : Hid (Below w.heap.size w w3) := HBV.out.trans (hb3.mono HBV.out.size)
  have Y0 : Hid (boxAt w3 _ _ _) := Z0.out.on hb3
  clear hb3 Z0 HBV
  have k00 := Y0.out.cell 0 rfl
  have k01 := Y0.out.cell 1 rfl
  have k02 := Y0.out.cell 2 rfl
  go_wp2_with fail
  refine (isWhole_any true up dn _ _ e1).mono ?_
  rintro e w4 ⟨rfl, hb4⟩
  have HB4 : Hid (Below w.heap.size w w4) := HB3.out.trans (hb4.mono HB3.out.size)
  have X0 : Hid (boxAt w4 _ _ _) := Y0.out.on hb4
  clear hb4 Y0 HB3 k00 k01 k02
  have k00 := X0.out.cell 0 rfl
  have k01 := X0.out.cell 1 rfl
  go_wp2
  simp only [bodyPost]
  refine ⟨trivial, _, ?_, rfl, HB4.out⟩
  simp [results, Tryd.results45, go_sem]

set_option maxHeartbeats 1600000 in
theorem rootedOf_yes (up dn : ByteArray) (u : Nat) (hu : up.size ≤ maxLen) (hd : dn.size ≤ maxLen) (H1 : Hid (okN false up.data.toList dn.data.toList = true)) (e1 : (dn.toList == [49]) = true) (s1 : up.size ≤ 60) (D1 : Hid (Dm.isDec up.data.toList u)) : RtYes false up dn u := by
  intro w
  go_enter Tryd.func45, Tryd.ntmps45
  go_wp2_with fail
  obtain ⟨V, hV, hBV, x0⟩ := box1 w #[Value.bool false, Value.string up, Value.string dn] 25
  rw [← hV]
  have HBV : Hid (Below w.heap.size w V) := hBV
  have Z0 : Hid (boxAt V _ _ _) := x0
  clear hV hBV x0
  refine (implNumOk_b false up dn _ _ hu hd H1.out).mono ?_
  rintro e w3 ⟨rfl, hb3⟩
  have HB3 : Hid (Below w.heap.size w w3) := HBV.out.trans (hb3.mono HBV.out.size)
  have Y0 : Hid (boxAt w3 _ _ _) := Z0.out.on hb3
  clear hb3 Z0 HBV
  have k00 := Y0.out.cell 0 rfl
  have k01 := Y0.out.cell 1 rfl
  have k02 := Y0.out.cell 2 rfl
  go_wp2_with fail
  refine (isWhole_any false up dn _ _ e1).mono ?_
  rintro e w4 ⟨rfl, hb4⟩
  have HB4 : Hid (Below w.heap.size w w4) := HB3.out.trans (hb4.mono HB3.out.size)
  have X0 : Hid (boxAt w4 _ _ _) := Y0.out.on hb4
  clear hb4 Y0 HB3 k00 k01 k02
  have k00 := X0.out.cell 0 rfl
  have k01 := X0.out.cell 1 rfl
  go_wp2_with fail
  refine (natOfDecimal_any up _ (by omega) D1.out.2.1).mono ?_
  rintro e w5 ⟨⟨v5, rfl, h5⟩, hb5⟩
  rw [D1.out.2.2.1] at h5
  have H5 : Hid (isN w5 v5 u) := h5
  have HB5 : Hid (Below w.heap.size w w5) := HB4.out.trans (hb5.mono HB4.out.size)
  clear h5 hb5 HB4 X0 k00 k01
  go_wp2
  simp only [bodyPost]
  refine ⟨trivial, _, ?_, ⟨v5, rfl, H5.out⟩, HB5.out⟩
  simp [results, Tryd.results45, go_sem]

set_option maxHeartbeats 1600000 in
theorem iNumRoot_err (neg : Bool) (up dn : ByteArray) (c : Int) (w : World) (HR : Hid (RtErr neg up dn c)) (hg : EB w) :
    Calls Tryd.prog 20 #[.agg #[.bool neg, .string up, .string dn]] w fun e w' => e = twoNums false ⟨#[]⟩ ⟨#[]⟩ false ⟨#[]⟩ ⟨#[]⟩ c ∧ Below w.heap.size w w' := by
  unfold twoNums
  have HG : Hid (EB w) := hg
  clear hg
  go_enter Tryd.func20, Tryd.ntmps20
  go_wp2_with fail
  obtain ⟨V, hV, hBV, x0, x1, x2⟩ := boxes3 w #[Value.bool neg, Value.string up, Value.string dn] #[Value.bool false, Value.string ⟨#[]⟩, Value.string ⟨#[]⟩] #[Value.bool false, Value.string ⟨#[]⟩, Value.string ⟨#[]⟩] 25 25 25
  rw [← hV]
  have HBV : Hid (Below w.heap.size w V) := hBV
  have Z0 : Hid (boxAt V _ _ _) := x0
  have Z2 : Hid (boxAt V _ _ _) := x1
  have Z3 : Hid (boxAt V _ _ _) := x2
  clear hV hBV x0 x1 x2
  refine (HR.out _).mono ?_
  rintro e w3 ⟨rfl, hb3⟩
  have HB3 : Hid (Below w.heap.size w w3) := HBV.out.trans (hb3.mono HBV.out.size)
  have Y0 : Hid (boxAt w3 _ _ _) := Z0.out.on hb3
  have Y2 : Hid (boxAt w3 _ _ _) := Z2.out.on hb3
  have Y3 : Hid (boxAt w3 _ _ _) := Z3.out.on hb3
  clear hb3 Z0 Z2 Z3 HBV HR
  go_wp2_with fail
  refine (codeOf_reason c _ (HG.out.on HB3.out)).mono ?_
  rintro e w6 ⟨rfl, hb6⟩
  have HB9 : Hid (Below w.heap.size w w6) := HB3.out.trans (hb6.mono HB3.out.size)
  have U0 : Hid (boxAt w6 _ _ _) := Y0.out.on hb6
  have U2 : Hid (boxAt w6 _ _ _) := Y2.out.on hb6
  have U3 : Hid (boxAt w6 _ _ _) := Y3.out.on hb6
  clear hb6 Y0 Y2 Y3 HB3
  have q00 := U2.out.cell 0 rfl
  have f00 := U2.out.frozen 0
  have q01 := U2.out.cell 1 rfl
  have f01 := U2.out.frozen 1
  have q02 := U2.out.cell 2 rfl
  have f02 := U2.out.frozen 2
  have hl0 := U2.out.lt
  have q10 := U3.out.cell 0 rfl
  have f10 := U3.out.frozen 0
  have q11 := U3.out.cell 1 rfl
  have f11 := U3.out.frozen 1
  have q12 := U3.out.cell 2 rfl
  have f12 := U3.out.frozen 2
  have hl1 := U3.out.lt
  go_wp2
  simp only [bodyPost]
  refine ⟨trivial, _, ?_, rfl, ?_⟩
  · simp only [results, Tryd.results20]
    go_simp
  · (repeat' first | (with_reducible exact HB9.out) | (with_reducible refine bel_set0 ?_ ?_) | (with_reducible refine bel_alloc0 ?_) | (dsimp only; omega))

set_option maxHeartbeats 2000000 in
theorem iNumRoot_yes (neg : Bool) (up dn : ByteArray) (u s : Nat) (w : World) (HR : Hid (RtYes neg up dn u)) (hs : Dm.isRoot u s) (e1 : fits u 7) (s1 : up.size ≤ 60) (htab : TB w) :
    Calls Tryd.prog 20 #[.agg #[.bool neg, .string up, .string dn]] w fun e w' => e = twoNums false (decS s) ⟨#[49]⟩ false (decS (u - s * s)) ⟨#[49]⟩ 0 ∧ Below w.heap.size w w' := by
  unfold twoNums
  have HT : Hid (TB w) := htab
  have HSR : Hid (Dm.isRoot u s) := hs
  have hsq : s * s ≤ u := hs.1
  have hsu : s ≤ u := by
    rcases Nat.eq_zero_or_pos s with h | h
    · omega
    · exact Nat.le_trans (Nat.le_mul_of_pos_left s h) hsq
  have f1 : fits u 10000 := e1.mono (Nat.le_refl _) (by omega)
  have fs : fits s 10000 := f1.mono hsu (Nat.le_refl _)
  have fl : fits (u - s * s) 10000 := f1.mono (Nat.sub_le _ _) (Nat.le_refl _)
  have fu : fits u 100 := e1.mono (Nat.le_refl _) (by omega)
  obtain ⟨S1, hS1⟩ : ∃ S, S = decS s := ⟨_, rfl⟩
  obtain ⟨S2, hS2⟩ : ∃ S, S = decS (u - s * s) := ⟨_, rfl⟩
  rw [← hS1, ← hS2]
  have HN : Hid (∀ (a : Option Addr) (l c k : Nat) (W : World), isN W (.slice a l c) s → k ≤ 60 → TB W → Calls Tryd.prog 27 #[.agg #[.bool false, .slice a l c], .int .i64 k] W fun e w' => e = .returned (.agg #[.bool false, .string S1, .string ⟨#[49]⟩]) ∧ Below W.heap.size W w') := by
    intro a l c k W hn hk ht
    rw [hS1]; exact numOfWhole_any false a l c _ k W hn fs (by omega) ht
  have HM : Hid (∀ (a : Option Addr) (l c k : Nat) (W : World), isN W (.slice a l c) (u - s * s) → k ≤ 60 → TB W → Calls Tryd.prog 27 #[.agg #[.bool false, .slice a l c], .int .i64 k] W fun e w' => e = .returned (.agg #[.bool false, .string S2, .string ⟨#[49]⟩]) ∧ Below W.heap.size W w') := by
    intro a l c k W hn hk ht
    rw [hS2]; exact numOfWhole_any false a l c _ k W hn fl (by omega) ht
  have HSQ : Hid (s * s ≤ u) := hsq
  clear htab hS1 hS2 hs hsq hsu
  go_enter Tryd.func20, Tryd.ntmps20
  go_wp2_with fail
  obtain ⟨V, hV, hBV, x0, x1, x2⟩ := boxes3 w #[Value.bool neg, Value.string up, Value.string dn] #[Value.bool false, Value.string ⟨#[]⟩, Value.string ⟨#[]⟩] #[Value.bool false, Value.string ⟨#[]⟩, Value.string ⟨#[]⟩] 25 25 25
  rw [← hV]
  have HBV : Hid (Below w.heap.size w V) := hBV
  have Z0 : Hid (boxAt V _ _ _) := x0
  have Z2 : Hid (boxAt V _ _ _) := x1
  have Z3 : Hid (boxAt V _ _ _) := x2
  clear hV hBV x0 x1 x2
  refine (HR.out _).mono ?_
  rintro e w3 ⟨⟨v3, rfl, h3⟩, hb3⟩
  obtain ⟨a3, l3, c3, rfl⟩ := isN_slice h3
  have H3 : Hid (isN w3 (.slice a3 l3 c3) u) := h3
  have HB3 : Hid (Below w.heap.size w w3) := HBV.out.trans (hb3.mono HBV.out.size)
  have Y0 : Hid (boxAt w3 _ _ _) := Z0.out.on hb3
  have Y2 : Hid (boxAt w3 _ _ _) := Z2.out.on hb3
  have Y3 : Hid (boxAt w3 _ _ _) := Z3.out.on hb3
  clear h3 hb3 Z0 Z2 Z3 HBV HR
  go_wp2_with fail
  refine (root_any _ u s _ H3.out HSR.out fu).mono ?_
  rintro e w4 ⟨⟨v4, rfl, h4⟩, hb4⟩
  obtain ⟨a4, l4, c4, rfl⟩ := isN_slice h4
  have H4 : Hid (isN w4 (.slice a4 l4 c4) s) := h4
  have H34 : Hid (isN w4 (.slice a3 l3 c3) u) := isN_below H3.out hb4
  have HB4 : Hid (Below w.heap.size w w4) := HB3.out.trans (hb4.mono HB3.out.size)
  have X0 : Hid (boxAt w4 _ _ _) := Y0.out.on hb4
  have X2 : Hid (boxAt w4 _ _ _) := Y2.out.on hb4
  have X3 : Hid (boxAt w4 _ _ _) := Y3.out.on hb4
  clear h4 hb4 H3 Y0 Y2 Y3 HB3
  go_wp2_with fail
  refine (times_any _ _ s s _ H4.out H4.out fs.out fs.out).mono ?_
  rintro e w5 ⟨⟨v5, rfl, h5⟩, hb5⟩
  have H5 : Hid (isN w5 v5 (s * s)) := h5
  have H45 : Hid (isN w5 (.slice a4 l4 c4) s) := isN_below H4.out hb5
  have H35 : Hid (isN w5 (.slice a3 l3 c3) u) := isN_below H34.out hb5
  have HB5 : Hid (Below w.heap.size w w5) := HB4.out.trans (hb5.mono HB4.out.size)
  have U0 : Hid (boxAt w5 _ _ _) := X0.out.on hb5
  have U2 : Hid (boxAt w5 _ _ _) := X2.out.on hb5
  have U3 : Hid (boxAt w5 _ _ _) := X3.out.on hb5
  clear h5 hb5 H4 H34 X0 X2 X3 HB4
  go_wp2_with fail
  refine (minus_f _ _ u (s * s) _ H35.out H5.out HSQ.out f1).mono ?_
  rintro e w6 ⟨⟨v6, rfl, h6⟩, hb6⟩
  obtain ⟨a6, l6, c6, rfl⟩ := isN_slice h6
  have H6 : Hid (isN w6 (.slice a6 l6 c6) (u - s * s)) := h6
  have H46 : Hid (isN w6 (.slice a4 l4 c4) s) := isN_below H45.out hb6
  have HB6 : Hid (Below w.heap.size w w6) := HB5.out.trans (hb6.mono HB5.out.size)
  have T0 : Hid (boxAt w6 _ _ _) := U0.out.on hb6
  have T2 : Hid (boxAt w6 _ _ _) := U2.out.on hb6
  have T3 : Hid (boxAt w6 _ _ _) := U3.out.on hb6
  clear h6 hb6 H5 H45 H35 U0 U2 U3 HB5
  have k00 : w6.cell? ⟨w.heap.size, 1, none⟩ = some (.string up) := T0.out.cell 1 rfl
  have hlt := T3.out.lt
  go_wp2_with fail
  refine Go.wp_mono (Q := fun e a' w' => match e with | .normal => (∃ us : Array Value, a' = { tmps := us, defers := [] } ∧ us[2]? = some (.pointer (some ⟨w.heap.size + 1, 0, none⟩)) ∧ us[3]? = some (.pointer (some ⟨w.heap.size + 1 + 1, 0, none⟩)) ∧ us[4]? = some (.int .i64 0)) ∧ ((w'.cell? ⟨w.heap.size + 1, 0, none⟩ = some (.bool false) ∧ w'.cell? ⟨w.heap.size + 1, 1, none⟩ = some (.string S1) ∧ w'.cell? ⟨w.heap.size + 1, 2, none⟩ = some (.string ⟨#[49]⟩)) ∧ (w'.cell? ⟨w.heap.size + 1 + 1, 0, none⟩ = some (.bool false) ∧ w'.cell? ⟨w.heap.size + 1 + 1, 1, none⟩ = some (.string S2) ∧ w'.cell? ⟨w.heap.size + 1 + 1, 2, none⟩ = some (.string ⟨#[49]⟩))) ∧ Below w.heap.size w w' | _ => False) ?_ ?_
  · go_region_held3 (fun w' => w'.cell? ⟨w.heap.size, 1, none⟩ = some (.string up))
      ((repeat' apply And.intro) <;> (repeat' first | (with_reducible assumption) | (with_reducible refine keep_set ?_ ?_) | (with_reducible refine keep_drew ?_) | omega) <;> done)
      (first
        | (go_at_call_of 27 (Value.slice a4 l4 c4); refine (HN.out a4 l4 c4 _ _ (isN_below H46.out (below_drew _)) s1 (HT.out.on HB6.out.drew)).mono ?_; rintro e wb ⟨rfl, hbb⟩; have B0 : Hid (boxAt wb _ _ _) := T0.out.drew.on hbb; have B2 : Hid (boxAt wb _ _ _) := T2.out.drew.on hbb; have B3 : Hid (boxAt wb _ _ _) := T3.out.drew.on hbb; have b0 : wb.cell? ⟨w.heap.size, 1, none⟩ = some (.string up) := B0.out.cell 1 rfl; have HBb : Hid (Below w.heap.size w wb) := HB6.out.drew.trans (hbb.mono HB6.out.size); have M6 : Hid (isN wb (.slice a6 l6 c6) _) := isN_below (isN_below H6.out (below_drew _)) hbb; clear hbb)
        | (go_at_call 27; refine (HM.out a6 l6 c6 _ _ M6.out s1 (HT.out.on HBb.out)).mono ?_; rintro e wc ⟨rfl, hbc⟩; have D0 : Hid (boxAt wc _ _ _) := B0.out.on hbc; have D2 : Hid (boxAt wc _ _ _) := B2.out.on hbc; have D3 : Hid (boxAt wc _ _ _) := B3.out.on hbc; have d0 : wc.cell? ⟨w.heap.size, 1, none⟩ = some (.string up) := D0.out.cell 1 rfl; have HBc : Hid (Below w.heap.size w wc) := HBb.out.trans (hbc.mono HBb.out.size); have r0 := D2.out.cell 0 rfl; have r1 := D2.out.cell 1 rfl; have r2 := D2.out.cell 2 rfl; have g0 := D2.out.frozen 0; have g1 := D2.out.frozen 1; have g2 := D2.out.frozen 2; have r3 := D3.out.cell 0 rfl; have r4 := D3.out.cell 1 rfl; have r5 := D3.out.cell 2 rfl; have g3 := D3.out.frozen 0; have g4 := D3.out.frozen 1; have g5 := D3.out.frozen 2; have hlD := D3.out.lt; clear hbc))
    all_goals
      refine ⟨⟨_, rfl, rfl, rfl, rfl⟩, ⟨⟨?_, ?_, ?_⟩, ?_, ?_, ?_⟩, ?_⟩
      · go_simp
      · go_simp
      · go_simp
      · go_simp
      · go_simp
      · go_simp
      · (repeat' first | (with_reducible exact HBc.out) | (with_reducible refine bel_set0 ?_ ?_) | (with_reducible refine bel_drew0 ?_) | (dsimp only; omega))
  · intro e a' w' hq
    cases e
    case normal =>
      obtain ⟨⟨us, rfl, hus4, hus5, hus6⟩, ⟨⟨hv0, hv1, hv2⟩, hv3, hv4, hv5⟩, hb⟩ := hq
      go_wp2
      simp only [bodyPost]
      refine ⟨trivial, _, ?_, rfl, hb⟩
      simp only [results, Tryd.results20]
      go_simp
    all_goals exact hq.elim

end Go.Proofs.YtaggfbffdbompaaDoor
