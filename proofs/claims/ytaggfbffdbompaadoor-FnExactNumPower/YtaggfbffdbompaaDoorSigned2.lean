/-
  The contract of adding whole numbers with a sign.
-/
import Derived.Test.YtaggfbffdbompaaDoorSigned
namespace Go.Proofs.YtaggfbffdbompaaDoor
set_option maxRecDepth 100000
set_option linter.unusedVariables false
set_option linter.unusedSimpArgs false
open Go.RowKit
attribute [local go_sem ↓] Go.wp_at_zero Go.wp_at_succ

def SumIs (w : World) (b : Bool) (n : Nat) (e : Ending) (w' : World) : Prop := (∃ ao3 len3 cap3, e = .returned (.agg #[.bool b, .slice ao3 len3 cap3]) ∧ isN w' (.slice ao3 len3 cap3) n) ∧ Below w.heap.size w w'

set_option maxHeartbeats 1600000 in
theorem plus_eq (b : Bool) (ao : Option Addr) (len cap : Nat) (b2 : Bool) (ao2 : Option Addr) (len2 cap2 : Nat) (n m : Nat) (w : World) (hn : isN w (.slice ao len cap) n) (hm : isN w (.slice ao2 len2 cap2) m) (fn : fits n 9999) (fm : fits m 9999) (hbb : (b == b2) = true) :
    Calls Tryd.prog 30 #[.agg #[.bool b, .slice ao len cap], .agg #[.bool b2, .slice ao2 len2 cap2]] w (SumIs w b (n + m)) := by
  go_enter Tryd.func30, Tryd.ntmps30
  go_wp2_with fail
  obtain ⟨W, hW, hBW, x0, x1, x2⟩ := boxes3 w #[Value.bool b, Value.slice ao len cap] #[Value.bool b2, Value.slice ao2 len2 cap2] #[Value.bool false, Value.slice none 0 0] 44 44 44
  rw [← hW]
  have HNW : Hid (isN W (.slice ao len cap) n) := isN_below hn hBW
  have HMW : Hid (isN W (.slice ao2 len2 cap2) m) := isN_below hm hBW
  have HBW : Hid (Below w.heap.size w W) := hBW
  have k00 := x0.cell 0 rfl
  have k01 := x0.cell 1 rfl
  have k10 := x1.cell 0 rfl
  have k11 := x1.cell 1 rfl
  have X2 : Hid (boxAt W _ _ _) := x2
  clear hW hn hm hBW x0 x1 x2 k10
  have fn' := (fn.mono (Nat.le_refl n) (show 9999 ≤ 10000 by omega))
  have fm' := (fm.mono (Nat.le_refl m) (show 9999 ≤ 10000 by omega))
  refine Go.wp_mono (Q := fun e a' w' => match e with | .normal => (∃ us : Array Value, a' = { tmps := us, defers := [] } ∧ us[4]? = some (.pointer (some ⟨w.heap.size + 1 + 1, 0, none⟩))) ∧ (∃ ao3 len3 cap3, w'.cell? ⟨w.heap.size + 1 + 1, 0, none⟩ = some (.bool b) ∧ w'.cell? ⟨w.heap.size + 1 + 1, 1, none⟩ = some (.slice ao3 len3 cap3) ∧ isN w' (.slice ao3 len3 cap3) (n + m)) ∧ Below w.heap.size w w' | _ => False) ?_ ?_
  · go_region_held3 (fun w' => (w'.cell? ⟨w.heap.size, 0, none⟩ = some (.bool b) ∧ w'.cell? ⟨w.heap.size, 1, none⟩ = some (.slice ao len cap)) ∧ w'.cell? ⟨w.heap.size + 1, 1, none⟩ = some (.slice ao2 len2 cap2))
      ((repeat' apply And.intro) <;> first | (with_reducible assumption) | ((with_reducible refine keep_set (keep_set ?_ ?_) ?_) <;> first | omega | assumption) | (go_keep; done))
      ((go_at_call 54; refine (plus_any _ _ n m _ (isN_below HNW.out (below_drew _)) (isN_below HMW.out (below_drew _)) fn'.out fm'.out).mono ?_; rintro e w9 ⟨⟨v3, rfl, h3⟩, hb3⟩; obtain ⟨ao3, len3, cap3, rfl⟩ := isN_slice h3; have H3 : Hid (isN w9 (.slice ao3 len3 cap3) (n + m)) := h3; have HB3 : Hid (Below W.drew.heap.size W.drew w9) := hb3
        have j00 := cell_on hb3 (W := W.drew) k00; have j01 := cell_on hb3 (W := W.drew) k01; have j11 := cell_on hb3 (W := W.drew) k11
        have y2 := X2.out.drew.on hb3; have j20 := y2.cell 0 rfl; have j21 := y2.cell 1 rfl; have g20 := y2.frozen 0; have g21 := y2.frozen 1; have Y2 : Hid (boxAt w9 _ _ _) := y2; clear h3 hb3 y2))
    all_goals
      have hz2 := Y2.out.lt
      have hap := isN_apart H3.out Y2.out (by decide)
      refine ⟨⟨_, rfl, rfl⟩, ⟨ao3, len3, cap3, ?_, ?_, isN_set (isN_set H3.out hap) hap⟩, ?_⟩
      · go_simp
      · go_simp
      · exact ((HBW.out.drew.trans (HB3.out.mono HBW.out.size)).setCell (by show _ ≤ w.heap.size + 1 + 1; omega) _).setCell (by show _ ≤ w.heap.size + 1 + 1; omega) _
  · intro e a' w' hq
    cases e
    case normal =>
      obtain ⟨⟨us, rfl, hus⟩, ⟨ao3, len3, cap3, hv0, hv1, hv⟩, hb⟩ := hq
      go_wp2
      simp only [bodyPost]
      refine ⟨trivial, _, ?_, ⟨ao3, len3, cap3, rfl, hv⟩, hb⟩
      simp only [results, Tryd.results30]
      go_simp
    all_goals exact hq.elim

set_option maxHeartbeats 1600000 in
theorem plus_ge (b : Bool) (ao : Option Addr) (len cap : Nat) (b2 : Bool) (ao2 : Option Addr) (len2 cap2 : Nat) (n m : Nat) (w : World) (hn : isN w (.slice ao len cap) n) (hm : isN w (.slice ao2 len2 cap2) m) (fn : fits n 9999) (fm : fits m 9999) (hbb : (b == b2) = false) (hge : m ≤ n) :
    Calls Tryd.prog 30 #[.agg #[.bool b, .slice ao len cap], .agg #[.bool b2, .slice ao2 len2 cap2]] w (SumIs w b (n - m)) := by
  go_enter Tryd.func30, Tryd.ntmps30
  go_wp2_with fail
  obtain ⟨W, hW, hBW, x0, x1, x2⟩ := boxes3 w #[Value.bool b, Value.slice ao len cap] #[Value.bool b2, Value.slice ao2 len2 cap2] #[Value.bool false, Value.slice none 0 0] 44 44 44
  rw [← hW]
  have HNW : Hid (isN W (.slice ao len cap) n) := isN_below hn hBW
  have HMW : Hid (isN W (.slice ao2 len2 cap2) m) := isN_below hm hBW
  have HBW : Hid (Below w.heap.size w W) := hBW
  have k00 := x0.cell 0 rfl
  have k01 := x0.cell 1 rfl
  have k10 := x1.cell 0 rfl
  have k11 := x1.cell 1 rfl
  have X2 : Hid (boxAt W _ _ _) := x2
  clear hW hn hm hBW
  have X0 : Hid (boxAt W _ _ _) := x0
  have X1 : Hid (boxAt W _ _ _) := x1
  clear x0 x1 x2
  have fn' := (fn.mono (Nat.le_refl n) (show 9999 ≤ 10000 by omega))
  have fm' := (fm.mono (Nat.le_refl m) (show 9999 ≤ 10000 by omega))
  refine (compare_f _ _ n m _ HNW.out HMW.out fn' fm').mono ?_
  rintro e w3 ⟨⟨c, rfl, hc, hc1, hc2⟩, hb3⟩
  have hcc : ¬ c < 0 := by rw [hc.out]; exact Int.not_lt.2 (cmpI_nonneg hge)
  have HN3 : Hid (isN w3 (.slice ao len cap) n) := isN_below HNW.out hb3
  have HM3 : Hid (isN w3 (.slice ao2 len2 cap2) m) := isN_below HMW.out hb3
  have HB3 : Hid (Below w.heap.size w w3) := HBW.out.trans (hb3.mono HBW.out.size)
  have X03 : Hid (boxAt w3 _ _ _) := X0.out.on hb3
  have X13 : Hid (boxAt w3 _ _ _) := X1.out.on hb3
  have X23 : Hid (boxAt w3 _ _ _) := X2.out.on hb3
  clear k00 k01 k10 k11 X0 X1 X2 HNW HMW HBW hb3 hc
  have k00 := X03.out.cell 0 rfl
  have k01 := X03.out.cell 1 rfl
  have k10 := X13.out.cell 0 rfl
  have k11 := X13.out.cell 1 rfl
  clear k10
  have X2 := X23
  go_wp2_with fail
  refine Go.wp_mono (Q := fun e a' w' => match e with | .normal => (∃ us : Array Value, a' = { tmps := us, defers := [] } ∧ us[4]? = some (.pointer (some ⟨w.heap.size + 1 + 1, 0, none⟩))) ∧ (∃ ao3 len3 cap3, w'.cell? ⟨w.heap.size + 1 + 1, 0, none⟩ = some (.bool b) ∧ w'.cell? ⟨w.heap.size + 1 + 1, 1, none⟩ = some (.slice ao3 len3 cap3) ∧ isN w' (.slice ao3 len3 cap3) (n - m)) ∧ Below w.heap.size w w' | _ => False) ?_ ?_
  · go_region_held3 (fun w' => (w'.cell? ⟨w.heap.size, 0, none⟩ = some (.bool b) ∧ w'.cell? ⟨w.heap.size, 1, none⟩ = some (.slice ao len cap)) ∧ w'.cell? ⟨w.heap.size + 1, 1, none⟩ = some (.slice ao2 len2 cap2))
      ((repeat' apply And.intro) <;> first | (with_reducible assumption) | ((with_reducible refine keep_set (keep_set ?_ ?_) ?_) <;> first | omega | assumption) | (go_keep; done))
      ((go_at_call 47; refine (minus_f _ _ n m _ (isN_below HN3.out (below_drew _)) (isN_below HM3.out (below_drew _)) hge fn').mono ?_; rintro e w9 ⟨⟨v3, rfl, h3⟩, hb3⟩; obtain ⟨ao3, len3, cap3, rfl⟩ := isN_slice h3; have H3 : Hid (isN w9 (.slice ao3 len3 cap3) (n - m)) := h3; have HB9 : Hid (Below w3.drew.heap.size w3.drew w9) := hb3
        have j00 := cell_on hb3 (W := w3.drew) k00; have j01 := cell_on hb3 (W := w3.drew) k01; have j11 := cell_on hb3 (W := w3.drew) k11
        have y2 := X2.out.drew.on hb3; have j20 := y2.cell 0 rfl; have j21 := y2.cell 1 rfl; have g20 := y2.frozen 0; have g21 := y2.frozen 1; have Y2 : Hid (boxAt w9 _ _ _) := y2; clear h3 hb3 y2))
    all_goals
      have hz2 := Y2.out.lt
      have hap := isN_apart H3.out Y2.out (by decide)
      refine ⟨⟨_, rfl, rfl⟩, ⟨ao3, len3, cap3, ?_, ?_, isN_set (isN_set H3.out hap) hap⟩, ?_⟩
      · go_simp
      · go_simp
      · exact ((HB3.out.drew.trans (HB9.out.mono HB3.out.size)).setCell (by show _ ≤ w.heap.size + 1 + 1; omega) _).setCell (by show _ ≤ w.heap.size + 1 + 1; omega) _
  · intro e a' w' hq
    cases e
    case normal =>
      obtain ⟨⟨us, rfl, hus⟩, ⟨ao3, len3, cap3, hv0, hv1, hv⟩, hb⟩ := hq
      go_wp2
      simp only [bodyPost]
      refine ⟨trivial, _, ?_, ⟨ao3, len3, cap3, rfl, hv⟩, hb⟩
      simp only [results, Tryd.results30]
      go_simp
    all_goals exact hq.elim

set_option maxHeartbeats 1600000 in
theorem plus_lt (b : Bool) (ao : Option Addr) (len cap : Nat) (b2 : Bool) (ao2 : Option Addr) (len2 cap2 : Nat) (n m : Nat) (w : World) (hn : isN w (.slice ao len cap) n) (hm : isN w (.slice ao2 len2 cap2) m) (fn : fits n 9999) (fm : fits m 9999) (hbb : (b == b2) = false) (hlt : n < m) :
    Calls Tryd.prog 30 #[.agg #[.bool b, .slice ao len cap], .agg #[.bool b2, .slice ao2 len2 cap2]] w (SumIs w b2 (m - n)) := by
  go_enter Tryd.func30, Tryd.ntmps30
  go_wp2_with fail
  obtain ⟨W, hW, hBW, x0, x1, x2⟩ := boxes3 w #[Value.bool b, Value.slice ao len cap] #[Value.bool b2, Value.slice ao2 len2 cap2] #[Value.bool false, Value.slice none 0 0] 44 44 44
  rw [← hW]
  have HNW : Hid (isN W (.slice ao len cap) n) := isN_below hn hBW
  have HMW : Hid (isN W (.slice ao2 len2 cap2) m) := isN_below hm hBW
  have HBW : Hid (Below w.heap.size w W) := hBW
  have k00 := x0.cell 0 rfl
  have k01 := x0.cell 1 rfl
  have k10 := x1.cell 0 rfl
  have k11 := x1.cell 1 rfl
  have X2 : Hid (boxAt W _ _ _) := x2
  clear hW hn hm hBW
  have X0 : Hid (boxAt W _ _ _) := x0
  have X1 : Hid (boxAt W _ _ _) := x1
  clear x0 x1 x2
  have fn' := (fn.mono (Nat.le_refl n) (show 9999 ≤ 10000 by omega))
  have fm' := (fm.mono (Nat.le_refl m) (show 9999 ≤ 10000 by omega))
  refine (compare_f _ _ n m _ HNW.out HMW.out fn' fm').mono ?_
  rintro e w3 ⟨⟨c, rfl, hc, hc1, hc2⟩, hb3⟩
  have hcc : c < 0 := by rw [hc.out]; exact cmpI_neg hlt
  have HN3 : Hid (isN w3 (.slice ao len cap) n) := isN_below HNW.out hb3
  have HM3 : Hid (isN w3 (.slice ao2 len2 cap2) m) := isN_below HMW.out hb3
  have HB3 : Hid (Below w.heap.size w w3) := HBW.out.trans (hb3.mono HBW.out.size)
  have X03 : Hid (boxAt w3 _ _ _) := X0.out.on hb3
  have X13 : Hid (boxAt w3 _ _ _) := X1.out.on hb3
  have X23 : Hid (boxAt w3 _ _ _) := X2.out.on hb3
  clear k00 k01 k10 k11 X0 X1 X2 HNW HMW HBW hb3 hc
  have k00 := X03.out.cell 0 rfl
  have k01 := X03.out.cell 1 rfl
  have k10 := X13.out.cell 0 rfl
  have k11 := X13.out.cell 1 rfl
  have f00 := X03.out.frozen 0
  have f01 := X03.out.frozen 1
  have f10 := X13.out.frozen 0
  have f11 := X13.out.frozen 1
  go_wp2_with fail
  have p20 := isN_apart HN3.out X03.out (by decide)
  have p21 := isN_apart HN3.out X13.out (by decide)
  have p30 := isN_apart HM3.out X03.out (by decide)
  have p31 := isN_apart HM3.out X13.out (by decide)
  have P20 : Hid _ := p20
  have P21 : Hid _ := p21
  have P30 : Hid _ := p30
  have P31 : Hid _ := p31
  clear p20 p21 p30 p31
  have hz0 := X03.out.lt
  have hz1 := X13.out.lt
  obtain ⟨W4, hW4, j00, j01, j11, X2, HN4, HM4, HB4⟩ : ∃ W4, W4 = ((((w3.setCell ⟨w.heap.size, 0, none⟩ (Value.bool b2)).setCell ⟨w.heap.size, 1, none⟩ (Value.slice ao2 len2 cap2)).setCell ⟨w.heap.size + 1, 0, none⟩ (Value.bool b)).setCell ⟨w.heap.size + 1, 1, none⟩ (Value.slice ao len cap)) ∧
      W4.cell? ⟨w.heap.size, 0, none⟩ = some (.bool b2) ∧ W4.cell? ⟨w.heap.size, 1, none⟩ = some (.slice ao2 len2 cap2) ∧ W4.cell? ⟨w.heap.size + 1, 1, none⟩ = some (.slice ao len cap) ∧
      Hid (boxAt W4 (w.heap.size + 1 + 1) #[Value.bool false, Value.slice none 0 0] 44) ∧ Hid (isN W4 (.slice ao len cap) n) ∧ Hid (isN W4 (.slice ao2 len2 cap2) m) ∧ Hid (Below w.heap.size w W4) := by
    refine ⟨_, rfl, ?_, ?_, ?_, ?_, ?_, ?_, ?_⟩
    · refine keep_set (keep_set ?_ (by omega)) (by omega)
      go_simp
    · refine keep_set (keep_set ?_ (by omega)) (by omega)
      go_simp
    · go_simp
    · exact (((X23.out.set (by omega)).set (by omega)).set (by omega)).set (by omega)
    · exact isN_set (isN_set (isN_set (isN_set HN3.out P20.out) P20.out) P21.out) P21.out
    · exact isN_set (isN_set (isN_set (isN_set HM3.out P30.out) P30.out) P31.out) P31.out
    · exact (((HB3.out.setCell (by show _ ≤ w.heap.size; omega) _).setCell (by show _ ≤ w.heap.size; omega) _).setCell (by show _ ≤ w.heap.size + 1; omega) _).setCell (by show _ ≤ w.heap.size + 1; omega) _
  rw [← hW4]
  clear hW4 k00 k01 k10 k11 f00 f01 f10 f11 X03 X13 X23 HN3 HM3 HB3 P20 P21 P30 P31 hz0 hz1
  have k00 := j00
  have k01 := j01
  have k11 := j11
  clear j00 j01 j11
  refine Go.wp_mono (Q := fun e a' w' => match e with | .normal => (∃ us : Array Value, a' = { tmps := us, defers := [] } ∧ us[4]? = some (.pointer (some ⟨w.heap.size + 1 + 1, 0, none⟩))) ∧ (∃ ao3 len3 cap3, w'.cell? ⟨w.heap.size + 1 + 1, 0, none⟩ = some (.bool b2) ∧ w'.cell? ⟨w.heap.size + 1 + 1, 1, none⟩ = some (.slice ao3 len3 cap3) ∧ isN w' (.slice ao3 len3 cap3) (m - n)) ∧ Below w.heap.size w w' | _ => False) ?_ ?_
  · go_region_held3 (fun w' => (w'.cell? ⟨w.heap.size, 0, none⟩ = some (.bool b2) ∧ w'.cell? ⟨w.heap.size, 1, none⟩ = some (.slice ao2 len2 cap2)) ∧ w'.cell? ⟨w.heap.size + 1, 1, none⟩ = some (.slice ao len cap))
      ((repeat' apply And.intro) <;> first | (with_reducible assumption) | ((with_reducible refine keep_set (keep_set ?_ ?_) ?_) <;> first | omega | assumption) | (go_keep; done))
      ((go_at_call 47; refine (minus_f _ _ m n _ (isN_below HM4.out (below_drew _)) (isN_below HN4.out (below_drew _)) (Nat.le_of_lt hlt) fm').mono ?_; rintro e w9 ⟨⟨v3, rfl, h3⟩, hb3⟩; obtain ⟨ao3, len3, cap3, rfl⟩ := isN_slice h3; have H3 : Hid (isN w9 (.slice ao3 len3 cap3) (m - n)) := h3; have HB9 : Hid (Below W4.drew.heap.size W4.drew w9) := hb3
        have j00 := cell_on hb3 (W := W4.drew) k00; have j01 := cell_on hb3 (W := W4.drew) k01; have j11 := cell_on hb3 (W := W4.drew) k11
        have y2 := X2.out.drew.on hb3; have j20 := y2.cell 0 rfl; have j21 := y2.cell 1 rfl; have g20 := y2.frozen 0; have g21 := y2.frozen 1; have Y2 : Hid (boxAt w9 _ _ _) := y2; clear h3 hb3 y2))
    all_goals
      have hz2 := Y2.out.lt
      have hap := isN_apart H3.out Y2.out (by decide)
      refine ⟨⟨_, rfl, rfl⟩, ⟨ao3, len3, cap3, ?_, ?_, isN_set (isN_set H3.out hap) hap⟩, ?_⟩
      · go_simp
      · go_simp
      · exact ((HB4.out.drew.trans (HB9.out.mono HB4.out.size)).setCell (by show _ ≤ w.heap.size + 1 + 1; omega) _).setCell (by show _ ≤ w.heap.size + 1 + 1; omega) _
  · intro e a' w' hq
    cases e
    case normal =>
      obtain ⟨⟨us, rfl, hus⟩, ⟨ao3, len3, cap3, hv0, hv1, hv⟩, hb⟩ := hq
      go_wp2
      simp only [bodyPost]
      refine ⟨trivial, _, ?_, ⟨ao3, len3, cap3, rfl, hv⟩, hb⟩
      simp only [results, Tryd.results30]
      go_simp
    all_goals exact hq.elim

/-- Adding: the sign and the size of what comes. -/
def addB (b : Bool) (n : Nat) (b2 : Bool) (m : Nat) : Bool := if b == b2 then b else if n < m then b2 else b
def addN (b : Bool) (n : Nat) (b2 : Bool) (m : Nat) : Nat := if b == b2 then n + m else if n < m then m - n else n - m

theorem plus_s (b : Bool) (ao : Option Addr) (len cap : Nat) (b2 : Bool) (ao2 : Option Addr) (len2 cap2 : Nat) (n m : Nat) (w : World) (hn : isN w (.slice ao len cap) n) (hm : isN w (.slice ao2 len2 cap2) m) (fn : fits n 9999) (fm : fits m 9999) :
    Calls Tryd.prog 30 #[.agg #[.bool b, .slice ao len cap], .agg #[.bool b2, .slice ao2 len2 cap2]] w (SumIs w (addB b n b2 m) (addN b n b2 m)) := by
  by_cases h1 : (b == b2) = true
  · rw [addB, addN, if_pos h1, if_pos h1]
    exact plus_eq b ao len cap b2 ao2 len2 cap2 n m w hn hm fn fm h1
  · have h1' : (b == b2) = false := by simpa using h1
    rw [addB, addN, if_neg h1, if_neg h1]
    by_cases h2 : n < m
    · rw [if_pos h2, if_pos h2]
      exact plus_lt b ao len cap b2 ao2 len2 cap2 n m w hn hm fn fm h1' h2
    · rw [if_neg h2, if_neg h2]
      exact plus_ge b ao len cap b2 ao2 len2 cap2 n m w hn hm fn fm h1' (by omega)

end Go.Proofs.YtaggfbffdbompaaDoor
