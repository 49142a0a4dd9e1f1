/-
  Contracts of the specification's NumMod.
-/
import Derived.Test.YtaggfbffdbompaaDoorWMod
namespace Go.Proofs.YtaggfbffdbompaaDoor
set_option maxRecDepth 100000
set_option linter.unusedVariables false
set_option linter.unusedSimpArgs false
open Go.RowKit
attribute [local go_sem ↓] Go.wp_at_zero Go.wp_at_succ

theorem isDec_zm (s : ByteArray) (n : Nat) (h : Dm.isDec s.data.toList n) : (s.toList == [48]) = decide (n = 0) := by
  rw [Bool.eq_iff_iff, beq_iff_eq, decide_eq_true_eq, ByteArray.toList_eq]
  have H0 : Dm.isDec [48] 0 := by
    refine ⟨by simp, ?_, rfl, by simp⟩
    intro c hc; simp at hc; subst hc; exact ⟨by decide, by decide⟩
  constructor
  · intro e; rw [e] at h; exact Dm.isDec_inj _ _ _ h H0
  · intro e; subst e; exact Dm.isDec_unique _ _ 0 h H0

/-- The digits of a lesser number are no more. -/

theorem isDec_len_le (s : ByteArray) (n k : Nat) (h : Dm.isDec s.data.toList n) (m : Nat) (hnm : n ≤ m) (t : ByteArray) (hm : Dm.isDec t.data.toList m) (ht : t.size ≤ k) : s.size ≤ k := by
  have e : s.data.toList.length = s.size := Array.length_toList
  have e2 : t.data.toList.length = t.size := Array.length_toList
  rcases Nat.lt_or_ge t.data.toList.length s.data.toList.length with h1 | h1
  · have := Dm.isDec_len_lt _ _ _ _ hm h h1
    omega
  · omega

set_option maxHeartbeats 1600000 in
theorem sNumMod_1 (neg : Bool) (up dn : ByteArray) (neg2 : Bool) (up2 dn2 : ByteArray) (w : World) (HC : Hid (SCode neg up dn neg2 up2 dn2 1)) :
    Calls Tryd.prog 13 #[.agg #[.bool neg, .string up, .string dn], .agg #[.bool neg2, .string up2, .string dn2]] w fun e w' => e = .returned (.tuple #[.agg #[.bool false, .string ⟨#[]⟩, .string ⟨#[]⟩], .int .i64 1]) ∧ Below w.heap.size w w' := by
  go_enter Tryd.func13, Tryd.ntmps13
  go_wp2_with fail
  obtain ⟨V, hV, hBV, x0, x1, x2⟩ := boxes3 w #[Value.bool neg, Value.string up, Value.string dn] #[Value.bool neg2, Value.string up2, Value.string dn2] #[Value.bool false, Value.string ⟨#[]⟩, Value.string ⟨#[]⟩] 25 25 25
  rw [← hV]
  have HBV : Hid (Below w.heap.size w V) := hBV
  have Z0 : Hid (boxAt V _ _ _) := x0
  have Z1 : Hid (boxAt V _ _ _) := x1
  have Z2 : Hid (boxAt V _ _ _) := x2
  clear hV hBV x0 x1 x2
  refine (HC.out _).mono ?_
  rintro e w3 ⟨rfl, hb3⟩
  have HB3 : Hid (Below w.heap.size w w3) := HBV.out.trans (hb3.mono HBV.out.size)
  have Y0 : Hid (boxAt w3 _ _ _) := Z0.out.on hb3
  have Y1 : Hid (boxAt w3 _ _ _) := Z1.out.on hb3
  have Y2 : Hid (boxAt w3 _ _ _) := Z2.out.on hb3
  clear hb3 Z0 Z1 Z2 HBV HC
  have T2 := Y2
  have HB9 := HB3
  have q0 := T2.out.cell 0 rfl
  have f0 := T2.out.frozen 0
  have q1 := T2.out.cell 1 rfl
  have f1 := T2.out.frozen 1
  have q2 := T2.out.cell 2 rfl
  have f2 := T2.out.frozen 2
  have hlt := T2.out.lt
  go_wp2
  simp only [bodyPost]
  refine ⟨trivial, _, ?_, rfl, ?_⟩
  · simp only [results, Tryd.results13]
    go_simp
  · (repeat' first | (with_reducible exact HB9.out) | (with_reducible refine bel_alloc0 ?_) | (with_reducible refine bel_set0 ?_ ?_) | (dsimp only; omega))

set_option maxHeartbeats 1600000 in
theorem sNumMod_4 (neg : Bool) (up dn : ByteArray) (neg2 : Bool) (up2 dn2 : ByteArray) (w : World) (HC : Hid (SCode neg up dn neg2 up2 dn2 4)) :
    Calls Tryd.prog 13 #[.agg #[.bool neg, .string up, .string dn], .agg #[.bool neg2, .string up2, .string dn2]] w fun e w' => e = .returned (.tuple #[.agg #[.bool false, .string ⟨#[]⟩, .string ⟨#[]⟩], .int .i64 4]) ∧ Below w.heap.size w w' := by
  go_enter Tryd.func13, Tryd.ntmps13
  go_wp2_with fail
  obtain ⟨V, hV, hBV, x0, x1, x2⟩ := boxes3 w #[Value.bool neg, Value.string up, Value.string dn] #[Value.bool neg2, Value.string up2, Value.string dn2] #[Value.bool false, Value.string ⟨#[]⟩, Value.string ⟨#[]⟩] 25 25 25
  rw [← hV]
  have HBV : Hid (Below w.heap.size w V) := hBV
  have Z0 : Hid (boxAt V _ _ _) := x0
  have Z1 : Hid (boxAt V _ _ _) := x1
  have Z2 : Hid (boxAt V _ _ _) := x2
  clear hV hBV x0 x1 x2
  refine (HC.out _).mono ?_
  rintro e w3 ⟨rfl, hb3⟩
  have HB3 : Hid (Below w.heap.size w w3) := HBV.out.trans (hb3.mono HBV.out.size)
  have Y0 : Hid (boxAt w3 _ _ _) := Z0.out.on hb3
  have Y1 : Hid (boxAt w3 _ _ _) := Z1.out.on hb3
  have Y2 : Hid (boxAt w3 _ _ _) := Z2.out.on hb3
  clear hb3 Z0 Z1 Z2 HBV HC
  have T2 := Y2
  have HB9 := HB3
  have q0 := T2.out.cell 0 rfl
  have f0 := T2.out.frozen 0
  have q1 := T2.out.cell 1 rfl
  have f1 := T2.out.frozen 1
  have q2 := T2.out.cell 2 rfl
  have f2 := T2.out.frozen 2
  have hlt := T2.out.lt
  go_wp2
  simp only [bodyPost]
  refine ⟨trivial, _, ?_, rfl, ?_⟩
  · simp only [results, Tryd.results13]
    go_simp
  · (repeat' first | (with_reducible exact HB9.out) | (with_reducible refine bel_alloc0 ?_) | (with_reducible refine bel_set0 ?_ ?_) | (dsimp only; omega))

set_option maxHeartbeats 1600000 in
theorem sNumMod_2 (neg : Bool) (up dn : ByteArray) (neg2 : Bool) (up2 dn2 : ByteArray) (w : World) (HC : Hid (SCode neg up dn neg2 up2 dn2 2)) :
    Calls Tryd.prog 13 #[.agg #[.bool neg, .string up, .string dn], .agg #[.bool neg2, .string up2, .string dn2]] w fun e w' => e = .returned (.tuple #[.agg #[.bool false, .string ⟨#[]⟩, .string ⟨#[]⟩], .int .i64 2]) ∧ Below w.heap.size w w' := by
  go_enter Tryd.func13, Tryd.ntmps13
  go_wp2_with fail
  obtain ⟨V, hV, hBV, x0, x1, x2⟩ := boxes3 w #[Value.bool neg, Value.string up, Value.string dn] #[Value.bool neg2, Value.string up2, Value.string dn2] #[Value.bool false, Value.string ⟨#[]⟩, Value.string ⟨#[]⟩] 25 25 25
  rw [← hV]
  have HBV : Hid (Below w.heap.size w V) := hBV
  have Z0 : Hid (boxAt V _ _ _) := x0
  have Z1 : Hid (boxAt V _ _ _) := x1
  have Z2 : Hid (boxAt V _ _ _) := x2
  clear hV hBV x0 x1 x2
  refine (HC.out _).mono ?_
  rintro e w3 ⟨rfl, hb3⟩
  have HB3 : Hid (Below w.heap.size w w3) := HBV.out.trans (hb3.mono HBV.out.size)
  have Y0 : Hid (boxAt w3 _ _ _) := Z0.out.on hb3
  have Y1 : Hid (boxAt w3 _ _ _) := Z1.out.on hb3
  have Y2 : Hid (boxAt w3 _ _ _) := Z2.out.on hb3
  clear hb3 Z0 Z1 Z2 HBV HC
  have T2 := Y2
  have HB9 := HB3
  have q0 := T2.out.cell 0 rfl
  have f0 := T2.out.frozen 0
  have q1 := T2.out.cell 1 rfl
  have f1 := T2.out.frozen 1
  have q2 := T2.out.cell 2 rfl
  have f2 := T2.out.frozen 2
  have hlt := T2.out.lt
  go_wp2
  simp only [bodyPost]
  refine ⟨trivial, _, ?_, rfl, ?_⟩
  · simp only [results, Tryd.results13]
    go_simp
  · (repeat' first | (with_reducible exact HB9.out) | (with_reducible refine bel_alloc0 ?_) | (with_reducible refine bel_set0 ?_ ?_) | (dsimp only; omega))

set_option maxHeartbeats 1600000 in
theorem sNumMod_z (neg : Bool) (up dn : ByteArray) (neg2 : Bool) (up2 dn2 : ByteArray) (u u2 : Nat) (w : World) (h2 : 0 < u2) (HC : Hid (SCode neg up dn neg2 up2 dn2 0)) (D1 : Hid (Dm.isDec up.data.toList u)) (D3 : Hid (Dm.isDec up2.data.toList u2)) (s1 : up.size ≤ 60) (s3 : up2.size ≤ 60) (hs : u % u2 = 0) :
    Calls Tryd.prog 13 #[.agg #[.bool neg, .string up, .string dn], .agg #[.bool neg2, .string up2, .string dn2]] w fun e w' => e = .returned (.tuple #[.agg #[.bool (neg && decide (u % u2 ≠ 0)), .string (decS (u % u2)), .string ⟨#[49]⟩], .int .i64 0]) ∧ Below w.heap.size w w' := by
  obtain ⟨S, hS⟩ : ∃ S, S = decS (u % u2) := ⟨_, rfl⟩
  obtain ⟨C, hC⟩ : ∃ C, C = (neg && decide (u % u2 ≠ 0)) := ⟨_, rfl⟩
  rw [← hS, ← hC]
  have HM : Hid (∀ (W : World), Calls Tryd.prog 23 #[.bool neg2, .string S] W fun e w' => e = .returned (.agg #[.bool C, .string S, .string ⟨#[49]⟩]) ∧ Below W.heap.size W w') := by
    intro W
    have hz : (S.toList == [48]) = decide (u % u2 = 0) := by rw [hS]; exact isDec_zm _ _ (decS_dec _)
    have e : C = (neg2 && !decide (u % u2 = 0)) := by rw [hC]; rw [hs]; simp
    rw [e]; exact l4Sign_any neg2 S _ W hz
  have HS : Hid (S = decS (u % u2)) := hS
  have HZ : Hid (decide (u % u2 = 0) = true) := by exact decide_eq_true hs
  clear hS hC hs
  go_enter Tryd.func13, Tryd.ntmps13
  go_wp2_with fail
  obtain ⟨V, hV, hBV, x0, x1, x2⟩ := boxes3 w #[Value.bool neg, Value.string up, Value.string dn] #[Value.bool neg2, Value.string up2, Value.string dn2] #[Value.bool false, Value.string ⟨#[]⟩, Value.string ⟨#[]⟩] 25 25 25
  rw [← hV]
  have HBV : Hid (Below w.heap.size w V) := hBV
  have Z0 : Hid (boxAt V _ _ _) := x0
  have Z1 : Hid (boxAt V _ _ _) := x1
  have Z2 : Hid (boxAt V _ _ _) := x2
  clear hV hBV x0 x1 x2
  refine (HC.out _).mono ?_
  rintro e w3 ⟨rfl, hb3⟩
  have HB3 : Hid (Below w.heap.size w w3) := HBV.out.trans (hb3.mono HBV.out.size)
  have Y0 : Hid (boxAt w3 _ _ _) := Z0.out.on hb3
  have Y1 : Hid (boxAt w3 _ _ _) := Z1.out.on hb3
  have Y2 : Hid (boxAt w3 _ _ _) := Z2.out.on hb3
  clear hb3 Z0 Z1 Z2 HBV HC
  have k00 := Y0.out.cell 1 rfl
  have k10 := Y1.out.cell 1 rfl
  go_wp2_with fail
  refine (l1Div_any up up2 u u2 _ (by omega) (by omega) D1.out D3.out h2).mono ?_
  rintro e w5 ⟨⟨t, t', rfl, _, ht'⟩, hb5⟩
  have hz := (isDec_zm t' _ ht').trans HZ.out
  have HT' : Hid (Dm.isDec t'.data.toList (u % u2)) := ht'
  have HB5 : Hid (Below w.heap.size w w5) := HB3.out.trans (hb5.mono HB3.out.size)
  have X0 : Hid (boxAt w5 _ _ _) := Y0.out.on hb5
  have X1 : Hid (boxAt w5 _ _ _) := Y1.out.on hb5
  have X2 : Hid (boxAt w5 _ _ _) := Y2.out.on hb5
  clear hb5 ht' Y0 Y1 Y2 HB3 k00 k10
  have et' : t' = S := (dec_eq HT'.out).trans HS.out.symm
  clear HT' HS D1 D3
  subst et'
  have k00 := X0.out.cell 0 rfl
  have k10 := X1.out.cell 0 rfl
  have k11 := X1.out.cell 1 rfl
  go_wp2_with fail
  refine (HM.out _).mono ?_
  rintro e w6 ⟨rfl, hb6⟩
  have HB9 : Hid (Below w.heap.size w w6) := HB5.out.trans (hb6.mono HB5.out.size)
  have T2 : Hid (boxAt w6 _ _ _) := X2.out.on hb6
  clear hb6 X2 HB5 k00 k10 k11
  have q0 := T2.out.cell 0 rfl
  have f0 := T2.out.frozen 0
  have q1 := T2.out.cell 1 rfl
  have f1 := T2.out.frozen 1
  have q2 := T2.out.cell 2 rfl
  have f2 := T2.out.frozen 2
  have hlt := T2.out.lt
  go_wp2
  simp only [bodyPost]
  refine ⟨trivial, _, ?_, rfl, ?_⟩
  · simp only [results, Tryd.results13]
    go_simp
  · (repeat' first | (with_reducible exact HB9.out) | (with_reducible refine bel_alloc0 ?_) | (with_reducible refine bel_set0 ?_ ?_) | (dsimp only; omega))

set_option maxHeartbeats 1600000 in
theorem sNumMod_ett (up dn : ByteArray) (up2 dn2 : ByteArray) (u u2 : Nat) (w : World) (h2 : 0 < u2) (HC : Hid (SCode true up dn true up2 dn2 0)) (D1 : Hid (Dm.isDec up.data.toList u)) (D3 : Hid (Dm.isDec up2.data.toList u2)) (s1 : up.size ≤ 60) (s3 : up2.size ≤ 60) (hs : u % u2 ≠ 0) :
    Calls Tryd.prog 13 #[.agg #[.bool true, .string up, .string dn], .agg #[.bool true, .string up2, .string dn2]] w fun e w' => e = .returned (.tuple #[.agg #[.bool (true && decide (u % u2 ≠ 0)), .string (decS (u % u2)), .string ⟨#[49]⟩], .int .i64 0]) ∧ Below w.heap.size w w' := by
  obtain ⟨S, hS⟩ : ∃ S, S = decS (u % u2) := ⟨_, rfl⟩
  obtain ⟨C, hC⟩ : ∃ C, C = (true && decide (u % u2 ≠ 0)) := ⟨_, rfl⟩
  rw [← hS, ← hC]
  have HM : Hid (∀ (W : World), Calls Tryd.prog 23 #[.bool true, .string S] W fun e w' => e = .returned (.agg #[.bool C, .string S, .string ⟨#[49]⟩]) ∧ Below W.heap.size W w') := by
    intro W
    have hz : (S.toList == [48]) = decide (u % u2 = 0) := by rw [hS]; exact isDec_zm _ _ (decS_dec _)
    have e : C = (true && !decide (u % u2 = 0)) := by rw [hC]; simp only [ne_eq, decide_not]
    rw [e]; exact l4Sign_any true S _ W hz
  have HS : Hid (S = decS (u % u2)) := hS
  have HZ : Hid (decide (u % u2 = 0) = false) := by exact decide_eq_false hs
  clear hS hC hs
  go_enter Tryd.func13, Tryd.ntmps13
  go_wp2_with fail
  obtain ⟨V, hV, hBV, x0, x1, x2⟩ := boxes3 w #[Value.bool true, Value.string up, Value.string dn] #[Value.bool true, Value.string up2, Value.string dn2] #[Value.bool false, Value.string ⟨#[]⟩, Value.string ⟨#[]⟩] 25 25 25
  rw [← hV]
  have HBV : Hid (Below w.heap.size w V) := hBV
  have Z0 : Hid (boxAt V _ _ _) := x0
  have Z1 : Hid (boxAt V _ _ _) := x1
  have Z2 : Hid (boxAt V _ _ _) := x2
  clear hV hBV x0 x1 x2
  refine (HC.out _).mono ?_
  rintro e w3 ⟨rfl, hb3⟩
  have HB3 : Hid (Below w.heap.size w w3) := HBV.out.trans (hb3.mono HBV.out.size)
  have Y0 : Hid (boxAt w3 _ _ _) := Z0.out.on hb3
  have Y1 : Hid (boxAt w3 _ _ _) := Z1.out.on hb3
  have Y2 : Hid (boxAt w3 _ _ _) := Z2.out.on hb3
  clear hb3 Z0 Z1 Z2 HBV HC
  have k00 := Y0.out.cell 1 rfl
  have k10 := Y1.out.cell 1 rfl
  go_wp2_with fail
  refine (l1Div_any up up2 u u2 _ (by omega) (by omega) D1.out D3.out h2).mono ?_
  rintro e w5 ⟨⟨t, t', rfl, _, ht'⟩, hb5⟩
  have hz := (isDec_zm t' _ ht').trans HZ.out
  have HT' : Hid (Dm.isDec t'.data.toList (u % u2)) := ht'
  have HB5 : Hid (Below w.heap.size w w5) := HB3.out.trans (hb5.mono HB3.out.size)
  have X0 : Hid (boxAt w5 _ _ _) := Y0.out.on hb5
  have X1 : Hid (boxAt w5 _ _ _) := Y1.out.on hb5
  have X2 : Hid (boxAt w5 _ _ _) := Y2.out.on hb5
  clear hb5 ht' Y0 Y1 Y2 HB3 k00 k10
  have et' : t' = S := (dec_eq HT'.out).trans HS.out.symm
  clear HT' HS D1 D3
  subst et'
  have k00 := X0.out.cell 0 rfl
  have k10 := X1.out.cell 0 rfl
  have k11 := X1.out.cell 1 rfl
  go_wp2_with fail
  refine (HM.out _).mono ?_
  rintro e w6 ⟨rfl, hb6⟩
  have HB9 : Hid (Below w.heap.size w w6) := HB5.out.trans (hb6.mono HB5.out.size)
  have T2 : Hid (boxAt w6 _ _ _) := X2.out.on hb6
  clear hb6 X2 HB5 k00 k10 k11
  have q0 := T2.out.cell 0 rfl
  have f0 := T2.out.frozen 0
  have q1 := T2.out.cell 1 rfl
  have f1 := T2.out.frozen 1
  have q2 := T2.out.cell 2 rfl
  have f2 := T2.out.frozen 2
  have hlt := T2.out.lt
  go_wp2
  simp only [bodyPost]
  refine ⟨trivial, _, ?_, rfl, ?_⟩
  · simp only [results, Tryd.results13]
    go_simp
  · (repeat' first | (with_reducible exact HB9.out) | (with_reducible refine bel_alloc0 ?_) | (with_reducible refine bel_set0 ?_ ?_) | (dsimp only; omega))

set_option maxHeartbeats 1600000 in
theorem sNumMod_eff (up dn : ByteArray) (up2 dn2 : ByteArray) (u u2 : Nat) (w : World) (h2 : 0 < u2) (HC : Hid (SCode false up dn false up2 dn2 0)) (D1 : Hid (Dm.isDec up.data.toList u)) (D3 : Hid (Dm.isDec up2.data.toList u2)) (s1 : up.size ≤ 60) (s3 : up2.size ≤ 60) (hs : u % u2 ≠ 0) :
    Calls Tryd.prog 13 #[.agg #[.bool false, .string up, .string dn], .agg #[.bool false, .string up2, .string dn2]] w fun e w' => e = .returned (.tuple #[.agg #[.bool (false && decide (u % u2 ≠ 0)), .string (decS (u % u2)), .string ⟨#[49]⟩], .int .i64 0]) ∧ Below w.heap.size w w' := by
  obtain ⟨S, hS⟩ : ∃ S, S = decS (u % u2) := ⟨_, rfl⟩
  obtain ⟨C, hC⟩ : ∃ C, C = (false && decide (u % u2 ≠ 0)) := ⟨_, rfl⟩
  rw [← hS, ← hC]
  have HM : Hid (∀ (W : World), Calls Tryd.prog 23 #[.bool false, .string S] W fun e w' => e = .returned (.agg #[.bool C, .string S, .string ⟨#[49]⟩]) ∧ Below W.heap.size W w') := by
    intro W
    have hz : (S.toList == [48]) = decide (u % u2 = 0) := by rw [hS]; exact isDec_zm _ _ (decS_dec _)
    have e : C = (false && !decide (u % u2 = 0)) := by rw [hC]; simp only [ne_eq, decide_not]
    rw [e]; exact l4Sign_any false S _ W hz
  have HS : Hid (S = decS (u % u2)) := hS
  have HZ : Hid (decide (u % u2 = 0) = false) := by exact decide_eq_false hs
  clear hS hC hs
  go_enter Tryd.func13, Tryd.ntmps13
  go_wp2_with fail
  obtain ⟨V, hV, hBV, x0, x1, x2⟩ := boxes3 w #[Value.bool false, Value.string up, Value.string dn] #[Value.bool false, Value.string up2, Value.string dn2] #[Value.bool false, Value.string ⟨#[]⟩, Value.string ⟨#[]⟩] 25 25 25
  rw [← hV]
  have HBV : Hid (Below w.heap.size w V) := hBV
  have Z0 : Hid (boxAt V _ _ _) := x0
  have Z1 : Hid (boxAt V _ _ _) := x1
  have Z2 : Hid (boxAt V _ _ _) := x2
  clear hV hBV x0 x1 x2
  refine (HC.out _).mono ?_
  rintro e w3 ⟨rfl, hb3⟩
  have HB3 : Hid (Below w.heap.size w w3) := HBV.out.trans (hb3.mono HBV.out.size)
  have Y0 : Hid (boxAt w3 _ _ _) := Z0.out.on hb3
  have Y1 : Hid (boxAt w3 _ _ _) := Z1.out.on hb3
  have Y2 : Hid (boxAt w3 _ _ _) := Z2.out.on hb3
  clear hb3 Z0 Z1 Z2 HBV HC
  have k00 := Y0.out.cell 1 rfl
  have k10 := Y1.out.cell 1 rfl
  go_wp2_with fail
  refine (l1Div_any up up2 u u2 _ (by omega) (by omega) D1.out D3.out h2).mono ?_
  rintro e w5 ⟨⟨t, t', rfl, _, ht'⟩, hb5⟩
  have hz := (isDec_zm t' _ ht').trans HZ.out
  have HT' : Hid (Dm.isDec t'.data.toList (u % u2)) := ht'
  have HB5 : Hid (Below w.heap.size w w5) := HB3.out.trans (hb5.mono HB3.out.size)
  have X0 : Hid (boxAt w5 _ _ _) := Y0.out.on hb5
  have X1 : Hid (boxAt w5 _ _ _) := Y1.out.on hb5
  have X2 : Hid (boxAt w5 _ _ _) := Y2.out.on hb5
  clear hb5 ht' Y0 Y1 Y2 HB3 k00 k10
  have et' : t' = S := (dec_eq HT'.out).trans HS.out.symm
  clear HT' HS D1 D3
  subst et'
  have k00 := X0.out.cell 0 rfl
  have k10 := X1.out.cell 0 rfl
  have k11 := X1.out.cell 1 rfl
  go_wp2_with fail
  refine (HM.out _).mono ?_
  rintro e w6 ⟨rfl, hb6⟩
  have HB9 : Hid (Below w.heap.size w w6) := HB5.out.trans (hb6.mono HB5.out.size)
  have T2 : Hid (boxAt w6 _ _ _) := X2.out.on hb6
  clear hb6 X2 HB5 k00 k10 k11
  have q0 := T2.out.cell 0 rfl
  have f0 := T2.out.frozen 0
  have q1 := T2.out.cell 1 rfl
  have f1 := T2.out.frozen 1
  have q2 := T2.out.cell 2 rfl
  have f2 := T2.out.frozen 2
  have hlt := T2.out.lt
  go_wp2
  simp only [bodyPost]
  refine ⟨trivial, _, ?_, rfl, ?_⟩
  · simp only [results, Tryd.results13]
    go_simp
  · (repeat' first | (with_reducible exact HB9.out) | (with_reducible refine bel_alloc0 ?_) | (with_reducible refine bel_set0 ?_ ?_) | (dsimp only; omega))

set_option maxHeartbeats 1600000 in
theorem sNumMod_mtf (up dn : ByteArray) (up2 dn2 : ByteArray) (u u2 : Nat) (w : World) (h2 : 0 < u2) (HC : Hid (SCode true up dn false up2 dn2 0)) (D1 : Hid (Dm.isDec up.data.toList u)) (D3 : Hid (Dm.isDec up2.data.toList u2)) (s1 : up.size ≤ 60) (s3 : up2.size ≤ 60) (hs : u % u2 ≠ 0) :
    Calls Tryd.prog 13 #[.agg #[.bool true, .string up, .string dn], .agg #[.bool false, .string up2, .string dn2]] w fun e w' => e = .returned (.tuple #[.agg #[.bool (false && decide (u2 - u % u2 ≠ 0)), .string (decS (u2 - u % u2)), .string ⟨#[49]⟩], .int .i64 0]) ∧ Below w.heap.size w w' := by
  obtain ⟨S, hS⟩ : ∃ S, S = decS (u2 - u % u2) := ⟨_, rfl⟩
  obtain ⟨C, hC⟩ : ∃ C, C = (false && decide (u2 - u % u2 ≠ 0)) := ⟨_, rfl⟩
  rw [← hS, ← hC]
  have HM : Hid (∀ (W : World), Calls Tryd.prog 23 #[.bool false, .string S] W fun e w' => e = .returned (.agg #[.bool C, .string S, .string ⟨#[49]⟩]) ∧ Below W.heap.size W w') := by
    intro W
    have hz : (S.toList == [48]) = decide (u2 - u % u2 = 0) := by rw [hS]; exact isDec_zm _ _ (decS_dec _)
    have e : C = (false && !decide (u2 - u % u2 = 0)) := by rw [hC]; simp only [ne_eq, decide_not]
    rw [e]; exact l4Sign_any false S _ W hz
  have HS : Hid (S = decS (u2 - u % u2)) := hS
  have HZ : Hid (decide (u % u2 = 0) = false) := by exact decide_eq_false hs
  clear hS hC hs
  go_enter Tryd.func13, Tryd.ntmps13
  go_wp2_with fail
  obtain ⟨V, hV, hBV, x0, x1, x2⟩ := boxes3 w #[Value.bool true, Value.string up, Value.string dn] #[Value.bool false, Value.string up2, Value.string dn2] #[Value.bool false, Value.string ⟨#[]⟩, Value.string ⟨#[]⟩] 25 25 25
  rw [← hV]
  have HBV : Hid (Below w.heap.size w V) := hBV
  have Z0 : Hid (boxAt V _ _ _) := x0
  have Z1 : Hid (boxAt V _ _ _) := x1
  have Z2 : Hid (boxAt V _ _ _) := x2
  clear hV hBV x0 x1 x2
  refine (HC.out _).mono ?_
  rintro e w3 ⟨rfl, hb3⟩
  have HB3 : Hid (Below w.heap.size w w3) := HBV.out.trans (hb3.mono HBV.out.size)
  have Y0 : Hid (boxAt w3 _ _ _) := Z0.out.on hb3
  have Y1 : Hid (boxAt w3 _ _ _) := Z1.out.on hb3
  have Y2 : Hid (boxAt w3 _ _ _) := Z2.out.on hb3
  clear hb3 Z0 Z1 Z2 HBV HC
  have k00 := Y0.out.cell 1 rfl
  have k10 := Y1.out.cell 1 rfl
  go_wp2_with fail
  refine (l1Div_any up up2 u u2 _ (by omega) (by omega) D1.out D3.out h2).mono ?_
  rintro e w5 ⟨⟨t, t', rfl, _, ht'⟩, hb5⟩
  have hz := (isDec_zm t' _ ht').trans HZ.out
  have HT' : Hid (Dm.isDec t'.data.toList (u % u2)) := ht'
  have HB5 : Hid (Below w.heap.size w w5) := HB3.out.trans (hb5.mono HB3.out.size)
  have X0 : Hid (boxAt w5 _ _ _) := Y0.out.on hb5
  have X1 : Hid (boxAt w5 _ _ _) := Y1.out.on hb5
  have X2 : Hid (boxAt w5 _ _ _) := Y2.out.on hb5
  clear hb5 ht' Y0 Y1 Y2 HB3 k00 k10
  have k00 := X0.out.cell 0 rfl
  have k10 := X1.out.cell 0 rfl
  have k11 := X1.out.cell 1 rfl
  go_wp2_with fail
  refine (l1Sub_any up2 t' u2 (u % u2) _ (by omega) (by have := isDec_len_le t' _ 60 HT'.out u2 (Nat.le_of_lt (Nat.mod_lt _ h2)) up2 D3.out s3; omega) D3.out HT'.out (Nat.le_of_lt (Nat.mod_lt _ h2))).mono ?_
  rintro e w7 ⟨⟨t2, rfl, ht2⟩, hb7⟩
  have et2 : t2 = S := (dec_eq ht2).trans HS.out.symm
  clear HT' HS D1 D3 ht2
  subst et2
  have HB7 : Hid (Below w.heap.size w w7) := HB5.out.trans (hb7.mono HB5.out.size)
  have W0 : Hid (boxAt w7 _ _ _) := X0.out.on hb7
  have W1 : Hid (boxAt w7 _ _ _) := X1.out.on hb7
  have W2 : Hid (boxAt w7 _ _ _) := X2.out.on hb7
  clear hb7 X0 X1 X2 HB5 k00 k10 k11
  have HB5 := HB7
  have X2 := W2
  have k00 := W0.out.cell 0 rfl
  have k10 := W1.out.cell 0 rfl
  have k11 := W1.out.cell 1 rfl
  go_wp2_with fail
  refine (HM.out _).mono ?_
  rintro e w6 ⟨rfl, hb6⟩
  have HB9 : Hid (Below w.heap.size w w6) := HB5.out.trans (hb6.mono HB5.out.size)
  have T2 : Hid (boxAt w6 _ _ _) := X2.out.on hb6
  clear hb6 X2 HB5 k00 k10 k11
  have q0 := T2.out.cell 0 rfl
  have f0 := T2.out.frozen 0
  have q1 := T2.out.cell 1 rfl
  have f1 := T2.out.frozen 1
  have q2 := T2.out.cell 2 rfl
  have f2 := T2.out.frozen 2
  have hlt := T2.out.lt
  go_wp2
  simp only [bodyPost]
  refine ⟨trivial, _, ?_, rfl, ?_⟩
  · simp only [results, Tryd.results13]
    go_simp
  · (repeat' first | (with_reducible exact HB9.out) | (with_reducible refine bel_alloc0 ?_) | (with_reducible refine bel_set0 ?_ ?_) | (dsimp only; omega))

set_option maxHeartbeats 1600000 in
theorem sNumMod_mft (up dn : ByteArray) (up2 dn2 : ByteArray) (u u2 : Nat) (w : World) (h2 : 0 < u2) (HC : Hid (SCode false up dn true up2 dn2 0)) (D1 : Hid (Dm.isDec up.data.toList u)) (D3 : Hid (Dm.isDec up2.data.toList u2)) (s1 : up.size ≤ 60) (s3 : up2.size ≤ 60) (hs : u % u2 ≠ 0) :
    Calls Tryd.prog 13 #[.agg #[.bool false, .string up, .string dn], .agg #[.bool true, .string up2, .string dn2]] w fun e w' => e = .returned (.tuple #[.agg #[.bool (true && decide (u2 - u % u2 ≠ 0)), .string (decS (u2 - u % u2)), .string ⟨#[49]⟩], .int .i64 0]) ∧ Below w.heap.size w w' := by
  obtain ⟨S, hS⟩ : ∃ S, S = decS (u2 - u % u2) := ⟨_, rfl⟩
  obtain ⟨C, hC⟩ : ∃ C, C = (true && decide (u2 - u % u2 ≠ 0)) := ⟨_, rfl⟩
  rw [← hS, ← hC]
  have HM : Hid (∀ (W : World), Calls Tryd.prog 23 #[.bool true, .string S] W fun e w' => e = .returned (.agg #[.bool C, .string S, .string ⟨#[49]⟩]) ∧ Below W.heap.size W w') := by
    intro W
    have hz : (S.toList == [48]) = decide (u2 - u % u2 = 0) := by rw [hS]; exact isDec_zm _ _ (decS_dec _)
    have e : C = (true && !decide (u2 - u % u2 = 0)) := by rw [hC]; simp only [ne_eq, decide_not]
    rw [e]; exact l4Sign_any true S _ W hz
  have HS : Hid (S = decS (u2 - u % u2)) := hS
  have HZ : Hid (decide (u % u2 = 0) = false) := by exact decide_eq_false hs
  clear hS hC hs
  go_enter Tryd.func13, Tryd.ntmps13
  go_wp2_with fail
  obtain ⟨V, hV, hBV, x0, x1, x2⟩ := boxes3 w #[Value.bool false, Value.string up, Value.string dn] #[Value.bool true, Value.string up2, Value.string dn2] #[Value.bool false, Value.string ⟨#[]⟩, Value.string ⟨#[]⟩] 25 25 25
  rw [← hV]
  have HBV : Hid (Below w.heap.size w V) := hBV
  have Z0 : Hid (boxAt V _ _ _) := x0
  have Z1 : Hid (boxAt V _ _ _) := x1
  have Z2 : Hid (boxAt V _ _ _) := x2
  clear hV hBV x0 x1 x2
  refine (HC.out _).mono ?_
  rintro e w3 ⟨rfl, hb3⟩
  have HB3 : Hid (Below w.heap.size w w3) := HBV.out.trans (hb3.mono HBV.out.size)
  have Y0 : Hid (boxAt w3 _ _ _) := Z0.out.on hb3
  have Y1 : Hid (boxAt w3 _ _ _) := Z1.out.on hb3
  have Y2 : Hid (boxAt w3 _ _ _) := Z2.out.on hb3
  clear hb3 Z0 Z1 Z2 HBV HC
  have k00 := Y0.out.cell 1 rfl
  have k10 := Y1.out.cell 1 rfl
  go_wp2_with fail
  refine (l1Div_any up up2 u u2 _ (by omega) (by omega) D1.out D3.out h2).mono ?_
  rintro e w5 ⟨⟨t, t', rfl, _, ht'⟩, hb5⟩
  have hz := (isDec_zm t' _ ht').trans HZ.out
  have HT' : Hid (Dm.isDec t'.data.toList (u % u2)) := ht'
  have HB5 : Hid (Below w.heap.size w w5) := HB3.out.trans (hb5.mono HB3.out.size)
  have X0 : Hid (boxAt w5 _ _ _) := Y0.out.on hb5
  have X1 : Hid (boxAt w5 _ _ _) := Y1.out.on hb5
  have X2 : Hid (boxAt w5 _ _ _) := Y2.out.on hb5
  clear hb5 ht' Y0 Y1 Y2 HB3 k00 k10
  have k00 := X0.out.cell 0 rfl
  have k10 := X1.out.cell 0 rfl
  have k11 := X1.out.cell 1 rfl
  go_wp2_with fail
  refine (l1Sub_any up2 t' u2 (u % u2) _ (by omega) (by have := isDec_len_le t' _ 60 HT'.out u2 (Nat.le_of_lt (Nat.mod_lt _ h2)) up2 D3.out s3; omega) D3.out HT'.out (Nat.le_of_lt (Nat.mod_lt _ h2))).mono ?_
  rintro e w7 ⟨⟨t2, rfl, ht2⟩, hb7⟩
  have et2 : t2 = S := (dec_eq ht2).trans HS.out.symm
  clear HT' HS D1 D3 ht2
  subst et2
  have HB7 : Hid (Below w.heap.size w w7) := HB5.out.trans (hb7.mono HB5.out.size)
  have W0 : Hid (boxAt w7 _ _ _) := X0.out.on hb7
  have W1 : Hid (boxAt w7 _ _ _) := X1.out.on hb7
  have W2 : Hid (boxAt w7 _ _ _) := X2.out.on hb7
  clear hb7 X0 X1 X2 HB5 k00 k10 k11
  have HB5 := HB7
  have X2 := W2
  have k00 := W0.out.cell 0 rfl
  have k10 := W1.out.cell 0 rfl
  have k11 := W1.out.cell 1 rfl
  go_wp2_with fail
  refine (HM.out _).mono ?_
  rintro e w6 ⟨rfl, hb6⟩
  have HB9 : Hid (Below w.heap.size w w6) := HB5.out.trans (hb6.mono HB5.out.size)
  have T2 : Hid (boxAt w6 _ _ _) := X2.out.on hb6
  clear hb6 X2 HB5 k00 k10 k11
  have q0 := T2.out.cell 0 rfl
  have f0 := T2.out.frozen 0
  have q1 := T2.out.cell 1 rfl
  have f1 := T2.out.frozen 1
  have q2 := T2.out.cell 2 rfl
  have f2 := T2.out.frozen 2
  have hlt := T2.out.lt
  go_wp2
  simp only [bodyPost]
  refine ⟨trivial, _, ?_, rfl, ?_⟩
  · simp only [results, Tryd.results13]
    go_simp
  · (repeat' first | (with_reducible exact HB9.out) | (with_reducible refine bel_alloc0 ?_) | (with_reducible refine bel_set0 ?_ ?_) | (dsimp only; omega))

theorem sNumMod_e (neg : Bool) (up dn : ByteArray) (neg2 : Bool) (up2 dn2 : ByteArray) (u u2 : Nat) (w : World) (h2 : 0 < u2) (HC : Hid (SCode neg up dn neg2 up2 dn2 0)) (D1 : Hid (Dm.isDec up.data.toList u)) (D3 : Hid (Dm.isDec up2.data.toList u2)) (s1 : up.size ≤ 60) (s3 : up2.size ≤ 60) (hs : u % u2 ≠ 0) (he : neg = neg2) :
    Calls Tryd.prog 13 #[.agg #[.bool neg, .string up, .string dn], .agg #[.bool neg2, .string up2, .string dn2]] w fun e w' => e = .returned (.tuple #[.agg #[.bool (neg && decide (u % u2 ≠ 0)), .string (decS (u % u2)), .string ⟨#[49]⟩], .int .i64 0]) ∧ Below w.heap.size w w' := by
  cases neg <;> cases neg2
  · exact sNumMod_eff up dn up2 dn2 u u2 w h2 HC D1 D3 s1 s3 hs
  · exact absurd he (by decide)
  · exact absurd he (by decide)
  · exact sNumMod_ett up dn up2 dn2 u u2 w h2 HC D1 D3 s1 s3 hs

theorem sNumMod_m (neg : Bool) (up dn : ByteArray) (neg2 : Bool) (up2 dn2 : ByteArray) (u u2 : Nat) (w : World) (h2 : 0 < u2) (HC : Hid (SCode neg up dn neg2 up2 dn2 0)) (D1 : Hid (Dm.isDec up.data.toList u)) (D3 : Hid (Dm.isDec up2.data.toList u2)) (s1 : up.size ≤ 60) (s3 : up2.size ≤ 60) (hs : u % u2 ≠ 0) (he : (neg == neg2) = false) :
    Calls Tryd.prog 13 #[.agg #[.bool neg, .string up, .string dn], .agg #[.bool neg2, .string up2, .string dn2]] w fun e w' => e = .returned (.tuple #[.agg #[.bool (neg2 && decide (u2 - u % u2 ≠ 0)), .string (decS (u2 - u % u2)), .string ⟨#[49]⟩], .int .i64 0]) ∧ Below w.heap.size w w' := by
  cases neg <;> cases neg2
  · exact absurd he (by decide)
  · exact sNumMod_mft up dn up2 dn2 u u2 w h2 HC D1 D3 s1 s3 hs
  · exact sNumMod_mtf up dn up2 dn2 u u2 w h2 HC D1 D3 s1 s3 hs
  · exact absurd he (by decide)

end Go.Proofs.YtaggfbffdbompaaDoor
