/-
  Contracts of the program's and of the specification's NumQuo.
-/
import Derived.Test.YtaggfbffdbompaaDoorWhole4
import Derived.Test.YtaggfbffdbompaaDoorSpec6
namespace Go.Proofs.YtaggfbffdbompaaDoor
set_option maxRecDepth 100000
set_option linter.unusedVariables false
set_option linter.unusedSimpArgs false
open Go.RowKit
attribute [local go_sem ↓] Go.wp_at_zero Go.wp_at_succ

/-- Two numbers and a code. -/
def twoNums (C : Bool) (U D : ByteArray) (C2 : Bool) (U2 D2 : ByteArray) (K : Int) : Ending := .returned (.tuple #[.agg #[.bool C, .string U, .string D], .agg #[.bool C2, .string U2, .string D2], .int .i64 K])

set_option maxHeartbeats 1600000 in
theorem iNumQuo_err (neg : Bool) (up dn : ByteArray) (neg2 : Bool) (up2 dn2 : ByteArray) (c : Int) (w : World) (HR : Hid (WErr 24 neg up dn neg2 up2 dn2 c)) (hg : EB w) :
    Calls Tryd.prog 11 #[.agg #[.bool neg, .string up, .string dn], .agg #[.bool neg2, .string up2, .string dn2]] w fun e w' => e = twoNums false ⟨#[]⟩ ⟨#[]⟩ false ⟨#[]⟩ ⟨#[]⟩ c ∧ Below w.heap.size w w' := by
  unfold twoNums
  have HG : Hid (EB w) := hg
  clear hg
  go_enter Tryd.func11, Tryd.ntmps11
  go_wp2_with fail
  obtain ⟨V, hV, hBV, x0, x1, x2, x3⟩ := boxes4 w #[Value.bool neg, Value.string up, Value.string dn] #[Value.bool neg2, Value.string up2, Value.string dn2] #[Value.bool false, Value.string ⟨#[]⟩, Value.string ⟨#[]⟩] #[Value.bool false, Value.string ⟨#[]⟩, Value.string ⟨#[]⟩] 25 25 25 25
  rw [← hV]
  have HBV : Hid (Below w.heap.size w V) := hBV
  have Z0 : Hid (boxAt V _ _ _) := x0
  have Z1 : Hid (boxAt V _ _ _) := x1
  have Z2 : Hid (boxAt V _ _ _) := x2
  have Z3 : Hid (boxAt V _ _ _) := x3
  clear hV hBV x0 x1 x2 x3
  refine (HR.out _).mono ?_
  rintro e w3 ⟨rfl, hb3⟩
  have HB3 : Hid (Below w.heap.size w w3) := HBV.out.trans (hb3.mono HBV.out.size)
  have Y2 : Hid (boxAt w3 _ _ _) := Z2.out.on hb3
  have Y3 : Hid (boxAt w3 _ _ _) := Z3.out.on hb3
  have hlt3 := Y3.out.lt
  clear hb3 Z0 Z1 Z2 Z3 HBV HR
  go_wp2_with fail
  obtain ⟨W, hW, hBW, x0, x1⟩ := boxes2 w3 #[Value.bool false, Value.slice none 0 0] #[Value.bool false, Value.slice none 0 0] 44 44
  rw [← hW]
  have HB4 : Hid (Below w.heap.size w W) := HB3.out.trans (hBW.mono HB3.out.size)
  have V2 : Hid (boxAt W _ _ _) := Y2.out.on hBW
  have V3 : Hid (boxAt W _ _ _) := Y3.out.on hBW
  clear hW hBW x0 x1 Y2 Y3 HB3
  refine (codeOf_reason c _ (HG.out.on HB4.out)).mono ?_
  rintro e w6 ⟨rfl, hb6⟩
  have HB9 : Hid (Below w.heap.size w w6) := HB4.out.trans (hb6.mono HB4.out.size)
  have U2 : Hid (boxAt w6 _ _ _) := V2.out.on hb6
  have U3 : Hid (boxAt w6 _ _ _) := V3.out.on hb6
  clear hb6 V2 V3 HB4
  have q00 := U2.out.cell 0 rfl
  have f00 := U2.out.frozen 0
  have q01 := U2.out.cell 1 rfl
  have f01 := U2.out.frozen 1
  have q02 := U2.out.cell 2 rfl
  have f02 := U2.out.frozen 2
  have hl0 := U2.out.lt
  have q10 := U3.out.cell 0 rfl
  have f10 := U3.out.frozen 0
  have q11 := U3.out.cell 1 rfl
  have f11 := U3.out.frozen 1
  have q12 := U3.out.cell 2 rfl
  have f12 := U3.out.frozen 2
  have hl1 := U3.out.lt
  go_wp2
  simp only [bodyPost]
  refine ⟨trivial, _, ?_, rfl, ?_⟩
  · simp only [results, Tryd.results11]
    go_simp
  · (repeat' first | (with_reducible exact HB9.out) | (with_reducible refine bel_set0 ?_ ?_) | (with_reducible refine bel_alloc0 ?_) | (dsimp only; omega))

set_option maxHeartbeats 1600000 in
theorem sNumQuo_1 (neg : Bool) (up dn : ByteArray) (neg2 : Bool) (up2 dn2 : ByteArray) (w : World) (HC : Hid (SCode neg up dn neg2 up2 dn2 1)) :
    Calls Tryd.prog 9 #[.agg #[.bool neg, .string up, .string dn], .agg #[.bool neg2, .string up2, .string dn2]] w fun e w' => e = twoNums false ⟨#[]⟩ ⟨#[]⟩ false ⟨#[]⟩ ⟨#[]⟩ 1 ∧ Below w.heap.size w w' := by
  unfold twoNums
  go_enter Tryd.func9, Tryd.ntmps9
  go_wp2_with fail
  obtain ⟨V, hV, hBV, x0, x1, x2, x3⟩ := boxes4 w #[Value.bool neg, Value.string up, Value.string dn] #[Value.bool neg2, Value.string up2, Value.string dn2] #[Value.bool false, Value.string ⟨#[]⟩, Value.string ⟨#[]⟩] #[Value.bool false, Value.string ⟨#[]⟩, Value.string ⟨#[]⟩] 25 25 25 25
  rw [← hV]
  have HBV : Hid (Below w.heap.size w V) := hBV
  have Z0 : Hid (boxAt V _ _ _) := x0
  have Z1 : Hid (boxAt V _ _ _) := x1
  have Z2 : Hid (boxAt V _ _ _) := x2
  have Z3 : Hid (boxAt V _ _ _) := x3
  clear hV hBV x0 x1 x2 x3
  refine (HC.out _).mono ?_
  rintro e w3 ⟨rfl, hb3⟩
  have HB9 : Hid (Below w.heap.size w w3) := HBV.out.trans (hb3.mono HBV.out.size)
  have Y2 : Hid (boxAt w3 _ _ _) := Z2.out.on hb3
  have Y3 : Hid (boxAt w3 _ _ _) := Z3.out.on hb3
  clear hb3 Z0 Z1 Z2 Z3 HBV HC
  have q00 := Y2.out.cell 0 rfl
  have f00 := Y2.out.frozen 0
  have q01 := Y2.out.cell 1 rfl
  have f01 := Y2.out.frozen 1
  have q02 := Y2.out.cell 2 rfl
  have f02 := Y2.out.frozen 2
  have hl0 := Y2.out.lt
  have q10 := Y3.out.cell 0 rfl
  have f10 := Y3.out.frozen 0
  have q11 := Y3.out.cell 1 rfl
  have f11 := Y3.out.frozen 1
  have q12 := Y3.out.cell 2 rfl
  have f12 := Y3.out.frozen 2
  have hl1 := Y3.out.lt
  go_wp2
  simp only [bodyPost]
  refine ⟨trivial, _, ?_, rfl, ?_⟩
  · simp only [results, Tryd.results9]
    go_simp
  · (repeat' first | (with_reducible exact HB9.out) | (with_reducible refine bel_set0 ?_ ?_) | (with_reducible refine bel_alloc0 ?_) | (dsimp only; omega))

set_option maxHeartbeats 1600000 in
theorem sNumQuo_4 (neg : Bool) (up dn : ByteArray) (neg2 : Bool) (up2 dn2 : ByteArray) (w : World) (HC : Hid (SCode neg up dn neg2 up2 dn2 4)) :
    Calls Tryd.prog 9 #[.agg #[.bool neg, .string up, .string dn], .agg #[.bool neg2, .string up2, .string dn2]] w fun e w' => e = twoNums false ⟨#[]⟩ ⟨#[]⟩ false ⟨#[]⟩ ⟨#[]⟩ 4 ∧ Below w.heap.size w w' := by
  unfold twoNums
  go_enter Tryd.func9, Tryd.ntmps9
  go_wp2_with fail
  obtain ⟨V, hV, hBV, x0, x1, x2, x3⟩ := boxes4 w #[Value.bool neg, Value.string up, Value.string dn] #[Value.bool neg2, Value.string up2, Value.string dn2] #[Value.bool false, Value.string ⟨#[]⟩, Value.string ⟨#[]⟩] #[Value.bool false, Value.string ⟨#[]⟩, Value.string ⟨#[]⟩] 25 25 25 25
  rw [← hV]
  have HBV : Hid (Below w.heap.size w V) := hBV
  have Z0 : Hid (boxAt V _ _ _) := x0
  have Z1 : Hid (boxAt V _ _ _) := x1
  have Z2 : Hid (boxAt V _ _ _) := x2
  have Z3 : Hid (boxAt V _ _ _) := x3
  clear hV hBV x0 x1 x2 x3
  refine (HC.out _).mono ?_
  rintro e w3 ⟨rfl, hb3⟩
  have HB9 : Hid (Below w.heap.size w w3) := HBV.out.trans (hb3.mono HBV.out.size)
  have Y2 : Hid (boxAt w3 _ _ _) := Z2.out.on hb3
  have Y3 : Hid (boxAt w3 _ _ _) := Z3.out.on hb3
  clear hb3 Z0 Z1 Z2 Z3 HBV HC
  have q00 := Y2.out.cell 0 rfl
  have f00 := Y2.out.frozen 0
  have q01 := Y2.out.cell 1 rfl
  have f01 := Y2.out.frozen 1
  have q02 := Y2.out.cell 2 rfl
  have f02 := Y2.out.frozen 2
  have hl0 := Y2.out.lt
  have q10 := Y3.out.cell 0 rfl
  have f10 := Y3.out.frozen 0
  have q11 := Y3.out.cell 1 rfl
  have f11 := Y3.out.frozen 1
  have q12 := Y3.out.cell 2 rfl
  have f12 := Y3.out.frozen 2
  have hl1 := Y3.out.lt
  go_wp2
  simp only [bodyPost]
  refine ⟨trivial, _, ?_, rfl, ?_⟩
  · simp only [results, Tryd.results9]
    go_simp
  · (repeat' first | (with_reducible exact HB9.out) | (with_reducible refine bel_set0 ?_ ?_) | (with_reducible refine bel_alloc0 ?_) | (dsimp only; omega))

set_option maxHeartbeats 1600000 in
theorem sNumQuo_2 (neg : Bool) (up dn : ByteArray) (neg2 : Bool) (up2 dn2 : ByteArray) (w : World) (HC : Hid (SCode neg up dn neg2 up2 dn2 2)) :
    Calls Tryd.prog 9 #[.agg #[.bool neg, .string up, .string dn], .agg #[.bool neg2, .string up2, .string dn2]] w fun e w' => e = twoNums false ⟨#[]⟩ ⟨#[]⟩ false ⟨#[]⟩ ⟨#[]⟩ 2 ∧ Below w.heap.size w w' := by
  unfold twoNums
  go_enter Tryd.func9, Tryd.ntmps9
  go_wp2_with fail
  obtain ⟨V, hV, hBV, x0, x1, x2, x3⟩ := boxes4 w #[Value.bool neg, Value.string up, Value.string dn] #[Value.bool neg2, Value.string up2, Value.string dn2] #[Value.bool false, Value.string ⟨#[]⟩, Value.string ⟨#[]⟩] #[Value.bool false, Value.string ⟨#[]⟩, Value.string ⟨#[]⟩] 25 25 25 25
  rw [← hV]
  have HBV : Hid (Below w.heap.size w V) := hBV
  have Z0 : Hid (boxAt V _ _ _) := x0
  have Z1 : Hid (boxAt V _ _ _) := x1
  have Z2 : Hid (boxAt V _ _ _) := x2
  have Z3 : Hid (boxAt V _ _ _) := x3
  clear hV hBV x0 x1 x2 x3
  refine (HC.out _).mono ?_
  rintro e w3 ⟨rfl, hb3⟩
  have HB9 : Hid (Below w.heap.size w w3) := HBV.out.trans (hb3.mono HBV.out.size)
  have Y2 : Hid (boxAt w3 _ _ _) := Z2.out.on hb3
  have Y3 : Hid (boxAt w3 _ _ _) := Z3.out.on hb3
  clear hb3 Z0 Z1 Z2 Z3 HBV HC
  have q00 := Y2.out.cell 0 rfl
  have f00 := Y2.out.frozen 0
  have q01 := Y2.out.cell 1 rfl
  have f01 := Y2.out.frozen 1
  have q02 := Y2.out.cell 2 rfl
  have f02 := Y2.out.frozen 2
  have hl0 := Y2.out.lt
  have q10 := Y3.out.cell 0 rfl
  have f10 := Y3.out.frozen 0
  have q11 := Y3.out.cell 1 rfl
  have f11 := Y3.out.frozen 1
  have q12 := Y3.out.cell 2 rfl
  have f12 := Y3.out.frozen 2
  have hl1 := Y3.out.lt
  go_wp2
  simp only [bodyPost]
  refine ⟨trivial, _, ?_, rfl, ?_⟩
  · simp only [results, Tryd.results9]
    go_simp
  · (repeat' first | (with_reducible exact HB9.out) | (with_reducible refine bel_set0 ?_ ?_) | (with_reducible refine bel_alloc0 ?_) | (dsimp only; omega))

set_option maxHeartbeats 4000000 in
theorem iNumQuo_yes (neg : Bool) (up dn : ByteArray) (neg2 : Bool) (up2 dn2 : ByteArray) (u u2 : Nat) (w : World) (h2 : 0 < u2) (HR : Hid (WYes 24 neg up dn neg2 up2 dn2 u u2)) (e1 : fits u 7) (e3 : fits u2 7) (s1 : up.size ≤ 60) (s3 : up2.size ≤ 60) (htab : TB w) :
    Calls Tryd.prog 11 #[.agg #[.bool neg, .string up, .string dn], .agg #[.bool neg2, .string up2, .string dn2]] w fun e w' => e = twoNums ((neg != neg2) && decide (u / u2 ≠ 0)) (decS (u / u2)) ⟨#[49]⟩ (neg && decide (u % u2 ≠ 0)) (decS (u % u2)) ⟨#[49]⟩ 0 ∧ Below w.heap.size w w' := by
  unfold twoNums
  have HT : Hid (TB w) := htab
  have f1 : fits u 8000 := e1.mono (Nat.le_refl _) (by omega)
  have f3 : fits u2 8000 := e3.mono (Nat.le_refl _) (by omega)
  have fq : fits (u / u2) 10000 := e1.mono (Nat.div_le_self _ _) (by omega)
  have fr : fits (u % u2) 10000 := e3.mono (Nat.le_of_lt (Nat.mod_lt _ h2)) (by omega)
  obtain ⟨S1, hS1⟩ : ∃ S, S = decS (u / u2) := ⟨_, rfl⟩
  obtain ⟨S2, hS2⟩ : ∃ S, S = decS (u % u2) := ⟨_, rfl⟩
  obtain ⟨C1, hC1⟩ : ∃ C, C = ((neg != neg2) && decide (u / u2 ≠ 0)) := ⟨_, rfl⟩
  obtain ⟨C2, hC2⟩ : ∃ C, C = (neg && decide (u % u2 ≠ 0)) := ⟨_, rfl⟩
  rw [← hS1, ← hS2, ← hC1, ← hC2]
  have HN : Hid (∀ (b : Bool) (a : Option Addr) (l c k : Nat) (W : World), (b && decide (u / u2 ≠ 0)) = C1 → isN W (.slice a l c) (u / u2) → k ≤ 60 → TB W → Calls Tryd.prog 27 #[.agg #[.bool b, .slice a l c], .int .i64 k] W fun e w' => e = .returned (.agg #[.bool C1, .string S1, .string ⟨#[49]⟩]) ∧ Below W.heap.size W w') := by
    intro b a l c k W h1 hn hk ht
    rw [← h1, hS1]; exact numOfWhole_any b a l c _ k W hn fq (by omega) ht
  have HM : Hid (∀ (b : Bool) (a : Option Addr) (l c k : Nat) (W : World), (b && decide (u % u2 ≠ 0)) = C2 → isN W (.slice a l c) (u % u2) → k ≤ 60 → TB W → Calls Tryd.prog 27 #[.agg #[.bool b, .slice a l c], .int .i64 k] W fun e w' => e = .returned (.agg #[.bool C2, .string S2, .string ⟨#[49]⟩]) ∧ Below W.heap.size W w') := by
    intro b a l c k W h1 hn hk ht
    rw [← h1, hS2]; exact numOfWhole_any b a l c _ k W hn fr (by omega) ht
  have E1 : Hid (((neg != neg2) && decide (u / u2 ≠ 0)) = C1) := hC1.symm
  have E2 : Hid ((neg && decide (u % u2 ≠ 0)) = C2) := hC2.symm
  clear htab hS1 hS2 hC1 hC2
  go_enter Tryd.func11, Tryd.ntmps11
  go_wp2_with fail
  obtain ⟨V, hV, hBV, x0, x1, x2, x3⟩ := boxes4 w #[Value.bool neg, Value.string up, Value.string dn] #[Value.bool neg2, Value.string up2, Value.string dn2] #[Value.bool false, Value.string ⟨#[]⟩, Value.string ⟨#[]⟩] #[Value.bool false, Value.string ⟨#[]⟩, Value.string ⟨#[]⟩] 25 25 25 25
  rw [← hV]
  have HBV : Hid (Below w.heap.size w V) := hBV
  have Z0 : Hid (boxAt V _ _ _) := x0
  have Z1 : Hid (boxAt V _ _ _) := x1
  have Z2 : Hid (boxAt V _ _ _) := x2
  have Z3 : Hid (boxAt V _ _ _) := x3
  clear hV hBV x0 x1 x2 x3
  refine (HR.out _).mono ?_
  rintro e w3 ⟨⟨a1, l1, c1, a3, l3, c3, rfl, n1, n3⟩, hb3⟩
  have HB3 : Hid (Below w.heap.size w w3) := HBV.out.trans (hb3.mono HBV.out.size)
  have Y0 : Hid (boxAt w3 _ _ _) := Z0.out.on hb3
  have Y1 : Hid (boxAt w3 _ _ _) := Z1.out.on hb3
  have Y2 : Hid (boxAt w3 _ _ _) := Z2.out.on hb3
  have Y3 : Hid (boxAt w3 _ _ _) := Z3.out.on hb3
  have hlt3 := Y3.out.lt
  clear hb3 Z0 Z1 Z2 Z3 HBV HR
  go_wp2_with fail
  obtain ⟨W, hW, hBW, x0, x1⟩ := boxes2 w3 #[Value.bool neg, Value.slice a1 l1 c1] #[Value.bool neg2, Value.slice a3 l3 c3] 44 44
  rw [← hW]
  have HB4 : Hid (Below w.heap.size w W) := HB3.out.trans (hBW.mono HB3.out.size)
  have V0 : Hid (boxAt W _ _ _) := Y0.out.on hBW
  have V1 : Hid (boxAt W _ _ _) := Y1.out.on hBW
  have V2 : Hid (boxAt W _ _ _) := Y2.out.on hBW
  have V3 : Hid (boxAt W _ _ _) := Y3.out.on hBW
  have N1 : Hid (isN W (.slice a1 l1 c1) _) := isN_below n1.out hBW
  have N3 : Hid (isN W (.slice a3 l3 c3) _) := isN_below n3.out hBW
  clear hW hBW x0 x1 n1 n3 Y0 Y1 Y2 Y3 HB3
  refine (sdivide_any neg a1 l1 c1 neg2 a3 l3 c3 u u2 _ N1.out N3.out h2 f1 f3).mono ?_
  rintro e w6 ⟨⟨a6, l6, c6, a7, l7, c7, rfl, h6, h7⟩, hb6⟩
  have HB6 : Hid (Below w.heap.size w w6) := HB4.out.trans (hb6.mono HB4.out.size)
  have U0 : Hid (boxAt w6 _ _ _) := V0.out.on hb6
  have U1 : Hid (boxAt w6 _ _ _) := V1.out.on hb6
  have U2 : Hid (boxAt w6 _ _ _) := V2.out.on hb6
  have U3 : Hid (boxAt w6 _ _ _) := V3.out.on hb6
  have hltU := U3.out.lt
  clear hb6 V0 V1 V2 V3 HB4 N1 N3
  go_wp2_with fail
  obtain ⟨X, hX, hBX, x0, x1⟩ := boxes2 w6 #[Value.bool (neg != neg2), Value.slice a6 l6 c6] #[Value.bool neg, Value.slice a7 l7 c7] 44 44
  rw [← hX]
  have HB7 : Hid (Below w.heap.size w X) := HB6.out.trans (hBX.mono HB6.out.size)
  have T0 : Hid (boxAt X _ _ _) := U0.out.on hBX
  have T1 : Hid (boxAt X _ _ _) := U1.out.on hBX
  have T2 : Hid (boxAt X _ _ _) := U2.out.on hBX
  have T3 : Hid (boxAt X _ _ _) := U3.out.on hBX
  have T4 : Hid (boxAt X _ _ _) := x0
  have T5 : Hid (boxAt X _ _ _) := x1
  have P6 : Hid (isN X (.slice a6 l6 c6) _) := isN_below h6.out hBX
  have P7 : Hid (isN X (.slice a7 l7 c7) _) := isN_below h7.out hBX
  clear hX hBX x0 x1 U0 U1 U2 U3 HB6 h6 h7
  have k00 := T0.out.cell 1 rfl
  have k10 := T1.out.cell 1 rfl
  have k40 := T4.out.cell 0 rfl
  have k41 := T4.out.cell 1 rfl
  have k50 := T5.out.cell 0 rfl
  have k51 := T5.out.cell 1 rfl
  go_wp2_with fail
  refine Go.wp_mono (Q := fun e a' w' => match e with | .normal => (∃ us : Array Value, a' = { tmps := us, defers := [] } ∧ us[4]? = some (.pointer (some ⟨w.heap.size + 1 + 1, 0, none⟩)) ∧ us[5]? = some (.pointer (some ⟨w.heap.size + 1 + 1 + 1, 0, none⟩)) ∧ us[6]? = some (.int .i64 0)) ∧ ((w'.cell? ⟨w.heap.size + 1 + 1, 0, none⟩ = some (.bool C1) ∧ w'.cell? ⟨w.heap.size + 1 + 1, 1, none⟩ = some (.string S1) ∧ w'.cell? ⟨w.heap.size + 1 + 1, 2, none⟩ = some (.string ⟨#[49]⟩)) ∧ (w'.cell? ⟨w.heap.size + 1 + 1 + 1, 0, none⟩ = some (.bool C2) ∧ w'.cell? ⟨w.heap.size + 1 + 1 + 1, 1, none⟩ = some (.string S2) ∧ w'.cell? ⟨w.heap.size + 1 + 1 + 1, 2, none⟩ = some (.string ⟨#[49]⟩))) ∧ Below w.heap.size w w' | _ => False) ?_ ?_
  · have hlt := T3.out.lt
    go_region_held3 (fun w' => (w'.cell? ⟨w.heap.size, 1, none⟩ = some (.string up) ∧ w'.cell? ⟨w.heap.size + 1, 1, none⟩ = some (.string up2)) ∧ ((w'.cell? ⟨w6.heap.size, 0, none⟩ = some (.bool (neg != neg2)) ∧ w'.cell? ⟨w6.heap.size, 1, none⟩ = some (.slice a6 l6 c6)) ∧ (w'.cell? ⟨w6.heap.size + 1, 0, none⟩ = some (.bool neg) ∧ w'.cell? ⟨w6.heap.size + 1, 1, none⟩ = some (.slice a7 l7 c7))))
      ((repeat' apply And.intro) <;> first | (with_reducible assumption) | ((with_reducible refine keep_set (keep_set (keep_set (keep_set (keep_set (keep_set ?_ ?_) ?_) ?_) ?_) ?_) ?_) <;> first | omega | (with_reducible assumption)) | ((with_reducible refine keep_drew (keep_set (keep_set (keep_set (keep_set (keep_set (keep_set ?_ ?_) ?_) ?_) ?_) ?_) ?_)) <;> first | omega | (with_reducible assumption)) | ((with_reducible refine keep_set (keep_set (keep_set ?_ ?_) ?_) ?_) <;> first | omega | (with_reducible assumption)) | ((with_reducible refine keep_drew (keep_set (keep_set (keep_set ?_ ?_) ?_) ?_)) <;> first | omega | (with_reducible assumption)) | (go_keep; done))
      (first
        | (go_at_call_of 27 (Value.slice a6 l6 c6); refine (HN.out _ a6 l6 c6 _ _ E1.out (isN_below P6.out (below_drew _)) s1 (HT.out.on HB7.out.drew)).mono ?_; rintro e wb ⟨rfl, hbb⟩; have B0 : Hid (boxAt wb _ _ _) := T0.out.drew.on hbb; have B1 : Hid (boxAt wb _ _ _) := T1.out.drew.on hbb; have B2 : Hid (boxAt wb _ _ _) := T2.out.drew.on hbb; have B3 : Hid (boxAt wb _ _ _) := T3.out.drew.on hbb; have B4 : Hid (boxAt wb _ _ _) := T4.out.drew.on hbb; have B5 : Hid (boxAt wb _ _ _) := T5.out.drew.on hbb; have bc0 : wb.cell? ⟨w.heap.size, 1, none⟩ = some (.string up) := B0.out.cell 1 rfl; have bc1 : wb.cell? ⟨w.heap.size + 1, 1, none⟩ = some (.string up2) := B1.out.cell 1 rfl; have bc40 : wb.cell? ⟨w6.heap.size, 0, none⟩ = some (.bool (neg != neg2)) := B4.out.cell 0 rfl; have bc41 : wb.cell? ⟨w6.heap.size, 1, none⟩ = some (.slice a6 l6 c6) := B4.out.cell 1 rfl; have bc50 : wb.cell? ⟨w6.heap.size + 1, 0, none⟩ = some (.bool neg) := B5.out.cell 0 rfl; have bc51 : wb.cell? ⟨w6.heap.size + 1, 1, none⟩ = some (.slice a7 l7 c7) := B5.out.cell 1 rfl; have HBb : Hid (Below w.heap.size w wb) := HB7.out.drew.trans (hbb.mono HB7.out.size); have M7 : Hid (isN wb (.slice a7 l7 c7) _) := isN_below (isN_below P7.out (below_drew _)) hbb; clear hbb)
        | (go_at_call 27; refine (HM.out _ a7 l7 c7 _ _ E2.out M7.out s3 (HT.out.on HBb.out)).mono ?_; rintro e wc ⟨rfl, hbc⟩; have D0 : Hid (boxAt wc _ _ _) := B0.out.on hbc; have D1 : Hid (boxAt wc _ _ _) := B1.out.on hbc; have D2 : Hid (boxAt wc _ _ _) := B2.out.on hbc; have D3 : Hid (boxAt wc _ _ _) := B3.out.on hbc; have D4 : Hid (boxAt wc _ _ _) := B4.out.on hbc; have D5 : Hid (boxAt wc _ _ _) := B5.out.on hbc; have dc0 : wc.cell? ⟨w.heap.size, 1, none⟩ = some (.string up) := D0.out.cell 1 rfl; have dc1 : wc.cell? ⟨w.heap.size + 1, 1, none⟩ = some (.string up2) := D1.out.cell 1 rfl; have dc40 : wc.cell? ⟨w6.heap.size, 0, none⟩ = some (.bool (neg != neg2)) := D4.out.cell 0 rfl; have dc41 : wc.cell? ⟨w6.heap.size, 1, none⟩ = some (.slice a6 l6 c6) := D4.out.cell 1 rfl; have dc50 : wc.cell? ⟨w6.heap.size + 1, 0, none⟩ = some (.bool neg) := D5.out.cell 0 rfl; have dc51 : wc.cell? ⟨w6.heap.size + 1, 1, none⟩ = some (.slice a7 l7 c7) := D5.out.cell 1 rfl; have HBc : Hid (Below w.heap.size w wc) := HBb.out.trans (hbc.mono HBb.out.size); have r0 := D2.out.cell 0 rfl; have r1 := D2.out.cell 1 rfl; have r2 := D2.out.cell 2 rfl; have g0 := D2.out.frozen 0; have g1 := D2.out.frozen 1; have g2 := D2.out.frozen 2; have r3 := D3.out.cell 0 rfl; have r4 := D3.out.cell 1 rfl; have r5 := D3.out.cell 2 rfl; have g3 := D3.out.frozen 0; have g4 := D3.out.frozen 1; have g5 := D3.out.frozen 2; have hlD := D3.out.lt; clear hbc))
    all_goals
      refine ⟨⟨_, rfl, rfl, rfl, rfl⟩, ⟨⟨?_, ?_, ?_⟩, ?_, ?_, ?_⟩, ?_⟩
      · go_simp
      · go_simp
      · go_simp
      · go_simp
      · go_simp
      · go_simp
      · (repeat' first | (with_reducible exact HBc.out) | (with_reducible refine bel_set0 ?_ ?_) | (with_reducible refine bel_drew0 ?_) | (dsimp only; omega))
  · intro e a' w' hq
    cases e
    case normal =>
      obtain ⟨⟨us, rfl, hus4, hus5, hus6⟩, ⟨⟨hv0, hv1, hv2⟩, hv3, hv4, hv5⟩, hb⟩ := hq
      go_wp2
      simp only [bodyPost]
      refine ⟨trivial, _, ?_, rfl, hb⟩
      simp only [results, Tryd.results11]
      go_simp
    all_goals exact hq.elim

end Go.Proofs.YtaggfbffdbompaaDoor
