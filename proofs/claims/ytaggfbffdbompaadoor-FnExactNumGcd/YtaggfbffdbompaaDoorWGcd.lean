/-
  Contracts of the program's and of the specification's NumGcd.
-/
import Derived.Test.YtaggfbffdbompaaDoorWhole4
import Derived.Test.YtaggfbffdbompaaDoorSpec6
import Derived.Test.YtaggfbffdbompaaDoorGcd
namespace Go.Proofs.YtaggfbffdbompaaDoor
set_option maxRecDepth 100000
set_option linter.unusedVariables false
set_option linter.unusedSimpArgs false
open Go.RowKit
attribute [local go_sem ↓] Go.wp_at_zero Go.wp_at_succ

set_option maxHeartbeats 1600000 in
theorem iNumGcd_err (neg : Bool) (up dn : ByteArray) (neg2 : Bool) (up2 dn2 : ByteArray) (c : Int) (w : World) (HR : Hid (WErr 32 neg up dn neg2 up2 dn2 c)) (hg : EB w) :
    Calls Tryd.prog 16 #[.agg #[.bool neg, .string up, .string dn], .agg #[.bool neg2, .string up2, .string dn2]] w fun e w' => e = .returned (.tuple #[.agg #[.bool false, .string ⟨#[]⟩, .string ⟨#[]⟩], .int .i64 c]) ∧ Below w.heap.size w w' := by
  have HG : Hid (EB w) := hg
  clear hg
  go_enter Tryd.func16, Tryd.ntmps16
  go_wp2_with fail
  obtain ⟨V, hV, hBV, x0, x1, x2⟩ := boxes3 w #[Value.bool neg, Value.string up, Value.string dn] #[Value.bool neg2, Value.string up2, Value.string dn2] #[Value.bool false, Value.string ⟨#[]⟩, Value.string ⟨#[]⟩] 25 25 25
  rw [← hV]
  have HBV : Hid (Below w.heap.size w V) := hBV
  have Z2 : Hid (boxAt V _ _ _) := x2
  clear hV hBV x0 x1 x2
  refine (HR.out _).mono ?_
  rintro e w3 ⟨rfl, hb3⟩
  have HB3 : Hid (Below w.heap.size w w3) := HBV.out.trans (hb3.mono HBV.out.size)
  have Y2 : Hid (boxAt w3 _ _ _) := Z2.out.on hb3
  have hlt3 := Y2.out.lt
  clear hb3 Z2 HBV HR
  go_wp2_with fail
  obtain ⟨W, hW, hBW, x0, x1⟩ := boxes2 w3 #[Value.bool false, Value.slice none 0 0] #[Value.bool false, Value.slice none 0 0] 44 44
  rw [← hW]
  have HB4 : Hid (Below w.heap.size w W) := HB3.out.trans (hBW.mono HB3.out.size)
  have V2 : Hid (boxAt W _ _ _) := Y2.out.on hBW
  clear hW hBW x0 x1 Y2 HB3
  refine (codeOf_reason c _ (HG.out.on HB4.out)).mono ?_
  rintro e w6 ⟨rfl, hb6⟩
  have HB9 : Hid (Below w.heap.size w w6) := HB4.out.trans (hb6.mono HB4.out.size)
  have U2 : Hid (boxAt w6 _ _ _) := V2.out.on hb6
  clear hb6 V2 HB4
  have q0 := U2.out.cell 0 rfl
  have f0 := U2.out.frozen 0
  have q1 := U2.out.cell 1 rfl
  have f1 := U2.out.frozen 1
  have q2 := U2.out.cell 2 rfl
  have f2 := U2.out.frozen 2
  have hlt := U2.out.lt
  go_wp2
  simp only [bodyPost]
  refine ⟨trivial, _, ?_, rfl, ?_⟩
  · simp only [results, Tryd.results16]
    go_simp
  · (repeat' first | exact HB9.out | refine bel_alloc0 ?_ | refine bel_set0 ?_ ?_ | (dsimp only; omega))

set_option maxHeartbeats 1600000 in
theorem iNumGcd_yes (neg : Bool) (up dn : ByteArray) (neg2 : Bool) (up2 dn2 : ByteArray) (u u2 : Nat) (w : World) (HR : Hid (WYes 32 neg up dn neg2 up2 dn2 u u2)) (e1 : fits u 7) (e3 : fits u2 7) (s1 : up.size ≤ 60) (s3 : up2.size ≤ 60) (htab : TB w) :
    Calls Tryd.prog 16 #[.agg #[.bool neg, .string up, .string dn], .agg #[.bool neg2, .string up2, .string dn2]] w fun e w' => e = .returned (.tuple #[.agg #[.bool false, .string (decS (Nat.gcd u u2)), .string ⟨#[49]⟩], .int .i64 0]) ∧ Below w.heap.size w w' := by
  have HT : Hid (TB w) := htab
  have f1 : fits u 8000 := e1.mono (Nat.le_refl _) (by omega)
  have f3 : fits u2 8000 := e3.mono (Nat.le_refl _) (by omega)
  have fg : fits (Nat.gcd u u2) 10000 := by
    rcases Nat.eq_zero_or_pos u2 with h0 | h0
    · subst h0; rw [Nat.gcd_zero_right]; exact e1.mono (Nat.le_refl _) (by omega)
    · exact e3.mono (Nat.gcd_le_right _ h0) (by omega)
  obtain ⟨G, hG⟩ : ∃ G, G = Nat.gcd u u2 := ⟨_, rfl⟩
  have HGG : Hid (G = Nat.gcd u u2) := hG
  rw [← hG] at fg ⊢
  clear htab hG
  go_enter Tryd.func16, Tryd.ntmps16
  go_wp2_with fail
  obtain ⟨V, hV, hBV, x0, x1, x2⟩ := boxes3 w #[Value.bool neg, Value.string up, Value.string dn] #[Value.bool neg2, Value.string up2, Value.string dn2] #[Value.bool false, Value.string ⟨#[]⟩, Value.string ⟨#[]⟩] 25 25 25
  rw [← hV]
  have HBV : Hid (Below w.heap.size w V) := hBV
  have Z0 : Hid (boxAt V _ _ _) := x0
  have Z1 : Hid (boxAt V _ _ _) := x1
  have Z2 : Hid (boxAt V _ _ _) := x2
  clear hV hBV x0 x1 x2
  refine (HR.out _).mono ?_
  rintro e w3 ⟨⟨a1, l1, c1, a3, l3, c3, rfl, n1, n3⟩, hb3⟩
  have HB3 : Hid (Below w.heap.size w w3) := HBV.out.trans (hb3.mono HBV.out.size)
  have Y0 : Hid (boxAt w3 _ _ _) := Z0.out.on hb3
  have Y1 : Hid (boxAt w3 _ _ _) := Z1.out.on hb3
  have Y2 : Hid (boxAt w3 _ _ _) := Z2.out.on hb3
  have hlt3 := Y2.out.lt
  clear hb3 Z0 Z1 Z2 HBV HR
  go_wp2_with fail
  obtain ⟨W, hW, hBW, x0, x1⟩ := boxes2 w3 #[Value.bool neg, Value.slice a1 l1 c1] #[Value.bool neg2, Value.slice a3 l3 c3] 44 44
  rw [← hW]
  have HB4 : Hid (Below w.heap.size w W) := HB3.out.trans (hBW.mono HB3.out.size)
  have V0 : Hid (boxAt W _ _ _) := Y0.out.on hBW
  have V1 : Hid (boxAt W _ _ _) := Y1.out.on hBW
  have V2 : Hid (boxAt W _ _ _) := Y2.out.on hBW
  have N1 : Hid (isN W (.slice a1 l1 c1) _) := isN_below n1.out hBW
  have N3 : Hid (isN W (.slice a3 l3 c3) _) := isN_below n3.out hBW
  clear hW hBW x0 x1 n1 n3 Y0 Y1 Y2 HB3
  refine (gcd_any _ _ u u2 _ N1.out N3.out f1 f3).mono ?_
  rintro e w6 ⟨⟨v6, rfl, h6⟩, hb6⟩
  obtain ⟨a6, l6, c6, rfl⟩ := isN_slice h6
  rw [← HGG.out] at h6
  have N6 : Hid (isN w6 (.slice a6 l6 c6) G) := h6
  have HB6 : Hid (Below w.heap.size w w6) := HB4.out.trans (hb6.mono HB4.out.size)
  have U0 : Hid (boxAt w6 _ _ _) := V0.out.on hb6
  have U1 : Hid (boxAt w6 _ _ _) := V1.out.on hb6
  have U2 : Hid (boxAt w6 _ _ _) := V2.out.on hb6
  clear h6 hb6 V0 V1 V2 HB4 N1 N3
  have k00 := U0.out.cell 1 rfl
  have k10 := U1.out.cell 1 rfl
  have hltA := U2.out.lt
  have hltB : w.heap.size < w6.heap.size := by omega
  have hltC : w.heap.size + 1 < w6.heap.size := by omega
  go_wp2_with fail
  have hmx : max (up.size : Int) (up2.size : Int) = ((max up.size up2.size : Nat) : Int) := by omega
  rw [hmx]
  have hBx : Below w6.heap.size w6 (w6.alloc (Obj.cells #[Value.bool false, Value.slice a6 l6 c6] 44)) := (Below.refl _ _).alloc (Nat.le_refl _) _
  refine (numOfWhole_any false a6 l6 c6 G (max up.size up2.size) _ (isN_below N6.out hBx) fg (by omega) (HT.out.on (HB6.out.trans (hBx.mono HB6.out.size)))).mono ?_
  rintro e w7 ⟨rfl, hb7⟩
  rw [Bool.false_and]
  have hb8 := hBx.trans (hb7.mono hBx.size)
  have HB9 : Hid (Below w.heap.size w w7) := HB6.out.trans (hb8.mono HB6.out.size)
  have T2 : Hid (boxAt w7 _ _ _) := U2.out.on hb8
  clear hb7 hb8 hBx U0 U1 U2 HB6 N6 k00 k10 hmx
  have q0 := T2.out.cell 0 rfl
  have f0 := T2.out.frozen 0
  have q1 := T2.out.cell 1 rfl
  have f1 := T2.out.frozen 1
  have q2 := T2.out.cell 2 rfl
  have f2 := T2.out.frozen 2
  have hlt := T2.out.lt
  go_wp2
  simp only [bodyPost]
  refine ⟨trivial, _, ?_, rfl, ?_⟩
  · simp only [results, Tryd.results16]
    go_simp
  · (repeat' first | exact HB9.out | refine bel_alloc0 ?_ | refine bel_set0 ?_ ?_ | (dsimp only; omega))

set_option maxHeartbeats 1600000 in
theorem sNumGcd_1 (neg : Bool) (up dn : ByteArray) (neg2 : Bool) (up2 dn2 : ByteArray) (w : World) (HC : Hid (SCode neg up dn neg2 up2 dn2 1)) :
    Calls Tryd.prog 15 #[.agg #[.bool neg, .string up, .string dn], .agg #[.bool neg2, .string up2, .string dn2]] w fun e w' => e = .returned (.tuple #[.agg #[.bool false, .string ⟨#[]⟩, .string ⟨#[]⟩], .int .i64 1]) ∧ Below w.heap.size w w' := by
  go_enter Tryd.func15, Tryd.ntmps15
  go_wp2_with fail
  obtain ⟨V, hV, hBV, x0, x1, x2⟩ := boxes3 w #[Value.bool neg, Value.string up, Value.string dn] #[Value.bool neg2, Value.string up2, Value.string dn2] #[Value.bool false, Value.string ⟨#[]⟩, Value.string ⟨#[]⟩] 25 25 25
  rw [← hV]
  have HBV : Hid (Below w.heap.size w V) := hBV
  have Z0 : Hid (boxAt V _ _ _) := x0
  have Z1 : Hid (boxAt V _ _ _) := x1
  have Z2 : Hid (boxAt V _ _ _) := x2
  clear hV hBV x0 x1 x2
  refine (HC.out _).mono ?_
  rintro e w3 ⟨rfl, hb3⟩
  have HB3 : Hid (Below w.heap.size w w3) := HBV.out.trans (hb3.mono HBV.out.size)
  have Y0 : Hid (boxAt w3 _ _ _) := Z0.out.on hb3
  have Y1 : Hid (boxAt w3 _ _ _) := Z1.out.on hb3
  have Y2 : Hid (boxAt w3 _ _ _) := Z2.out.on hb3
  clear hb3 Z0 Z1 Z2 HBV HC
  have T2 := Y2
  have HB9 := HB3
  have q0 := T2.out.cell 0 rfl
  have f0 := T2.out.frozen 0
  have q1 := T2.out.cell 1 rfl
  have f1 := T2.out.frozen 1
  have q2 := T2.out.cell 2 rfl
  have f2 := T2.out.frozen 2
  have hlt := T2.out.lt
  go_wp2
  simp only [bodyPost]
  refine ⟨trivial, _, ?_, rfl, ?_⟩
  · simp only [results, Tryd.results15]
    go_simp
  · (repeat' first | exact HB9.out | refine bel_alloc0 ?_ | refine bel_set0 ?_ ?_ | (dsimp only; omega))

set_option maxHeartbeats 1600000 in
theorem sNumGcd_4 (neg : Bool) (up dn : ByteArray) (neg2 : Bool) (up2 dn2 : ByteArray) (w : World) (HC : Hid (SCode neg up dn neg2 up2 dn2 4)) :
    Calls Tryd.prog 15 #[.agg #[.bool neg, .string up, .string dn], .agg #[.bool neg2, .string up2, .string dn2]] w fun e w' => e = .returned (.tuple #[.agg #[.bool false, .string ⟨#[]⟩, .string ⟨#[]⟩], .int .i64 4]) ∧ Below w.heap.size w w' := by
  go_enter Tryd.func15, Tryd.ntmps15
  go_wp2_with fail
  obtain ⟨V, hV, hBV, x0, x1, x2⟩ := boxes3 w #[Value.bool neg, Value.string up, Value.string dn] #[Value.bool neg2, Value.string up2, Value.string dn2] #[Value.bool false, Value.string ⟨#[]⟩, Value.string ⟨#[]⟩] 25 25 25
  rw [← hV]
  have HBV : Hid (Below w.heap.size w V) := hBV
  have Z0 : Hid (boxAt V _ _ _) := x0
  have Z1 : Hid (boxAt V _ _ _) := x1
  have Z2 : Hid (boxAt V _ _ _) := x2
  clear hV hBV x0 x1 x2
  refine (HC.out _).mono ?_
  rintro e w3 ⟨rfl, hb3⟩
  have HB3 : Hid (Below w.heap.size w w3) := HBV.out.trans (hb3.mono HBV.out.size)
  have Y0 : Hid (boxAt w3 _ _ _) := Z0.out.on hb3
  have Y1 : Hid (boxAt w3 _ _ _) := Z1.out.on hb3
  have Y2 : Hid (boxAt w3 _ _ _) := Z2.out.on hb3
  clear hb3 Z0 Z1 Z2 HBV HC
  have T2 := Y2
  have HB9 := HB3
  have q0 := T2.out.cell 0 rfl
  have f0 := T2.out.frozen 0
  have q1 := T2.out.cell 1 rfl
  have f1 := T2.out.frozen 1
  have q2 := T2.out.cell 2 rfl
  have f2 := T2.out.frozen 2
  have hlt := T2.out.lt
  go_wp2
  simp only [bodyPost]
  refine ⟨trivial, _, ?_, rfl, ?_⟩
  · simp only [results, Tryd.results15]
    go_simp
  · (repeat' first | exact HB9.out | refine bel_alloc0 ?_ | refine bel_set0 ?_ ?_ | (dsimp only; omega))

set_option maxHeartbeats 1600000 in
theorem sNumGcd_yes0 (neg : Bool) (up dn : ByteArray) (neg2 : Bool) (up2 dn2 : ByteArray) (u u2 : Nat) (w : World) (HC : Hid (SCode neg up dn neg2 up2 dn2 0)) (D1 : Hid (Dm.isDec up.data.toList u)) (D3 : Hid (Dm.isDec up2.data.toList u2)) (s1 : up.size ≤ 60) (s3 : up2.size ≤ 60) :
    Calls Tryd.prog 15 #[.agg #[.bool neg, .string up, .string dn], .agg #[.bool neg2, .string up2, .string dn2]] w fun e w' => e = .returned (.tuple #[.agg #[.bool false, .string (decS (Nat.gcd u u2)), .string ⟨#[49]⟩], .int .i64 0]) ∧ Below w.heap.size w w' := by
  go_enter Tryd.func15, Tryd.ntmps15
  go_wp2_with fail
  obtain ⟨V, hV, hBV, x0, x1, x2⟩ := boxes3 w #[Value.bool neg, Value.string up, Value.string dn] #[Value.bool neg2, Value.string up2, Value.string dn2] #[Value.bool false, Value.string ⟨#[]⟩, Value.string ⟨#[]⟩] 25 25 25
  rw [← hV]
  have HBV : Hid (Below w.heap.size w V) := hBV
  have Z0 : Hid (boxAt V _ _ _) := x0
  have Z1 : Hid (boxAt V _ _ _) := x1
  have Z2 : Hid (boxAt V _ _ _) := x2
  clear hV hBV x0 x1 x2
  refine (HC.out _).mono ?_
  rintro e w3 ⟨rfl, hb3⟩
  have HB3 : Hid (Below w.heap.size w w3) := HBV.out.trans (hb3.mono HBV.out.size)
  have Y0 : Hid (boxAt w3 _ _ _) := Z0.out.on hb3
  have Y1 : Hid (boxAt w3 _ _ _) := Z1.out.on hb3
  have Y2 : Hid (boxAt w3 _ _ _) := Z2.out.on hb3
  clear hb3 Z0 Z1 Z2 HBV HC
  have k00 := Y0.out.cell 1 rfl
  have k10 := Y1.out.cell 1 rfl
  go_wp2_with fail
  refine (l1Gcd_any up up2 u u2 _ (by omega) (by omega) D1.out D3.out).mono ?_
  rintro e w5 ⟨⟨t, rfl, ht⟩, hb5⟩
  have et := dec_eq ht
  subst et
  have HB5 : Hid (Below w.heap.size w w5) := HB3.out.trans (hb5.mono HB3.out.size)
  have X2 : Hid (boxAt w5 _ _ _) := Y2.out.on hb5
  clear hb5 ht Y0 Y1 Y2 HB3 k00 k10
  go_wp2_with fail
  refine (l4Sign_any false _ _ _ rfl).mono ?_
  rintro e w6 ⟨rfl, hb6⟩
  rw [Bool.false_and]
  have HB9 : Hid (Below w.heap.size w w6) := HB5.out.trans (hb6.mono HB5.out.size)
  have T2 : Hid (boxAt w6 _ _ _) := X2.out.on hb6
  clear hb6 X2 HB5
  have q0 := T2.out.cell 0 rfl
  have f0 := T2.out.frozen 0
  have q1 := T2.out.cell 1 rfl
  have f1 := T2.out.frozen 1
  have q2 := T2.out.cell 2 rfl
  have f2 := T2.out.frozen 2
  have hlt := T2.out.lt
  go_wp2
  simp only [bodyPost]
  refine ⟨trivial, _, ?_, rfl, ?_⟩
  · simp only [results, Tryd.results15]
    go_simp
  · (repeat' first | exact HB9.out | refine bel_alloc0 ?_ | refine bel_set0 ?_ ?_ | (dsimp only; omega))

set_option maxHeartbeats 1600000 in
theorem sNumGcd_yes2 (neg : Bool) (up dn : ByteArray) (neg2 : Bool) (up2 dn2 : ByteArray) (u u2 : Nat) (w : World) (HC : Hid (SCode neg up dn neg2 up2 dn2 2)) (D1 : Hid (Dm.isDec up.data.toList u)) (D3 : Hid (Dm.isDec up2.data.toList u2)) (s1 : up.size ≤ 60) (s3 : up2.size ≤ 60) :
    Calls Tryd.prog 15 #[.agg #[.bool neg, .string up, .string dn], .agg #[.bool neg2, .string up2, .string dn2]] w fun e w' => e = .returned (.tuple #[.agg #[.bool false, .string (decS (Nat.gcd u u2)), .string ⟨#[49]⟩], .int .i64 0]) ∧ Below w.heap.size w w' := by
  go_enter Tryd.func15, Tryd.ntmps15
  go_wp2_with fail
  obtain ⟨V, hV, hBV, x0, x1, x2⟩ := boxes3 w #[Value.bool neg, Value.string up, Value.string dn] #[Value.bool neg2, Value.string up2, Value.string dn2] #[Value.bool false, Value.string ⟨#[]⟩, Value.string ⟨#[]⟩] 25 25 25
  rw [← hV]
  have HBV : Hid (Below w.heap.size w V) := hBV
  have Z0 : Hid (boxAt V _ _ _) := x0
  have Z1 : Hid (boxAt V _ _ _) := x1
  have Z2 : Hid (boxAt V _ _ _) := x2
  clear hV hBV x0 x1 x2
  refine (HC.out _).mono ?_
  rintro e w3 ⟨rfl, hb3⟩
  have HB3 : Hid (Below w.heap.size w w3) := HBV.out.trans (hb3.mono HBV.out.size)
  have Y0 : Hid (boxAt w3 _ _ _) := Z0.out.on hb3
  have Y1 : Hid (boxAt w3 _ _ _) := Z1.out.on hb3
  have Y2 : Hid (boxAt w3 _ _ _) := Z2.out.on hb3
  clear hb3 Z0 Z1 Z2 HBV HC
  have k00 := Y0.out.cell 1 rfl
  have k10 := Y1.out.cell 1 rfl
  go_wp2_with fail
  refine (l1Gcd_any up up2 u u2 _ (by omega) (by omega) D1.out D3.out).mono ?_
  rintro e w5 ⟨⟨t, rfl, ht⟩, hb5⟩
  have et := dec_eq ht
  subst et
  have HB5 : Hid (Below w.heap.size w w5) := HB3.out.trans (hb5.mono HB3.out.size)
  have X2 : Hid (boxAt w5 _ _ _) := Y2.out.on hb5
  clear hb5 ht Y0 Y1 Y2 HB3 k00 k10
  go_wp2_with fail
  refine (l4Sign_any false _ _ _ rfl).mono ?_
  rintro e w6 ⟨rfl, hb6⟩
  rw [Bool.false_and]
  have HB9 : Hid (Below w.heap.size w w6) := HB5.out.trans (hb6.mono HB5.out.size)
  have T2 : Hid (boxAt w6 _ _ _) := X2.out.on hb6
  clear hb6 X2 HB5
  have q0 := T2.out.cell 0 rfl
  have f0 := T2.out.frozen 0
  have q1 := T2.out.cell 1 rfl
  have f1 := T2.out.frozen 1
  have q2 := T2.out.cell 2 rfl
  have f2 := T2.out.frozen 2
  have hlt := T2.out.lt
  go_wp2
  simp only [bodyPost]
  refine ⟨trivial, _, ?_, rfl, ?_⟩
  · simp only [results, Tryd.results15]
    go_simp
  · (repeat' first | exact HB9.out | refine bel_alloc0 ?_ | refine bel_set0 ?_ ?_ | (dsimp only; omega))

end Go.Proofs.YtaggfbffdbompaaDoor
