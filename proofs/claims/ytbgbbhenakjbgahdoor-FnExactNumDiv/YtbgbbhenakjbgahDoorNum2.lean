/-
  Contracts of the program's NumAdd, NumSub, NumMul and NumDiv.
-/
import Derived.Test.YtbgbbhenakjbgahDoorNum1
namespace Go.Proofs.YtbgbbhenakjbgahDoor
set_option maxRecDepth 100000
set_option linter.unusedVariables false
set_option linter.unusedSimpArgs false
open Go.RowKit
attribute [local go_sem ↓] Go.wp_at_zero Go.wp_at_succ

theorem bel_alloc {w W : World} {o : Obj} (h : Below w.heap.size w W) : Below w.heap.size w (W.alloc o) := h.alloc h.size o
theorem bel_set {w W : World} {p : Addr} {v : Value} (h : Below w.heap.size w W) (hp : w.heap.size ≤ p.block) : Below w.heap.size w (W.setCell p v) := h.setCell hp v

theorem addN_le (b : Bool) (n : Nat) (b2 : Bool) (m : Nat) : addN b n b2 m ≤ n + m := by
  unfold addN; split
  · omega
  · split <;> omega

theorem numOfRatio_s (b : Bool) (ao : Option Addr) (len cap : Nat) (b2 : Bool) (ao2 : Option Addr) (len2 cap2 : Nat) (s : Bool) (n m : Nat) (w : World) (hs : Hid ((b != b2) = s)) (hn : isN w (.slice ao len cap) n) (hm : isN w (.slice ao2 len2 cap2) m) (hm0 : m ≠ 0) (fn : fits n 8000) (fm : fits m 8000) (htab : TB w) :
    Calls Tryd.prog 21 #[.agg #[.bool b, .slice ao len cap, .bool b2, .slice ao2 len2 cap2]] w fun e w' => e = .returned (.tuple #[.agg #[.bool (numC s n m), .string (numU n m), .string (numD n m)], .int .i64 (numK n m)]) ∧ Below w.heap.size w w' := by
  rw [← hs.out]; exact numOfRatio_any b ao len cap b2 ao2 len2 cap2 n m w hn hm hm0 fn fm htab

/-- Reading two numbers that are ok. -/
def RYes (neg : Bool) (up dn : ByteArray) (neg2 : Bool) (up2 dn2 : ByteArray) (u d u2 d2 : Nat) : Prop :=
  ∀ w : World, Calls Tryd.prog 20 #[.agg #[.bool neg, .string up, .string dn], .agg #[.bool neg2, .string up2, .string dn2]] w fun e w' => (∃ a1 l1 c1 a2 l2 c2 a3 l3 c3 a4 l4 c4, e = .returned (.tuple #[.agg #[.bool neg, .slice a1 l1 c1, .bool false, .slice a2 l2 c2], .agg #[.bool neg2, .slice a3 l3 c3, .bool false, .slice a4 l4 c4], .bool true]) ∧
      Hid (isN w' (.slice a1 l1 c1) u) ∧ Hid (isN w' (.slice a2 l2 c2) d) ∧ Hid (isN w' (.slice a3 l3 c3) u2) ∧ Hid (isN w' (.slice a4 l4 c4) d2)) ∧ Below w.heap.size w w'
/-- Reading two numbers of which one is not ok. -/
def RNo (neg : Bool) (up dn : ByteArray) (neg2 : Bool) (up2 dn2 : ByteArray) : Prop :=
  ∀ w : World, Calls Tryd.prog 20 #[.agg #[.bool neg, .string up, .string dn], .agg #[.bool neg2, .string up2, .string dn2]] w fun e w' => e = .returned (.tuple #[.agg #[Value.bool false, Value.slice none 0 0, Value.bool false, Value.slice none 0 0], .agg #[Value.bool false, Value.slice none 0 0, Value.bool false, Value.slice none 0 0], .bool false]) ∧ Below w.heap.size w w'

set_option maxHeartbeats 1600000 in
theorem iNumAdd_no (neg : Bool) (up dn : ByteArray) (neg2 : Bool) (up2 dn2 : ByteArray) (w : World) (HR : Hid (RNo neg up dn neg2 up2 dn2)) :
    Calls Tryd.prog 10 #[.agg #[.bool neg, .string up, .string dn], .agg #[.bool neg2, .string up2, .string dn2]] w fun e w' => e = .returned (.tuple #[.agg #[.bool false, .string ⟨#[]⟩, .string ⟨#[]⟩], .int .i64 1]) ∧ Below w.heap.size w w' := by
  go_enter Tryd.func10, Tryd.ntmps10
  go_wp2_with fail
  obtain ⟨V, hV, hBV, x0, x1, x2⟩ := boxes3 w #[Value.bool neg, Value.string up, Value.string dn] #[Value.bool neg2, Value.string up2, Value.string dn2] #[Value.bool false, Value.string ⟨#[]⟩, Value.string ⟨#[]⟩] 25 25 25
  rw [← hV]
  have HBV : Hid (Below w.heap.size w V) := hBV
  have Z0 : Hid (boxAt V _ _ _) := x2
  clear hV hBV x0 x1 x2
  refine (HR.out _).mono ?_
  rintro e w3 ⟨rfl, hb3⟩
  have HB9 : Hid (Below w.heap.size w w3) := HBV.out.trans (hb3.mono HBV.out.size)
  have Z1 : Hid (boxAt w3 _ _ _) := Z0.out.on hb3
  clear hb3 Z0 HBV
  have q0 := Z1.out.cell 0 rfl
  have f0 := Z1.out.frozen 0
  have q1 := Z1.out.cell 1 rfl
  have f1 := Z1.out.frozen 1
  have q2 := Z1.out.cell 2 rfl
  have f2 := Z1.out.frozen 2
  have hlt := Z1.out.lt
  have hsz := HB9.out.size
  have hlt2 : w.heap.size + 1 < w3.heap.size := by omega
  go_wp2
  simp only [bodyPost]
  refine ⟨trivial, _, ?_, rfl, ?_⟩
  · simp only [results, Tryd.results10]
    go_simp
  · (repeat' first | exact HB9.out | refine bel_alloc ?_ | refine bel_set ?_ ?_ | (show _ ≤ w.heap.size + 1 + 1; omega))

set_option maxHeartbeats 1600000 in
theorem iNumSub_no (neg : Bool) (up dn : ByteArray) (neg2 : Bool) (up2 dn2 : ByteArray) (w : World) (HR : Hid (RNo neg up dn neg2 up2 dn2)) :
    Calls Tryd.prog 13 #[.agg #[.bool neg, .string up, .string dn], .agg #[.bool neg2, .string up2, .string dn2]] w fun e w' => e = .returned (.tuple #[.agg #[.bool false, .string ⟨#[]⟩, .string ⟨#[]⟩], .int .i64 1]) ∧ Below w.heap.size w w' := by
  go_enter Tryd.func13, Tryd.ntmps13
  go_wp2_with fail
  obtain ⟨V, hV, hBV, x0, x1, x2⟩ := boxes3 w #[Value.bool neg, Value.string up, Value.string dn] #[Value.bool neg2, Value.string up2, Value.string dn2] #[Value.bool false, Value.string ⟨#[]⟩, Value.string ⟨#[]⟩] 25 25 25
  rw [← hV]
  have HBV : Hid (Below w.heap.size w V) := hBV
  have Z0 : Hid (boxAt V _ _ _) := x2
  clear hV hBV x0 x1 x2
  refine (HR.out _).mono ?_
  rintro e w3 ⟨rfl, hb3⟩
  have HB9 : Hid (Below w.heap.size w w3) := HBV.out.trans (hb3.mono HBV.out.size)
  have Z1 : Hid (boxAt w3 _ _ _) := Z0.out.on hb3
  clear hb3 Z0 HBV
  have q0 := Z1.out.cell 0 rfl
  have f0 := Z1.out.frozen 0
  have q1 := Z1.out.cell 1 rfl
  have f1 := Z1.out.frozen 1
  have q2 := Z1.out.cell 2 rfl
  have f2 := Z1.out.frozen 2
  have hlt := Z1.out.lt
  have hsz := HB9.out.size
  have hlt2 : w.heap.size + 1 < w3.heap.size := by omega
  go_wp2
  simp only [bodyPost]
  refine ⟨trivial, _, ?_, rfl, ?_⟩
  · simp only [results, Tryd.results13]
    go_simp
  · (repeat' first | exact HB9.out | refine bel_alloc ?_ | refine bel_set ?_ ?_ | (show _ ≤ w.heap.size + 1 + 1; omega))

set_option maxHeartbeats 1600000 in
theorem iNumMul_no (neg : Bool) (up dn : ByteArray) (neg2 : Bool) (up2 dn2 : ByteArray) (w : World) (HR : Hid (RNo neg up dn neg2 up2 dn2)) :
    Calls Tryd.prog 15 #[.agg #[.bool neg, .string up, .string dn], .agg #[.bool neg2, .string up2, .string dn2]] w fun e w' => e = .returned (.tuple #[.agg #[.bool false, .string ⟨#[]⟩, .string ⟨#[]⟩], .int .i64 1]) ∧ Below w.heap.size w w' := by
  go_enter Tryd.func15, Tryd.ntmps15
  go_wp2_with fail
  obtain ⟨V, hV, hBV, x0, x1, x2⟩ := boxes3 w #[Value.bool neg, Value.string up, Value.string dn] #[Value.bool neg2, Value.string up2, Value.string dn2] #[Value.bool false, Value.string ⟨#[]⟩, Value.string ⟨#[]⟩] 25 25 25
  rw [← hV]
  have HBV : Hid (Below w.heap.size w V) := hBV
  have Z0 : Hid (boxAt V _ _ _) := x2
  clear hV hBV x0 x1 x2
  refine (HR.out _).mono ?_
  rintro e w3 ⟨rfl, hb3⟩
  have HB9 : Hid (Below w.heap.size w w3) := HBV.out.trans (hb3.mono HBV.out.size)
  have Z1 : Hid (boxAt w3 _ _ _) := Z0.out.on hb3
  clear hb3 Z0 HBV
  have q0 := Z1.out.cell 0 rfl
  have f0 := Z1.out.frozen 0
  have q1 := Z1.out.cell 1 rfl
  have f1 := Z1.out.frozen 1
  have q2 := Z1.out.cell 2 rfl
  have f2 := Z1.out.frozen 2
  have hlt := Z1.out.lt
  have hsz := HB9.out.size
  have hlt2 : w.heap.size + 1 < w3.heap.size := by omega
  go_wp2
  simp only [bodyPost]
  refine ⟨trivial, _, ?_, rfl, ?_⟩
  · simp only [results, Tryd.results15]
    go_simp
  · (repeat' first | exact HB9.out | refine bel_alloc ?_ | refine bel_set ?_ ?_ | (show _ ≤ w.heap.size + 1 + 1; omega))

set_option maxHeartbeats 1600000 in
theorem iNumDiv_no (neg : Bool) (up dn : ByteArray) (neg2 : Bool) (up2 dn2 : ByteArray) (w : World) (HR : Hid (RNo neg up dn neg2 up2 dn2)) :
    Calls Tryd.prog 17 #[.agg #[.bool neg, .string up, .string dn], .agg #[.bool neg2, .string up2, .string dn2]] w fun e w' => e = .returned (.tuple #[.agg #[.bool false, .string ⟨#[]⟩, .string ⟨#[]⟩], .int .i64 1]) ∧ Below w.heap.size w w' := by
  go_enter Tryd.func17, Tryd.ntmps17
  go_wp2_with fail
  obtain ⟨V, hV, hBV, x0, x1, x2⟩ := boxes3 w #[Value.bool neg, Value.string up, Value.string dn] #[Value.bool neg2, Value.string up2, Value.string dn2] #[Value.bool false, Value.string ⟨#[]⟩, Value.string ⟨#[]⟩] 25 25 25
  rw [← hV]
  have HBV : Hid (Below w.heap.size w V) := hBV
  have Z0 : Hid (boxAt V _ _ _) := x2
  clear hV hBV x0 x1 x2
  refine (HR.out _).mono ?_
  rintro e w3 ⟨rfl, hb3⟩
  have HB9 : Hid (Below w.heap.size w w3) := HBV.out.trans (hb3.mono HBV.out.size)
  have Z1 : Hid (boxAt w3 _ _ _) := Z0.out.on hb3
  clear hb3 Z0 HBV
  have q0 := Z1.out.cell 0 rfl
  have f0 := Z1.out.frozen 0
  have q1 := Z1.out.cell 1 rfl
  have f1 := Z1.out.frozen 1
  have q2 := Z1.out.cell 2 rfl
  have f2 := Z1.out.frozen 2
  have hlt := Z1.out.lt
  have hsz := HB9.out.size
  have hlt2 : w.heap.size + 1 < w3.heap.size := by omega
  go_wp2
  simp only [bodyPost]
  refine ⟨trivial, _, ?_, rfl, ?_⟩
  · simp only [results, Tryd.results17]
    go_simp
  · (repeat' first | exact HB9.out | refine bel_alloc ?_ | refine bel_set ?_ ?_ | (show _ ≤ w.heap.size + 1 + 1; omega))

set_option maxHeartbeats 1600000 in
theorem iNumAdd_yes (neg : Bool) (up dn : ByteArray) (neg2 : Bool) (up2 dn2 : ByteArray) (u d u2 d2 : Nat) (w : World) (HR : Hid (RYes neg up dn neg2 up2 dn2 u d u2 d2)) (e1 : fits u 7) (e2 : fits d 7) (e3 : fits u2 7) (e4 : fits d2 7) (hd0 : d ≠ 0) (hd2 : d2 ≠ 0) (htab : TB w) :
    Calls Tryd.prog 10 #[.agg #[.bool neg, .string up, .string dn], .agg #[.bool neg2, .string up2, .string dn2]] w fun e w' => e = .returned (.tuple #[.agg #[.bool (numC (addB neg (u * d2) neg2 (u2 * d)) (addN neg (u * d2) neg2 (u2 * d)) (d * d2)), .string (numU (addN neg (u * d2) neg2 (u2 * d)) (d * d2)), .string (numD (addN neg (u * d2) neg2 (u2 * d)) (d * d2))], .int .i64 (numK (addN neg (u * d2) neg2 (u2 * d)) (d * d2))]) ∧ Below w.heap.size w w' := by
  have HT : Hid (TB w) := htab
  have hm0 : d * d2 ≠ 0 := Nat.mul_ne_zero hd0 hd2
  have f1 := e1.mono (Nat.le_refl _) (show 7 ≤ 10000 by omega)
  have f2 := e2.mono (Nat.le_refl _) (show 7 ≤ 10000 by omega)
  have f3 := e3.mono (Nat.le_refl _) (show 7 ≤ 10000 by omega)
  have f4 := e4.mono (Nat.le_refl _) (show 7 ≤ 10000 by omega)
  have g14 := fits_mul0 e1 e4
  have g32 := fits_mul0 e3 e2
  have f14 := g14.mono (Nat.le_refl _) (show 7 + 7 ≤ 9999 by omega)
  have f32 := g32.mono (Nat.le_refl _) (show 7 + 7 ≤ 9999 by omega)
  have fn : fits (addN neg (u * d2) neg2 (u2 * d)) 8000 := ((fits_add0 g14 g32).mono (addN_le _ _ _ _) (by omega))
  have fm : fits (d * d2) 8000 := (fits_mul0 e2 e4).mono (Nat.le_refl _) (by omega)
  clear htab hd0 hd2
  go_enter Tryd.func10, Tryd.ntmps10
  go_wp2_with fail
  obtain ⟨V, hV, hBV, x0, x1, x2⟩ := boxes3 w #[Value.bool neg, Value.string up, Value.string dn] #[Value.bool neg2, Value.string up2, Value.string dn2] #[Value.bool false, Value.string ⟨#[]⟩, Value.string ⟨#[]⟩] 25 25 25
  rw [← hV]
  have HBV : Hid (Below w.heap.size w V) := hBV
  have Z0 : Hid (boxAt V _ _ _) := x2
  clear hV hBV x0 x1 x2
  refine (HR.out _).mono ?_
  rintro e w3 ⟨⟨a1, l1, c1, a2, l2, c2, a3, l3, c3, a4, l4, c4, rfl, n1, n2, n3, n4⟩, hb3⟩
  have HB3 : Hid (Below w.heap.size w w3) := HBV.out.trans (hb3.mono HBV.out.size)
  have Z1 : Hid (boxAt w3 _ _ _) := Z0.out.on hb3
  clear hb3 Z0 HBV HR
  go_wp2_with fail
  obtain ⟨W, hW, hBW, x0, x1⟩ := boxes2 w3 #[Value.bool neg, Value.slice a1 l1 c1, Value.bool false, Value.slice a2 l2 c2] #[Value.bool neg2, Value.slice a3 l3 c3, Value.bool false, Value.slice a4 l4 c4] 37 37
  rw [← hW]
  have HB4 : Hid (Below w.heap.size w W) := HB3.out.trans (hBW.mono HB3.out.size)
  have Z2 : Hid (boxAt W _ _ _) := Z1.out.on hBW
  have N1 : Hid (isN W (.slice a1 l1 c1) _) := isN_below n1.out hBW
  have N2 : Hid (isN W (.slice a2 l2 c2) _) := isN_below n2.out hBW
  have N3 : Hid (isN W (.slice a3 l3 c3) _) := isN_below n3.out hBW
  have N4 : Hid (isN W (.slice a4 l4 c4) _) := isN_below n4.out hBW
  clear hW hBW x0 x1 n1 n2 n3 n4 Z1 HB3
  refine (combineSum_any neg a1 l1 c1 false a2 l2 c2 neg2 a3 l3 c3 false a4 l4 c4 u d u2 d2 _ N1.out N2.out N3.out N4.out f1 f2 f3 f4 f14 f32).mono ?_
  rintro e w5 ⟨⟨c5, a5, l5, p5, k5, c6, a6, l6, p6, rfl, hc5, hk5, h5, hc6, h6⟩, hb5⟩
  have hk : k5 = addN neg (u * d2) neg2 (u2 * d) := by rw [hk5.out]; cases neg <;> cases neg2 <;> rfl
  subst hk
  have hs : Hid ((c5 != c6) = (addB neg (u * d2) neg2 (u2 * d))) := by
    show _ = _
    rw [hc5.out, hc6.out]; cases neg <;> cases neg2 <;> simp [addB] <;> (try split) <;> rfl
  have HB5 : Hid (Below w.heap.size w w5) := HB4.out.trans (hb5.mono HB4.out.size)
  have Z3 : Hid (boxAt w5 _ _ _) := Z2.out.on hb5
  clear hb5 Z2 HB4 N1 N2 N3 N4
  go_wp2_with fail
  refine (numOfRatio_s c5 a5 l5 p5 c6 a6 l6 p6 _ _ _ _ hs h5.out h6.out hm0 fn fm (HT.out.on HB5.out)).mono ?_
  rintro e w6 ⟨rfl, hb6⟩
  have HB9 : Hid (Below w.heap.size w w6) := HB5.out.trans (hb6.mono HB5.out.size)
  have Z4 : Hid (boxAt w6 _ _ _) := Z3.out.on hb6
  clear hb6 Z3 HB5 hs h5 h6 HT
  have q0 := Z4.out.cell 0 rfl
  have f0 := Z4.out.frozen 0
  have q1 := Z4.out.cell 1 rfl
  have f1 := Z4.out.frozen 1
  have q2 := Z4.out.cell 2 rfl
  have f2 := Z4.out.frozen 2
  have hlt := Z4.out.lt
  have hsz := HB9.out.size
  go_wp2
  simp only [bodyPost]
  refine ⟨trivial, _, ?_, rfl, ?_⟩
  · simp only [results, Tryd.results10]
    go_simp
  · (repeat' first | exact HB9.out | refine bel_alloc ?_ | refine bel_set ?_ ?_ | (show _ ≤ w.heap.size + 1 + 1; omega))

set_option maxHeartbeats 1600000 in
theorem iNumMul_yes (neg : Bool) (up dn : ByteArray) (neg2 : Bool) (up2 dn2 : ByteArray) (u d u2 d2 : Nat) (w : World) (HR : Hid (RYes neg up dn neg2 up2 dn2 u d u2 d2)) (e1 : fits u 7) (e2 : fits d 7) (e3 : fits u2 7) (e4 : fits d2 7) (hd0 : d ≠ 0) (hd2 : d2 ≠ 0) (htab : TB w) :
    Calls Tryd.prog 15 #[.agg #[.bool neg, .string up, .string dn], .agg #[.bool neg2, .string up2, .string dn2]] w fun e w' => e = .returned (.tuple #[.agg #[.bool (numC (neg != neg2) (u * u2) (d * d2)), .string (numU (u * u2) (d * d2)), .string (numD (u * u2) (d * d2))], .int .i64 (numK (u * u2) (d * d2))]) ∧ Below w.heap.size w w' := by
  have HT : Hid (TB w) := htab
  have hm0 : d * d2 ≠ 0 := Nat.mul_ne_zero hd0 hd2
  have f1 := e1.mono (Nat.le_refl _) (show 7 ≤ 10000 by omega)
  have f2 := e2.mono (Nat.le_refl _) (show 7 ≤ 10000 by omega)
  have f3 := e3.mono (Nat.le_refl _) (show 7 ≤ 10000 by omega)
  have f4 := e4.mono (Nat.le_refl _) (show 7 ≤ 10000 by omega)
  have fn : fits (u * u2) 8000 := ((fits_mul0 e1 e3).mono (Nat.le_refl _) (by omega))
  have fm : fits (d * d2) 8000 := (fits_mul0 e2 e4).mono (Nat.le_refl _) (by omega)
  clear htab hd0 hd2
  go_enter Tryd.func15, Tryd.ntmps15
  go_wp2_with fail
  obtain ⟨V, hV, hBV, x0, x1, x2⟩ := boxes3 w #[Value.bool neg, Value.string up, Value.string dn] #[Value.bool neg2, Value.string up2, Value.string dn2] #[Value.bool false, Value.string ⟨#[]⟩, Value.string ⟨#[]⟩] 25 25 25
  rw [← hV]
  have HBV : Hid (Below w.heap.size w V) := hBV
  have Z0 : Hid (boxAt V _ _ _) := x2
  clear hV hBV x0 x1 x2
  refine (HR.out _).mono ?_
  rintro e w3 ⟨⟨a1, l1, c1, a2, l2, c2, a3, l3, c3, a4, l4, c4, rfl, n1, n2, n3, n4⟩, hb3⟩
  have HB3 : Hid (Below w.heap.size w w3) := HBV.out.trans (hb3.mono HBV.out.size)
  have Z1 : Hid (boxAt w3 _ _ _) := Z0.out.on hb3
  clear hb3 Z0 HBV HR
  go_wp2_with fail
  obtain ⟨W, hW, hBW, x0, x1⟩ := boxes2 w3 #[Value.bool neg, Value.slice a1 l1 c1, Value.bool false, Value.slice a2 l2 c2] #[Value.bool neg2, Value.slice a3 l3 c3, Value.bool false, Value.slice a4 l4 c4] 37 37
  rw [← hW]
  have HB4 : Hid (Below w.heap.size w W) := HB3.out.trans (hBW.mono HB3.out.size)
  have Z2 : Hid (boxAt W _ _ _) := Z1.out.on hBW
  have N1 : Hid (isN W (.slice a1 l1 c1) _) := isN_below n1.out hBW
  have N2 : Hid (isN W (.slice a2 l2 c2) _) := isN_below n2.out hBW
  have N3 : Hid (isN W (.slice a3 l3 c3) _) := isN_below n3.out hBW
  have N4 : Hid (isN W (.slice a4 l4 c4) _) := isN_below n4.out hBW
  clear hW hBW x0 x1 n1 n2 n3 n4 Z1 HB3
  refine (combineProd_any neg a1 l1 c1 false a2 l2 c2 neg2 a3 l3 c3 false a4 l4 c4 u d u2 d2 _ N1.out N2.out N3.out N4.out f1 f2 f3 f4).mono ?_
  rintro e w5 ⟨⟨c5, a5, l5, p5, c6, a6, l6, p6, rfl, hc5, h5, hc6, h6⟩, hb5⟩
  have hs : Hid ((c5 != c6) = (neg != neg2)) := by
    show _ = _
    rw [hc5.out, hc6.out]; cases neg <;> cases neg2 <;> rfl
  have HB5 : Hid (Below w.heap.size w w5) := HB4.out.trans (hb5.mono HB4.out.size)
  have Z3 : Hid (boxAt w5 _ _ _) := Z2.out.on hb5
  clear hb5 Z2 HB4 N1 N2 N3 N4
  go_wp2_with fail
  refine (numOfRatio_s c5 a5 l5 p5 c6 a6 l6 p6 _ _ _ _ hs h5.out h6.out hm0 fn fm (HT.out.on HB5.out)).mono ?_
  rintro e w6 ⟨rfl, hb6⟩
  have HB9 : Hid (Below w.heap.size w w6) := HB5.out.trans (hb6.mono HB5.out.size)
  have Z4 : Hid (boxAt w6 _ _ _) := Z3.out.on hb6
  clear hb6 Z3 HB5 hs h5 h6 HT
  have q0 := Z4.out.cell 0 rfl
  have f0 := Z4.out.frozen 0
  have q1 := Z4.out.cell 1 rfl
  have f1 := Z4.out.frozen 1
  have q2 := Z4.out.cell 2 rfl
  have f2 := Z4.out.frozen 2
  have hlt := Z4.out.lt
  have hsz := HB9.out.size
  go_wp2
  simp only [bodyPost]
  refine ⟨trivial, _, ?_, rfl, ?_⟩
  · simp only [results, Tryd.results15]
    go_simp
  · (repeat' first | exact HB9.out | refine bel_alloc ?_ | refine bel_set ?_ ?_ | (show _ ≤ w.heap.size + 1 + 1; omega))

end Go.Proofs.YtbgbbhenakjbgahDoor
