/-
  Contracts of the program's NumSub and NumDiv, where both numbers are ok.
-/
import Derived.Test.YtbgbbhenakjbgahDoorNum2
namespace Go.Proofs.YtbgbbhenakjbgahDoor
set_option maxRecDepth 100000
set_option linter.unusedVariables false
set_option linter.unusedSimpArgs false
open Go.RowKit
attribute [local go_sem ↓] Go.wp_at_zero Go.wp_at_succ

theorem sign_v (b : Bool) (ao : Option Addr) (len cap : Nat) (n : Nat) (z : Int) (w : World) (hz : Hid (signI b n = z)) (hn : isN w (.slice ao len cap) n) :
    Calls Tryd.prog 29 #[.agg #[.bool b, .slice ao len cap]] w fun e w' => e = .returned (.int .i64 z) ∧ Below w.heap.size w w' := by
  rw [← hz.out]; exact sign_any b ao len cap n w hn

set_option maxHeartbeats 1600000 in
theorem iNumDiv_nought (neg : Bool) (up dn : ByteArray) (neg2 : Bool) (up2 dn2 : ByteArray) (u d d2 : Nat) (w : World) (HR : Hid (RYes neg up dn neg2 up2 dn2 u d 0 d2)) :
    Calls Tryd.prog 17 #[.agg #[.bool neg, .string up, .string dn], .agg #[.bool neg2, .string up2, .string dn2]] w fun e w' => e = .returned (.tuple #[.agg #[.bool false, .string ⟨#[]⟩, .string ⟨#[]⟩], .int .i64 2]) ∧ Below w.heap.size w w' := by
  have HZ : Hid (signI neg2 0 = 0) := rfl
  go_enter Tryd.func17, Tryd.ntmps17
  go_wp2_with fail
  obtain ⟨V, hV, hBV, x0, x1, x2⟩ := boxes3 w #[Value.bool neg, Value.string up, Value.string dn] #[Value.bool neg2, Value.string up2, Value.string dn2] #[Value.bool false, Value.string ⟨#[]⟩, Value.string ⟨#[]⟩] 25 25 25
  rw [← hV]
  have HBV : Hid (Below w.heap.size w V) := hBV
  have Z0 : Hid (boxAt V _ _ _) := x2
  clear hV hBV x0 x1 x2
  refine (HR.out _).mono ?_
  rintro e w3 ⟨⟨a1, l1, c1, a2, l2, c2, a3, l3, c3, a4, l4, c4, rfl, n1, n2, n3, n4⟩, hb3⟩
  have HB3 : Hid (Below w.heap.size w w3) := HBV.out.trans (hb3.mono HBV.out.size)
  have Z1 : Hid (boxAt w3 _ _ _) := Z0.out.on hb3
  clear hb3 Z0 HBV HR
  go_wp2_with fail
  obtain ⟨W, hW, hBW, x0, x1⟩ := boxes2 w3 #[Value.bool neg, Value.slice a1 l1 c1, Value.bool false, Value.slice a2 l2 c2] #[Value.bool neg2, Value.slice a3 l3 c3, Value.bool false, Value.slice a4 l4 c4] 37 37
  rw [← hW]
  have HB4 : Hid (Below w.heap.size w W) := HB3.out.trans (hBW.mono HB3.out.size)
  have Z2 : Hid (boxAt W _ _ _) := Z1.out.on hBW
  have N3 : Hid (isN W (.slice a3 l3 c3) _) := isN_below n3.out hBW
  clear hW hBW x0 x1 n1 n2 n3 n4 Z1 HB3
  refine (sign_v neg2 a3 l3 c3 0 0 _ HZ N3.out).mono ?_
  rintro e w6 ⟨rfl, hb6⟩
  have HB9 : Hid (Below w.heap.size w w6) := HB4.out.trans (hb6.mono HB4.out.size)
  have Z4 : Hid (boxAt w6 _ _ _) := Z2.out.on hb6
  clear hb6 Z2 HB4 N3
  have q0 := Z4.out.cell 0 rfl
  have f0 := Z4.out.frozen 0
  have q1 := Z4.out.cell 1 rfl
  have f1 := Z4.out.frozen 1
  have q2 := Z4.out.cell 2 rfl
  have f2 := Z4.out.frozen 2
  have hlt := Z4.out.lt
  have hsz := HB9.out.size
  go_wp2
  simp only [bodyPost]
  refine ⟨trivial, _, ?_, rfl, ?_⟩
  · simp only [results, Tryd.results17]
    go_simp
  · (repeat' first | exact HB9.out | refine bel_alloc ?_ | refine bel_set ?_ ?_ | (show _ ≤ w.heap.size + 1 + 1; omega))

set_option maxHeartbeats 1600000 in
theorem iNumSub_yes (neg : Bool) (up dn : ByteArray) (neg2 : Bool) (up2 dn2 : ByteArray) (u d u2 d2 : Nat) (w : World) (HR : Hid (RYes neg up dn neg2 up2 dn2 u d u2 d2)) (e1 : fits u 7) (e2 : fits d 7) (e3 : fits u2 7) (e4 : fits d2 7) (hd0 : d ≠ 0) (hd2 : d2 ≠ 0) (htab : TB w) :
    Calls Tryd.prog 13 #[.agg #[.bool neg, .string up, .string dn], .agg #[.bool neg2, .string up2, .string dn2]] w fun e w' => e = .returned (.tuple #[.agg #[.bool (numC (addB neg (u * d2) (!neg2) (u2 * d)) (addN neg (u * d2) (!neg2) (u2 * d)) (d * d2)), .string (numU (addN neg (u * d2) (!neg2) (u2 * d)) (d * d2)), .string (numD (addN neg (u * d2) (!neg2) (u2 * d)) (d * d2))], .int .i64 (numK (addN neg (u * d2) (!neg2) (u2 * d)) (d * d2))]) ∧ Below w.heap.size w w' := by
  have HT : Hid (TB w) := htab
  have hm0 : d * d2 ≠ 0 := Nat.mul_ne_zero hd0 hd2
  have f1 := e1.mono (Nat.le_refl _) (show 7 ≤ 10000 by omega)
  have f2 := e2.mono (Nat.le_refl _) (show 7 ≤ 10000 by omega)
  have f3 := e3.mono (Nat.le_refl _) (show 7 ≤ 10000 by omega)
  have f4 := e4.mono (Nat.le_refl _) (show 7 ≤ 10000 by omega)
  have g14 := fits_mul0 e1 e4
  have g32 := fits_mul0 e3 e2
  have f14 := g14.mono (Nat.le_refl _) (show 7 + 7 ≤ 9999 by omega)
  have f32 := g32.mono (Nat.le_refl _) (show 7 + 7 ≤ 9999 by omega)
  have fn : fits (addN neg (u * d2) (!neg2) (u2 * d)) 8000 := ((fits_add0 g14 g32).mono (addN_le _ _ _ _) (by omega))
  have fm : fits (d * d2) 8000 := (fits_mul0 e2 e4).mono (Nat.le_refl _) (by omega)
  obtain ⟨C, hC⟩ : ∃ C, C = numC (addB neg (u * d2) (!neg2) (u2 * d)) (addN neg (u * d2) (!neg2) (u2 * d)) (d * d2) := ⟨_, rfl⟩
  obtain ⟨U, hU⟩ : ∃ U, U = numU (addN neg (u * d2) (!neg2) (u2 * d)) (d * d2) := ⟨_, rfl⟩
  obtain ⟨D, hD⟩ : ∃ D, D = numD (addN neg (u * d2) (!neg2) (u2 * d)) (d * d2) := ⟨_, rfl⟩
  obtain ⟨K, hK⟩ : ∃ K, K = numK (addN neg (u * d2) (!neg2) (u2 * d)) (d * d2) := ⟨_, rfl⟩
  rw [← hC, ← hU, ← hD, ← hK]
  have HN : Hid (∀ (b : Bool) (ao : Option Addr) (len cap : Nat) (b2 : Bool) (ao2 : Option Addr) (len2 cap2 : Nat) (w : World), Hid ((b != b2) = (addB neg (u * d2) (!neg2) (u2 * d))) → Hid (isN w (.slice ao len cap) (addN neg (u * d2) (!neg2) (u2 * d))) → Hid (isN w (.slice ao2 len2 cap2) (d * d2)) → TB w →
    Calls Tryd.prog 21 #[.agg #[.bool b, .slice ao len cap, .bool b2, .slice ao2 len2 cap2]] w fun e w' => e = .returned (.tuple #[.agg #[.bool C, .string U, .string D], .int .i64 K]) ∧ Below w.heap.size w w') := by
    intro b ao len cap b2 ao2 len2 cap2 w hs hn hm ht
    rw [hC, hU, hD, hK]
    exact numOfRatio_s b ao len cap b2 ao2 len2 cap2 _ _ _ w hs hn.out hm.out hm0 fn fm ht
  clear htab hd0 hd2 hC hU hD hK fn fm hm0
  go_enter Tryd.func13, Tryd.ntmps13
  go_wp2_with fail
  obtain ⟨V, hV, hBV, x0, x1, x2⟩ := boxes3 w #[Value.bool neg, Value.string up, Value.string dn] #[Value.bool neg2, Value.string up2, Value.string dn2] #[Value.bool false, Value.string ⟨#[]⟩, Value.string ⟨#[]⟩] 25 25 25
  rw [← hV]
  have HBV : Hid (Below w.heap.size w V) := hBV
  have Z0 : Hid (boxAt V _ _ _) := x2
  clear hV hBV x0 x1 x2
  refine (HR.out _).mono ?_
  rintro e w3 ⟨⟨a1, l1, c1, a2, l2, c2, a3, l3, c3, a4, l4, c4, rfl, n1, n2, n3, n4⟩, hb3⟩
  have HB3 : Hid (Below w.heap.size w w3) := HBV.out.trans (hb3.mono HBV.out.size)
  have Z1 : Hid (boxAt w3 _ _ _) := Z0.out.on hb3
  have hlt0 := Z1.out.lt
  clear hb3 Z0 HBV HR
  go_wp2_with fail
  obtain ⟨W, hW, hBW, x0, x1⟩ := boxes2 w3 #[Value.bool neg, Value.slice a1 l1 c1, Value.bool false, Value.slice a2 l2 c2] #[Value.bool neg2, Value.slice a3 l3 c3, Value.bool false, Value.slice a4 l4 c4] 37 37
  rw [← hW]
  have HB4 : Hid (Below w.heap.size w W) := HB3.out.trans (hBW.mono HB3.out.size)
  have Z2 : Hid (boxAt W _ _ _) := Z1.out.on hBW
  have N1 : Hid (isN W (.slice a1 l1 c1) _) := isN_below n1.out hBW
  have N2 : Hid (isN W (.slice a2 l2 c2) _) := isN_below n2.out hBW
  have N3 : Hid (isN W (.slice a3 l3 c3) _) := isN_below n3.out hBW
  have N4 : Hid (isN W (.slice a4 l4 c4) _) := isN_below n4.out hBW
  have X0 : Hid (boxAt W _ _ _) := x0
  have X1 : Hid (boxAt W _ _ _) := x1
  clear hW hBW x0 x1 n1 n2 n3 n4 Z1
  have k00 := X0.out.cell 0 rfl
  have k01 := X0.out.cell 1 rfl
  have k02 := X0.out.cell 2 rfl
  have k03 := X0.out.cell 3 rfl
  have k10 := X1.out.cell 0 rfl
  have k11 := X1.out.cell 1 rfl
  have k12 := X1.out.cell 2 rfl
  have k13 := X1.out.cell 3 rfl
  refine Go.wp_mono (Q := fun e a' w' => match e with | .normal => (∃ us : Array Value, a' = { tmps := us, defers := [] } ∧ us[4]? = some (.pointer (some ⟨w.heap.size + 1 + 1, 0, none⟩)) ∧ us[5]? = some (.int .i64 K)) ∧ (w'.cell? ⟨w.heap.size + 1 + 1, 0, none⟩ = some (.bool C) ∧ w'.cell? ⟨w.heap.size + 1 + 1, 1, none⟩ = some (.string U) ∧ w'.cell? ⟨w.heap.size + 1 + 1, 2, none⟩ = some (.string D)) ∧ Below w.heap.size w w' | _ => False) ?_ ?_
  · have hlt := Z2.out.lt
    have hsz3 := HB3.out.size
    go_region_held3 (fun w' => (((w'.cell? ⟨w3.heap.size, 0, none⟩ = some (.bool neg) ∧ w'.cell? ⟨w3.heap.size, 1, none⟩ = some (.slice a1 l1 c1)) ∧ (w'.cell? ⟨w3.heap.size, 2, none⟩ = some (.bool false) ∧ w'.cell? ⟨w3.heap.size, 3, none⟩ = some (.slice a2 l2 c2))) ∧ ((w'.cell? ⟨w3.heap.size + 1, 0, none⟩ = some (.bool neg2) ∧ w'.cell? ⟨w3.heap.size + 1, 1, none⟩ = some (.slice a3 l3 c3)) ∧ (w'.cell? ⟨w3.heap.size + 1, 2, none⟩ = some (.bool false) ∧ w'.cell? ⟨w3.heap.size + 1, 3, none⟩ = some (.slice a4 l4 c4)))))
      ((repeat' apply And.intro) <;> first | (with_reducible assumption) | ((with_reducible refine keep_set (keep_set (keep_set ?_ ?_) ?_) ?_) <;> first | omega | assumption) | (go_keep; done))
      (first
        | (go_at_call 25; refine (ropp_any neg2 a3 l3 c3 false a4 l4 c4 _).mono ?_; rintro e w5 ⟨⟨cc, rfl, hcc⟩, hb5⟩; have HB5 : Hid (Below w.heap.size w w5) := (HB4.out.trans ((below_drew W).mono HB4.out.size)).trans (hb5.mono HB4.out.size)
           have M1 : Hid (isN w5 (.slice a1 l1 c1) _) := isN_below (isN_below N1.out (below_drew _)) hb5; have M2 : Hid (isN w5 (.slice a2 l2 c2) _) := isN_below (isN_below N2.out (below_drew _)) hb5; have M3 : Hid (isN w5 (.slice a3 l3 c3) _) := isN_below (isN_below N3.out (below_drew _)) hb5; have M4 : Hid (isN w5 (.slice a4 l4 c4) _) := isN_below (isN_below N4.out (below_drew _)) hb5
           have Y0 : Hid (boxAt w5 _ _ _) := X0.out.drew.on hb5; have Y1 : Hid (boxAt w5 _ _ _) := X1.out.drew.on hb5; have Y2 : Hid (boxAt w5 _ _ _) := Z2.out.drew.on hb5
           have j00 := Y0.out.cell 0 rfl; have j01 := Y0.out.cell 1 rfl; have j02 := Y0.out.cell 2 rfl; have j03 := Y0.out.cell 3 rfl; have j10 := Y1.out.cell 0 rfl; have j11 := Y1.out.cell 1 rfl; have j12 := Y1.out.cell 2 rfl; have j13 := Y1.out.cell 3 rfl; clear hb5)
        | (go_at_call 22; refine (combineSum_any neg a1 l1 c1 false a2 l2 c2 cc a3 l3 c3 false a4 l4 c4 u d u2 d2 _ M1.out M2.out M3.out M4.out f1 f2 f3 f4 f14 f32).mono ?_; rintro e w6 ⟨⟨c5, a5, l5, p5, k5, c6, a6, l6, p6, rfl, hc5, hk5, h5, hc6, h6⟩, hb6⟩; have HB6 : Hid (Below w.heap.size w w6) := HB5.out.trans (hb6.mono HB5.out.size)
           have hk : k5 = addN neg (u * d2) (!neg2) (u2 * d) := by (rw [hk5.out, hcc.out]; cases neg <;> cases neg2 <;> rfl)
           subst hk
           have hs : Hid ((c5 != c6) = (addB neg (u * d2) (!neg2) (u2 * d))) := (by show _ = _; (rw [hc5.out, hc6.out, hcc.out]; cases neg <;> cases neg2 <;> simp [addB] <;> (try split) <;> rfl))
           have V0 : Hid (boxAt w6 _ _ _) := Y0.out.on hb6; have V1 : Hid (boxAt w6 _ _ _) := Y1.out.on hb6; have V2 : Hid (boxAt w6 _ _ _) := Y2.out.on hb6
           have i00 := V0.out.cell 0 rfl; have i01 := V0.out.cell 1 rfl; have i02 := V0.out.cell 2 rfl; have i03 := V0.out.cell 3 rfl; have i10 := V1.out.cell 0 rfl; have i11 := V1.out.cell 1 rfl; have i12 := V1.out.cell 2 rfl; have i13 := V1.out.cell 3 rfl; clear hb6)
        | (go_at_call 21; refine (HN.out c5 a5 l5 p5 c6 a6 l6 p6 _ hs h5 h6 (HT.out.on HB6.out)).mono ?_; rintro e w7 ⟨rfl, hb7⟩; have HB7 : Hid (Below w.heap.size w w7) := HB6.out.trans (hb7.mono HB6.out.size)
           have U0 : Hid (boxAt w7 _ _ _) := V0.out.on hb7; have U1 : Hid (boxAt w7 _ _ _) := V1.out.on hb7; have U2 : Hid (boxAt w7 _ _ _) := V2.out.on hb7
           have o00 := U0.out.cell 0 rfl; have o01 := U0.out.cell 1 rfl; have o02 := U0.out.cell 2 rfl; have o03 := U0.out.cell 3 rfl; have o10 := U1.out.cell 0 rfl; have o11 := U1.out.cell 1 rfl; have o12 := U1.out.cell 2 rfl; have o13 := U1.out.cell 3 rfl; have q20 := U2.out.cell 0 rfl; have q21 := U2.out.cell 1 rfl; have q22 := U2.out.cell 2 rfl; have g20 := U2.out.frozen 0; have g21 := U2.out.frozen 1; have g22 := U2.out.frozen 2; clear hb7))
    all_goals
      have hz2 := U2.out.lt
      refine ⟨⟨_, rfl, rfl, rfl⟩, ⟨?_, ?_, ?_⟩, ?_⟩
      · go_simp
      · go_simp
      · go_simp
      · exact bel_set (bel_set (bel_set HB7.out (by show _ ≤ w.heap.size + 1 + 1; omega)) (by show _ ≤ w.heap.size + 1 + 1; omega)) (by show _ ≤ w.heap.size + 1 + 1; omega)
  · intro e a' w' hq
    cases e
    case normal =>
      obtain ⟨⟨us, rfl, hus4, hus5⟩, ⟨hv0, hv1, hv2⟩, hb⟩ := hq
      go_wp2
      simp only [bodyPost]
      refine ⟨trivial, _, ?_, rfl, hb⟩
      simp only [results, Tryd.results13]
      go_simp
    all_goals exact hq.elim

set_option maxHeartbeats 1600000 in
theorem iNumDiv_yes (neg : Bool) (up dn : ByteArray) (neg2 : Bool) (up2 dn2 : ByteArray) (u d u2 d2 : Nat) (w : World) (HR : Hid (RYes neg up dn neg2 up2 dn2 u d u2 d2)) (e1 : fits u 7) (e2 : fits d 7) (e3 : fits u2 7) (e4 : fits d2 7) (hd0 : d ≠ 0) (hu2 : u2 ≠ 0) (htab : TB w) :
    Calls Tryd.prog 17 #[.agg #[.bool neg, .string up, .string dn], .agg #[.bool neg2, .string up2, .string dn2]] w fun e w' => e = .returned (.tuple #[.agg #[.bool (numC (neg != neg2) (u * d2) (d * u2)), .string (numU (u * d2) (d * u2)), .string (numD (u * d2) (d * u2))], .int .i64 (numK (u * d2) (d * u2))]) ∧ Below w.heap.size w w' := by
  have HT : Hid (TB w) := htab
  have hm0 : d * u2 ≠ 0 := Nat.mul_ne_zero hd0 hu2
  have f1 := e1.mono (Nat.le_refl _) (show 7 ≤ 10000 by omega)
  have f2 := e2.mono (Nat.le_refl _) (show 7 ≤ 10000 by omega)
  have f3 := e3.mono (Nat.le_refl _) (show 7 ≤ 10000 by omega)
  have f4 := e4.mono (Nat.le_refl _) (show 7 ≤ 10000 by omega)
  have fn : fits (u * d2) 8000 := ((fits_mul0 e1 e4).mono (Nat.le_refl _) (by omega))
  have fm : fits (d * u2) 8000 := (fits_mul0 e2 e3).mono (Nat.le_refl _) (by omega)
  obtain ⟨C, hC⟩ : ∃ C, C = numC (neg != neg2) (u * d2) (d * u2) := ⟨_, rfl⟩
  obtain ⟨U, hU⟩ : ∃ U, U = numU (u * d2) (d * u2) := ⟨_, rfl⟩
  obtain ⟨D, hD⟩ : ∃ D, D = numD (u * d2) (d * u2) := ⟨_, rfl⟩
  obtain ⟨K, hK⟩ : ∃ K, K = numK (u * d2) (d * u2) := ⟨_, rfl⟩
  rw [← hC, ← hU, ← hD, ← hK]
  have HN : Hid (∀ (b : Bool) (ao : Option Addr) (len cap : Nat) (b2 : Bool) (ao2 : Option Addr) (len2 cap2 : Nat) (w : World), Hid ((b != b2) = (neg != neg2)) → Hid (isN w (.slice ao len cap) (u * d2)) → Hid (isN w (.slice ao2 len2 cap2) (d * u2)) → TB w →
    Calls Tryd.prog 21 #[.agg #[.bool b, .slice ao len cap, .bool b2, .slice ao2 len2 cap2]] w fun e w' => e = .returned (.tuple #[.agg #[.bool C, .string U, .string D], .int .i64 K]) ∧ Below w.heap.size w w') := by
    intro b ao len cap b2 ao2 len2 cap2 w hs hn hm ht
    rw [hC, hU, hD, hK]
    exact numOfRatio_s b ao len cap b2 ao2 len2 cap2 _ _ _ w hs hn.out hm.out hm0 fn fm ht
  clear htab hd0 hC hU hD hK fn fm hm0
  obtain ⟨z, hz⟩ : ∃ z, z = signI neg2 u2 := ⟨_, rfl⟩
  have HZ : Hid (signI neg2 u2 = z) := hz.symm
  have hz0 : (z == 0) = false := by
    rw [beq_eq_false_iff_ne, hz, signI, if_neg hu2]
    cases neg2 <;> decide
  clear hz hu2
  go_enter Tryd.func17, Tryd.ntmps17
  go_wp2_with fail
  obtain ⟨V, hV, hBV, x0, x1, x2⟩ := boxes3 w #[Value.bool neg, Value.string up, Value.string dn] #[Value.bool neg2, Value.string up2, Value.string dn2] #[Value.bool false, Value.string ⟨#[]⟩, Value.string ⟨#[]⟩] 25 25 25
  rw [← hV]
  have HBV : Hid (Below w.heap.size w V) := hBV
  have Z0 : Hid (boxAt V _ _ _) := x2
  clear hV hBV x0 x1 x2
  refine (HR.out _).mono ?_
  rintro e w3 ⟨⟨a1, l1, c1, a2, l2, c2, a3, l3, c3, a4, l4, c4, rfl, n1, n2, n3, n4⟩, hb3⟩
  have HB3 : Hid (Below w.heap.size w w3) := HBV.out.trans (hb3.mono HBV.out.size)
  have Z1 : Hid (boxAt w3 _ _ _) := Z0.out.on hb3
  have hlt0 := Z1.out.lt
  clear hb3 Z0 HBV HR
  go_wp2_with fail
  obtain ⟨W, hW, hBW, x0, x1⟩ := boxes2 w3 #[Value.bool neg, Value.slice a1 l1 c1, Value.bool false, Value.slice a2 l2 c2] #[Value.bool neg2, Value.slice a3 l3 c3, Value.bool false, Value.slice a4 l4 c4] 37 37
  rw [← hW]
  have HB4 : Hid (Below w.heap.size w W) := HB3.out.trans (hBW.mono HB3.out.size)
  have Z2 : Hid (boxAt W _ _ _) := Z1.out.on hBW
  have N1 : Hid (isN W (.slice a1 l1 c1) _) := isN_below n1.out hBW
  have N2 : Hid (isN W (.slice a2 l2 c2) _) := isN_below n2.out hBW
  have N3 : Hid (isN W (.slice a3 l3 c3) _) := isN_below n3.out hBW
  have N4 : Hid (isN W (.slice a4 l4 c4) _) := isN_below n4.out hBW
  have X0 : Hid (boxAt W _ _ _) := x0
  have X1 : Hid (boxAt W _ _ _) := x1
  clear hW hBW x0 x1 n1 n2 n3 n4 Z1
  have Q2 : Hid (boxAt W _ _ _) := Z2.out
  clear Z2
  refine (sign_v neg2 a3 l3 c3 u2 z _ HZ N3.out).mono ?_
  rintro e W' ⟨rfl, hbW⟩
  have HB4' : Hid (Below w.heap.size w W') := HB4.out.trans (hbW.mono HB4.out.size)
  have Z2 : Hid (boxAt W' _ _ _) := Q2.out.on hbW
  have P1 : Hid (isN W' (.slice a1 l1 c1) _) := isN_below N1.out hbW
  have P2 : Hid (isN W' (.slice a2 l2 c2) _) := isN_below N2.out hbW
  have P3 : Hid (isN W' (.slice a3 l3 c3) _) := isN_below N3.out hbW
  have P4 : Hid (isN W' (.slice a4 l4 c4) _) := isN_below N4.out hbW
  have Y0 : Hid (boxAt W' _ _ _) := X0.out.on hbW
  have Y1 : Hid (boxAt W' _ _ _) := X1.out.on hbW
  clear hbW N1 N2 N3 N4 X0 X1 HB4 Q2 HZ
  have N1 := P1
  have N2 := P2
  have N3 := P3
  have N4 := P4
  have X0 := Y0
  have X1 := Y1
  have HB4 := HB4'
  clear P1 P2 P3 P4 Y0 Y1 HB4'
  have k00 := X0.out.cell 0 rfl
  have k01 := X0.out.cell 1 rfl
  have k02 := X0.out.cell 2 rfl
  have k03 := X0.out.cell 3 rfl
  have k10 := X1.out.cell 0 rfl
  have k11 := X1.out.cell 1 rfl
  have k12 := X1.out.cell 2 rfl
  have k13 := X1.out.cell 3 rfl
  go_wp2_with fail
  refine Go.wp_mono (Q := fun e a' w' => match e with | .normal => (∃ us : Array Value, a' = { tmps := us, defers := [] } ∧ us[4]? = some (.pointer (some ⟨w.heap.size + 1 + 1, 0, none⟩)) ∧ us[5]? = some (.int .i64 K)) ∧ (w'.cell? ⟨w.heap.size + 1 + 1, 0, none⟩ = some (.bool C) ∧ w'.cell? ⟨w.heap.size + 1 + 1, 1, none⟩ = some (.string U) ∧ w'.cell? ⟨w.heap.size + 1 + 1, 2, none⟩ = some (.string D)) ∧ Below w.heap.size w w' | _ => False) ?_ ?_
  · have hlt := Z2.out.lt
    have hsz3 := HB3.out.size
    go_region_held3 (fun w' => (((w'.cell? ⟨w3.heap.size, 0, none⟩ = some (.bool neg) ∧ w'.cell? ⟨w3.heap.size, 1, none⟩ = some (.slice a1 l1 c1)) ∧ (w'.cell? ⟨w3.heap.size, 2, none⟩ = some (.bool false) ∧ w'.cell? ⟨w3.heap.size, 3, none⟩ = some (.slice a2 l2 c2))) ∧ ((w'.cell? ⟨w3.heap.size + 1, 0, none⟩ = some (.bool neg2) ∧ w'.cell? ⟨w3.heap.size + 1, 1, none⟩ = some (.slice a3 l3 c3)) ∧ (w'.cell? ⟨w3.heap.size + 1, 2, none⟩ = some (.bool false) ∧ w'.cell? ⟨w3.heap.size + 1, 3, none⟩ = some (.slice a4 l4 c4)))))
      ((repeat' apply And.intro) <;> first | (with_reducible assumption) | ((with_reducible refine keep_set (keep_set (keep_set ?_ ?_) ?_) ?_) <;> first | omega | assumption) | (go_keep; done))
      (first
        | (go_at_call 30; refine (turned_any neg2 a3 l3 c3 false a4 l4 c4 _).mono ?_; rintro e w5 ⟨rfl, hb5⟩; have HB5 : Hid (Below w.heap.size w w5) := (HB4.out.trans ((below_drew W').mono HB4.out.size)).trans (hb5.mono HB4.out.size)
           have M1 : Hid (isN w5 (.slice a1 l1 c1) _) := isN_below (isN_below N1.out (below_drew _)) hb5; have M2 : Hid (isN w5 (.slice a2 l2 c2) _) := isN_below (isN_below N2.out (below_drew _)) hb5; have M3 : Hid (isN w5 (.slice a3 l3 c3) _) := isN_below (isN_below N3.out (below_drew _)) hb5; have M4 : Hid (isN w5 (.slice a4 l4 c4) _) := isN_below (isN_below N4.out (below_drew _)) hb5
           have Y0 : Hid (boxAt w5 _ _ _) := X0.out.drew.on hb5; have Y1 : Hid (boxAt w5 _ _ _) := X1.out.drew.on hb5; have Y2 : Hid (boxAt w5 _ _ _) := Z2.out.drew.on hb5
           have j00 := Y0.out.cell 0 rfl; have j01 := Y0.out.cell 1 rfl; have j02 := Y0.out.cell 2 rfl; have j03 := Y0.out.cell 3 rfl; have j10 := Y1.out.cell 0 rfl; have j11 := Y1.out.cell 1 rfl; have j12 := Y1.out.cell 2 rfl; have j13 := Y1.out.cell 3 rfl; clear hb5)
        | (go_at_call 22; refine (combineProd_any neg a1 l1 c1 false a2 l2 c2 false a4 l4 c4 neg2 a3 l3 c3 u d d2 u2 _ M1.out M2.out M4.out M3.out f1 f2 f4 f3).mono ?_; rintro e w6 ⟨⟨c5, a5, l5, p5, c6, a6, l6, p6, rfl, hc5, h5, hc6, h6⟩, hb6⟩; have HB6 : Hid (Below w.heap.size w w6) := HB5.out.trans (hb6.mono HB5.out.size)
           have hs : Hid ((c5 != c6) = (neg != neg2)) := (by show _ = _; (rw [hc5.out, hc6.out]; cases neg <;> cases neg2 <;> rfl))
           have V0 : Hid (boxAt w6 _ _ _) := Y0.out.on hb6; have V1 : Hid (boxAt w6 _ _ _) := Y1.out.on hb6; have V2 : Hid (boxAt w6 _ _ _) := Y2.out.on hb6
           have i00 := V0.out.cell 0 rfl; have i01 := V0.out.cell 1 rfl; have i02 := V0.out.cell 2 rfl; have i03 := V0.out.cell 3 rfl; have i10 := V1.out.cell 0 rfl; have i11 := V1.out.cell 1 rfl; have i12 := V1.out.cell 2 rfl; have i13 := V1.out.cell 3 rfl; clear hb6)
        | (go_at_call 21; refine (HN.out c5 a5 l5 p5 c6 a6 l6 p6 _ hs h5 h6 (HT.out.on HB6.out)).mono ?_; rintro e w7 ⟨rfl, hb7⟩; have HB7 : Hid (Below w.heap.size w w7) := HB6.out.trans (hb7.mono HB6.out.size)
           have U0 : Hid (boxAt w7 _ _ _) := V0.out.on hb7; have U1 : Hid (boxAt w7 _ _ _) := V1.out.on hb7; have U2 : Hid (boxAt w7 _ _ _) := V2.out.on hb7
           have o00 := U0.out.cell 0 rfl; have o01 := U0.out.cell 1 rfl; have o02 := U0.out.cell 2 rfl; have o03 := U0.out.cell 3 rfl; have o10 := U1.out.cell 0 rfl; have o11 := U1.out.cell 1 rfl; have o12 := U1.out.cell 2 rfl; have o13 := U1.out.cell 3 rfl; have q20 := U2.out.cell 0 rfl; have q21 := U2.out.cell 1 rfl; have q22 := U2.out.cell 2 rfl; have g20 := U2.out.frozen 0; have g21 := U2.out.frozen 1; have g22 := U2.out.frozen 2; clear hb7))
    all_goals
      have hz2 := U2.out.lt
      refine ⟨⟨_, rfl, rfl, rfl⟩, ⟨?_, ?_, ?_⟩, ?_⟩
      · go_simp
      · go_simp
      · go_simp
      · exact bel_set (bel_set (bel_set HB7.out (by show _ ≤ w.heap.size + 1 + 1; omega)) (by show _ ≤ w.heap.size + 1 + 1; omega)) (by show _ ≤ w.heap.size + 1 + 1; omega)
  · intro e a' w' hq
    cases e
    case normal =>
      obtain ⟨⟨us, rfl, hus4, hus5⟩, ⟨hv0, hv1, hv2⟩, hb⟩ := hq
      go_wp2
      simp only [bodyPost]
      refine ⟨trivial, _, ?_, rfl, hb⟩
      simp only [results, Tryd.results17]
      go_simp
    all_goals exact hq.elim

end Go.Proofs.YtbgbbhenakjbgahDoor
