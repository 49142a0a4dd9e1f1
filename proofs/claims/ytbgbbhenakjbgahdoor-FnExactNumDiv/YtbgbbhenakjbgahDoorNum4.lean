/-
  Contracts of the specification's sums, differences, products and quotients.
-/
import Derived.Test.YtbgbbhenakjbgahDoorNum2
namespace Go.Proofs.YtbgbbhenakjbgahDoor
set_option maxRecDepth 100000
set_option linter.unusedVariables false
set_option linter.unusedSimpArgs false
open Go.RowKit
attribute [local go_sem ↓] Go.wp_at_zero Go.wp_at_succ

set_option maxHeartbeats 1600000 in
theorem l3Neg_v (neg : Bool) (up dn : ByteArray) (u : Nat) (b : Bool) (w : World) (hu : Dm.isDec up.data.toList u) (hb : Hid (b = (!neg && decide (u ≠ 0)))) :
    Calls Tryd.prog 24 #[.agg #[.bool neg, .string up, .string dn]] w fun e w' => e = .returned (.agg #[.bool b, .string up, .string dn]) ∧ Below w.heap.size w w' := by
  have hc := isDec_48 up u hu
  have hB : ∀ o, Below w.heap.size w (w.alloc o) := fun o => (Below.refl _ _).alloc (Nat.le_refl _) _
  clear hu
  cases neg
  · by_cases h0 : u = 0
    · have e : b = false := by rw [hb.out]; simp [h0]
      have hc' : (up.toList == [48]) = true := by rw [hc]; exact decide_eq_true h0
      subst e
      clear hc h0 hb
      go_enter Tryd.func24, Tryd.ntmps24
      go_wp2
      simp only [bodyPost]
      refine ⟨trivial, _, ?_, rfl, ?_⟩
      · simp only [results, Tryd.results24]
        go_simp
      · exact bel_alloc (hB _)
    · have e : b = true := by rw [hb.out]; simp [h0]
      have hc' : (up.toList == [48]) = false := by rw [hc]; exact decide_eq_false h0
      subst e
      clear hc h0 hb
      go_enter Tryd.func24, Tryd.ntmps24
      go_wp2
      simp only [bodyPost]
      refine ⟨trivial, _, ?_, rfl, ?_⟩
      · simp only [results, Tryd.results24]
        go_simp
      · exact bel_alloc (hB _)
  · have e : b = false := by rw [hb.out]; rfl
    subst e
    clear hc hb
    go_enter Tryd.func24, Tryd.ntmps24
    go_wp2
    simp only [bodyPost]
    refine ⟨trivial, _, ?_, rfl, ?_⟩
    · simp only [results, Tryd.results24]
      go_simp
    · exact bel_alloc (hB _)

/-- Adding numbers that are ok. -/
def AddRet (neg : Bool) (u d : Nat) (neg2 : Bool) (u2 d2 : Nat) : Value :=
  .tuple #[.agg #[.bool (numC (addB neg (u * d2) neg2 (u2 * d)) (addN neg (u * d2) neg2 (u2 * d)) (d * d2)), .string (numU (addN neg (u * d2) neg2 (u2 * d)) (d * d2)), .string (numD (addN neg (u * d2) neg2 (u2 * d)) (d * d2))], .int .i64 (numK (addN neg (u * d2) neg2 (u2 * d)) (d * d2))]

set_option maxHeartbeats 3200000 in
theorem l3Add_eq (neg : Bool) (up dn : ByteArray) (up2 dn2 : ByteArray) (u d u2 d2 : Nat) (w : World) (h1 : Dm.isDec up.data.toList u) (h2 : Dm.isDec dn.data.toList d) (h3 : Dm.isDec up2.data.toList u2) (h4 : Dm.isDec dn2.data.toList d2)
    (e1 : fits u 7) (e2 : fits d 7) (e3 : fits u2 7) (e4 : fits d2 7) (hd0 : d ≠ 0) (hd2 : d2 ≠ 0)  :
    Calls Tryd.prog 19 #[.agg #[.bool neg, .string up, .string dn], .agg #[.bool neg, .string up2, .string dn2]] w fun e w' => e = .returned (AddRet neg u d neg u2 d2) ∧ Below w.heap.size w w' := by
  have hB : addB neg (u * d2) neg (u2 * d) = neg := by unfold addB; cases neg <;> rfl
  have hN : addN neg (u * d2) neg (u2 * d) = u * d2 + u2 * d := by unfold addN; cases neg <;> rfl
  unfold AddRet
  rw [hB, hN]
  clear hB hN
  have s1 := isDec_szL up u 7 h1 e1 (by omega)
  have s2 := isDec_szL dn d 7 h2 e2 (by omega)
  have s3 := isDec_szL up2 u2 7 h3 e3 (by omega)
  have s4 := isDec_szL dn2 d2 7 h4 e4 (by omega)
  have hm0 : d * d2 ≠ 0 := Nat.mul_ne_zero hd0 hd2
  have g14 := fits_mul0 e1 e4
  have g32 := fits_mul0 e3 e2
  have fn : fits (u * d2 + u2 * d) 8000 := (fits_add0 g14 g32).mono (Nat.le_refl _) (by omega)
  have fm : fits (d * d2) 8000 := (fits_mul0 e2 e4).mono (Nat.le_refl _) (by omega)
  have H1 : Hid (Dm.isDec up.data.toList u) := h1
  have H2 : Hid (Dm.isDec dn.data.toList d) := h2
  have H3 : Hid (Dm.isDec up2.data.toList u2) := h3
  have H4 : Hid (Dm.isDec dn2.data.toList d2) := h4
  obtain ⟨C, hC⟩ : ∃ C, C = numC neg (u * d2 + u2 * d) (d * d2) := ⟨_, rfl⟩
  obtain ⟨U, hU⟩ : ∃ U, U = numU (u * d2 + u2 * d) (d * d2) := ⟨_, rfl⟩
  obtain ⟨D, hD⟩ : ∃ D, D = numD (u * d2 + u2 * d) (d * d2) := ⟨_, rfl⟩
  obtain ⟨K, hK⟩ : ∃ K, K = numK (u * d2 + u2 * d) (d * d2) := ⟨_, rfl⟩
  rw [← hC, ← hU, ← hD, ← hK]
  have HA : Hid (∀ (s1 s2 : ByteArray) (w : World), Dm.isDec s1.data.toList (u * d2 + u2 * d) → Dm.isDec s2.data.toList (d * d2) →
    Calls Tryd.prog 26 #[.bool neg, .string s1, .string s2] w fun e w' => e = .returned (.tuple #[.agg #[.bool C, .string U, .string D], .int .i64 K]) ∧ Below w.heap.size w w') := by
    intro s1 s2 w hs1 hs2
    rw [hC, hU, hD, hK]
    exact l3Answer_any neg s1 s2 _ _ w hs1 hs2 hm0 fn fm
  clear h1 h2 h3 h4 e1 e2 e3 e4 hC hU hD hK fn hd0 hd2 hm0
  cases neg
  · try simp only [Bool.not_false, Bool.not_true] at HA ⊢
    go_enter Tryd.func19, Tryd.ntmps19
    go_wp2_with fail
    obtain ⟨W, hW, hBW, x0, x1, x2⟩ := boxes3 w #[Value.bool _, Value.string up, Value.string dn] #[Value.bool _, Value.string up2, Value.string dn2] #[Value.bool false, Value.string ⟨#[]⟩, Value.string ⟨#[]⟩] 25 25 25
    rw [← hW]
    have HBW : Hid (Below w.heap.size w W) := hBW
    have X0 : Hid (boxAt W _ _ _) := x0
    have X1 : Hid (boxAt W _ _ _) := x1
    have X2 : Hid (boxAt W _ _ _) := x2
    clear hW hBW x0 x1 x2
    refine (l1Mul_any up dn2 u d2 _ (by omega) (by omega) H1.out H4.out).mono ?_
    rintro e w1 ⟨⟨tx, rfl, hx⟩, hb1⟩
    have sx := isDec_szL tx _ _ hx g14 (by omega)
    have TX : Hid (Dm.isDec tx.data.toList (u * d2)) := hx
    have HB1 : Hid (Below w.heap.size w w1) := HBW.out.trans (hb1.mono HBW.out.size)
    have Y0 : Hid (boxAt w1 _ _ _) := X0.out.on hb1
    have Y1 : Hid (boxAt w1 _ _ _) := X1.out.on hb1
    have Y2 : Hid (boxAt w1 _ _ _) := X2.out.on hb1
    clear hx hb1 X0 X1 X2 HBW
    have k02 := Y0.out.cell 2 rfl
    have k11 := Y1.out.cell 1 rfl
    go_wp2_with fail
    refine (l1Mul_any up2 dn u2 d _ (by omega) (by omega) H3.out H2.out).mono ?_
    rintro e w2 ⟨⟨ty, rfl, hy⟩, hb2⟩
    have sy := isDec_szL ty _ _ hy g32 (by omega)
    have TY : Hid (Dm.isDec ty.data.toList (u2 * d)) := hy
    have HB2 : Hid (Below w.heap.size w w2) := HB1.out.trans (hb2.mono HB1.out.size)
    have X0 : Hid (boxAt w2 _ _ _) := Y0.out.on hb2
    have X1 : Hid (boxAt w2 _ _ _) := Y1.out.on hb2
    have X2 : Hid (boxAt w2 _ _ _) := Y2.out.on hb2
    clear hy hb2 Y0 Y1 Y2 HB1 k02 k11
    have k02 := X0.out.cell 2 rfl
    have k12 := X1.out.cell 2 rfl
    go_wp2_with fail
    refine (l1Mul_any dn dn2 d d2 _ (by omega) (by omega) H2.out H4.out).mono ?_
    rintro e w3 ⟨⟨tz, rfl, hz⟩, hb3⟩
    have TZ : Hid (Dm.isDec tz.data.toList (d * d2)) := hz
    have HB3 : Hid (Below w.heap.size w w3) := HB2.out.trans (hb3.mono HB2.out.size)
    have Y0 : Hid (boxAt w3 _ _ _) := X0.out.on hb3
    have Y1 : Hid (boxAt w3 _ _ _) := X1.out.on hb3
    have Y2 : Hid (boxAt w3 _ _ _) := X2.out.on hb3
    clear hz hb3 X0 X1 X2 HB2 k02 k12
    have k00 := Y0.out.cell 0 rfl
    have k10 := Y1.out.cell 0 rfl
    go_wp2_with fail
    refine Go.wp_mono (Q := fun e a' w' => match e with | .normal => (∃ us : Array Value, a' = { tmps := us, defers := [] } ∧ us[4]? = some (.pointer (some ⟨w.heap.size + 1 + 1, 0, none⟩)) ∧ us[5]? = some (.int .i64 K)) ∧ (w'.cell? ⟨w.heap.size + 1 + 1, 0, none⟩ = some (.bool C) ∧ w'.cell? ⟨w.heap.size + 1 + 1, 1, none⟩ = some (.string U) ∧ w'.cell? ⟨w.heap.size + 1 + 1, 2, none⟩ = some (.string D)) ∧ Below w.heap.size w w' | _ => False) ?_ ?_
    · have hlt := Y2.out.lt
      go_region_held3 (fun w' => w'.cell? ⟨w.heap.size, 0, none⟩ = some (Value.bool false))
        (first | (with_reducible assumption) | ((with_reducible refine keep_set (keep_set (keep_set ?_ ?_) ?_) ?_) <;> first | omega | assumption) | (go_keep; done))
        (first
          | (go_at_call 33; refine (l1Add_any tx ty _ _ _ (by omega) (by omega) TX.out TY.out).mono ?_; rintro e w5 ⟨⟨tn, rfl, h5⟩, hb5⟩; have TN : Hid (Dm.isDec tn.data.toList (u * d2 + u2 * d)) := h5; have HB5 : Hid (Below w.heap.size w w5) := (HB3.out.trans ((below_drew _).mono HB3.out.size)).trans (hb5.mono HB3.out.size)
             have V0 : Hid (boxAt w5 _ _ _) := Y0.out.drew.on hb5; have V2 : Hid (boxAt w5 _ _ _) := Y2.out.drew.on hb5; have j00 := V0.out.cell 0 rfl; clear h5 hb5)
          | (go_at_call 26; refine (HA.out tn tz _ TN.out TZ.out).mono ?_; rintro e w6 ⟨rfl, hb6⟩; have HB6 : Hid (Below w.heap.size w w6) := HB5.out.trans (hb6.mono HB5.out.size)
             have U0 : Hid (boxAt w6 _ _ _) := V0.out.on hb6; have U2 : Hid (boxAt w6 _ _ _) := V2.out.on hb6; have i00 := U0.out.cell 0 rfl
             have q20 := U2.out.cell 0 rfl; have q21 := U2.out.cell 1 rfl; have q22 := U2.out.cell 2 rfl; have g20 := U2.out.frozen 0; have g21 := U2.out.frozen 1; have g22 := U2.out.frozen 2; clear hb6))
      all_goals
        have hz2 := U2.out.lt
        refine ⟨⟨_, rfl, rfl, rfl⟩, ⟨?_, ?_, ?_⟩, ?_⟩
        · go_simp
        · go_simp
        · go_simp
        · exact bel_set (bel_set (bel_set HB6.out (by show _ ≤ w.heap.size + 1 + 1; omega)) (by show _ ≤ w.heap.size + 1 + 1; omega)) (by show _ ≤ w.heap.size + 1 + 1; omega)
    · intro e a' w' hq
      cases e
      case normal =>
        obtain ⟨⟨us, rfl, hus4, hus5⟩, ⟨hv0, hv1, hv2⟩, hb⟩ := hq
        go_wp2
        simp only [bodyPost]
        refine ⟨trivial, _, ?_, rfl, hb⟩
        simp only [results, Tryd.results19]
        go_simp
      all_goals exact hq.elim
  · try simp only [Bool.not_false, Bool.not_true] at HA ⊢
    go_enter Tryd.func19, Tryd.ntmps19
    go_wp2_with fail
    obtain ⟨W, hW, hBW, x0, x1, x2⟩ := boxes3 w #[Value.bool _, Value.string up, Value.string dn] #[Value.bool _, Value.string up2, Value.string dn2] #[Value.bool false, Value.string ⟨#[]⟩, Value.string ⟨#[]⟩] 25 25 25
    rw [← hW]
    have HBW : Hid (Below w.heap.size w W) := hBW
    have X0 : Hid (boxAt W _ _ _) := x0
    have X1 : Hid (boxAt W _ _ _) := x1
    have X2 : Hid (boxAt W _ _ _) := x2
    clear hW hBW x0 x1 x2
    refine (l1Mul_any up dn2 u d2 _ (by omega) (by omega) H1.out H4.out).mono ?_
    rintro e w1 ⟨⟨tx, rfl, hx⟩, hb1⟩
    have sx := isDec_szL tx _ _ hx g14 (by omega)
    have TX : Hid (Dm.isDec tx.data.toList (u * d2)) := hx
    have HB1 : Hid (Below w.heap.size w w1) := HBW.out.trans (hb1.mono HBW.out.size)
    have Y0 : Hid (boxAt w1 _ _ _) := X0.out.on hb1
    have Y1 : Hid (boxAt w1 _ _ _) := X1.out.on hb1
    have Y2 : Hid (boxAt w1 _ _ _) := X2.out.on hb1
    clear hx hb1 X0 X1 X2 HBW
    have k02 := Y0.out.cell 2 rfl
    have k11 := Y1.out.cell 1 rfl
    go_wp2_with fail
    refine (l1Mul_any up2 dn u2 d _ (by omega) (by omega) H3.out H2.out).mono ?_
    rintro e w2 ⟨⟨ty, rfl, hy⟩, hb2⟩
    have sy := isDec_szL ty _ _ hy g32 (by omega)
    have TY : Hid (Dm.isDec ty.data.toList (u2 * d)) := hy
    have HB2 : Hid (Below w.heap.size w w2) := HB1.out.trans (hb2.mono HB1.out.size)
    have X0 : Hid (boxAt w2 _ _ _) := Y0.out.on hb2
    have X1 : Hid (boxAt w2 _ _ _) := Y1.out.on hb2
    have X2 : Hid (boxAt w2 _ _ _) := Y2.out.on hb2
    clear hy hb2 Y0 Y1 Y2 HB1 k02 k11
    have k02 := X0.out.cell 2 rfl
    have k12 := X1.out.cell 2 rfl
    go_wp2_with fail
    refine (l1Mul_any dn dn2 d d2 _ (by omega) (by omega) H2.out H4.out).mono ?_
    rintro e w3 ⟨⟨tz, rfl, hz⟩, hb3⟩
    have TZ : Hid (Dm.isDec tz.data.toList (d * d2)) := hz
    have HB3 : Hid (Below w.heap.size w w3) := HB2.out.trans (hb3.mono HB2.out.size)
    have Y0 : Hid (boxAt w3 _ _ _) := X0.out.on hb3
    have Y1 : Hid (boxAt w3 _ _ _) := X1.out.on hb3
    have Y2 : Hid (boxAt w3 _ _ _) := X2.out.on hb3
    clear hz hb3 X0 X1 X2 HB2 k02 k12
    have k00 := Y0.out.cell 0 rfl
    have k10 := Y1.out.cell 0 rfl
    go_wp2_with fail
    refine Go.wp_mono (Q := fun e a' w' => match e with | .normal => (∃ us : Array Value, a' = { tmps := us, defers := [] } ∧ us[4]? = some (.pointer (some ⟨w.heap.size + 1 + 1, 0, none⟩)) ∧ us[5]? = some (.int .i64 K)) ∧ (w'.cell? ⟨w.heap.size + 1 + 1, 0, none⟩ = some (.bool C) ∧ w'.cell? ⟨w.heap.size + 1 + 1, 1, none⟩ = some (.string U) ∧ w'.cell? ⟨w.heap.size + 1 + 1, 2, none⟩ = some (.string D)) ∧ Below w.heap.size w w' | _ => False) ?_ ?_
    · have hlt := Y2.out.lt
      go_region_held3 (fun w' => w'.cell? ⟨w.heap.size, 0, none⟩ = some (Value.bool true))
        (first | (with_reducible assumption) | ((with_reducible refine keep_set (keep_set (keep_set ?_ ?_) ?_) ?_) <;> first | omega | assumption) | (go_keep; done))
        (first
          | (go_at_call 33; refine (l1Add_any tx ty _ _ _ (by omega) (by omega) TX.out TY.out).mono ?_; rintro e w5 ⟨⟨tn, rfl, h5⟩, hb5⟩; have TN : Hid (Dm.isDec tn.data.toList (u * d2 + u2 * d)) := h5; have HB5 : Hid (Below w.heap.size w w5) := (HB3.out.trans ((below_drew _).mono HB3.out.size)).trans (hb5.mono HB3.out.size)
             have V0 : Hid (boxAt w5 _ _ _) := Y0.out.drew.on hb5; have V2 : Hid (boxAt w5 _ _ _) := Y2.out.drew.on hb5; have j00 := V0.out.cell 0 rfl; clear h5 hb5)
          | (go_at_call 26; refine (HA.out tn tz _ TN.out TZ.out).mono ?_; rintro e w6 ⟨rfl, hb6⟩; have HB6 : Hid (Below w.heap.size w w6) := HB5.out.trans (hb6.mono HB5.out.size)
             have U0 : Hid (boxAt w6 _ _ _) := V0.out.on hb6; have U2 : Hid (boxAt w6 _ _ _) := V2.out.on hb6; have i00 := U0.out.cell 0 rfl
             have q20 := U2.out.cell 0 rfl; have q21 := U2.out.cell 1 rfl; have q22 := U2.out.cell 2 rfl; have g20 := U2.out.frozen 0; have g21 := U2.out.frozen 1; have g22 := U2.out.frozen 2; clear hb6))
      all_goals
        have hz2 := U2.out.lt
        refine ⟨⟨_, rfl, rfl, rfl⟩, ⟨?_, ?_, ?_⟩, ?_⟩
        · go_simp
        · go_simp
        · go_simp
        · exact bel_set (bel_set (bel_set HB6.out (by show _ ≤ w.heap.size + 1 + 1; omega)) (by show _ ≤ w.heap.size + 1 + 1; omega)) (by show _ ≤ w.heap.size + 1 + 1; omega)
    · intro e a' w' hq
      cases e
      case normal =>
        obtain ⟨⟨us, rfl, hus4, hus5⟩, ⟨hv0, hv1, hv2⟩, hb⟩ := hq
        go_wp2
        simp only [bodyPost]
        refine ⟨trivial, _, ?_, rfl, hb⟩
        simp only [results, Tryd.results19]
        go_simp
      all_goals exact hq.elim

set_option maxHeartbeats 3200000 in
theorem l3Add_ge (neg : Bool) (up dn : ByteArray) (up2 dn2 : ByteArray) (u d u2 d2 : Nat) (w : World) (h1 : Dm.isDec up.data.toList u) (h2 : Dm.isDec dn.data.toList d) (h3 : Dm.isDec up2.data.toList u2) (h4 : Dm.isDec dn2.data.toList d2)
    (e1 : fits u 7) (e2 : fits d 7) (e3 : fits u2 7) (e4 : fits d2 7) (hd0 : d ≠ 0) (hd2 : d2 ≠ 0) (hle : u2 * d ≤ u * d2) :
    Calls Tryd.prog 19 #[.agg #[.bool neg, .string up, .string dn], .agg #[.bool (!neg), .string up2, .string dn2]] w fun e w' => e = .returned (AddRet neg u d (!neg) u2 d2) ∧ Below w.heap.size w w' := by
  have hB : addB neg (u * d2) (!neg) (u2 * d) = neg := by unfold addB; rw [if_neg (by cases neg <;> decide), if_neg (by omega)]
  have hN : addN neg (u * d2) (!neg) (u2 * d) = u * d2 - u2 * d := by unfold addN; rw [if_neg (by cases neg <;> decide), if_neg (by omega)]
  unfold AddRet
  rw [hB, hN]
  clear hB hN
  have s1 := isDec_szL up u 7 h1 e1 (by omega)
  have s2 := isDec_szL dn d 7 h2 e2 (by omega)
  have s3 := isDec_szL up2 u2 7 h3 e3 (by omega)
  have s4 := isDec_szL dn2 d2 7 h4 e4 (by omega)
  have hm0 : d * d2 ≠ 0 := Nat.mul_ne_zero hd0 hd2
  have g14 := fits_mul0 e1 e4
  have g32 := fits_mul0 e3 e2
  have fn : fits (u * d2 - u2 * d) 8000 := g14.mono (Nat.sub_le _ _) (by omega)
  have fm : fits (d * d2) 8000 := (fits_mul0 e2 e4).mono (Nat.le_refl _) (by omega)
  have H1 : Hid (Dm.isDec up.data.toList u) := h1
  have H2 : Hid (Dm.isDec dn.data.toList d) := h2
  have H3 : Hid (Dm.isDec up2.data.toList u2) := h3
  have H4 : Hid (Dm.isDec dn2.data.toList d2) := h4
  have HC : Hid (cmpI (u * d2) (u2 * d) ≥ 0) := by
    show cmpI (u * d2) (u2 * d) ≥ 0
    unfold cmpI
    split
    all_goals (try split)
    all_goals omega
  have HLE : Hid (u2 * d ≤ u * d2) := hle
  clear hle
  obtain ⟨C, hC⟩ : ∃ C, C = numC neg (u * d2 - u2 * d) (d * d2) := ⟨_, rfl⟩
  obtain ⟨U, hU⟩ : ∃ U, U = numU (u * d2 - u2 * d) (d * d2) := ⟨_, rfl⟩
  obtain ⟨D, hD⟩ : ∃ D, D = numD (u * d2 - u2 * d) (d * d2) := ⟨_, rfl⟩
  obtain ⟨K, hK⟩ : ∃ K, K = numK (u * d2 - u2 * d) (d * d2) := ⟨_, rfl⟩
  rw [← hC, ← hU, ← hD, ← hK]
  have HA : Hid (∀ (s1 s2 : ByteArray) (w : World), Dm.isDec s1.data.toList (u * d2 - u2 * d) → Dm.isDec s2.data.toList (d * d2) →
    Calls Tryd.prog 26 #[.bool neg, .string s1, .string s2] w fun e w' => e = .returned (.tuple #[.agg #[.bool C, .string U, .string D], .int .i64 K]) ∧ Below w.heap.size w w') := by
    intro s1 s2 w hs1 hs2
    rw [hC, hU, hD, hK]
    exact l3Answer_any neg s1 s2 _ _ w hs1 hs2 hm0 fn fm
  clear h1 h2 h3 h4 e1 e2 e3 e4 hC hU hD hK fn hd0 hd2 hm0
  cases neg
  · try simp only [Bool.not_false, Bool.not_true] at HA ⊢
    go_enter Tryd.func19, Tryd.ntmps19
    go_wp2_with fail
    obtain ⟨W, hW, hBW, x0, x1, x2⟩ := boxes3 w #[Value.bool _, Value.string up, Value.string dn] #[Value.bool _, Value.string up2, Value.string dn2] #[Value.bool false, Value.string ⟨#[]⟩, Value.string ⟨#[]⟩] 25 25 25
    rw [← hW]
    have HBW : Hid (Below w.heap.size w W) := hBW
    have X0 : Hid (boxAt W _ _ _) := x0
    have X1 : Hid (boxAt W _ _ _) := x1
    have X2 : Hid (boxAt W _ _ _) := x2
    clear hW hBW x0 x1 x2
    refine (l1Mul_any up dn2 u d2 _ (by omega) (by omega) H1.out H4.out).mono ?_
    rintro e w1 ⟨⟨tx, rfl, hx⟩, hb1⟩
    have sx := isDec_szL tx _ _ hx g14 (by omega)
    have TX : Hid (Dm.isDec tx.data.toList (u * d2)) := hx
    have HB1 : Hid (Below w.heap.size w w1) := HBW.out.trans (hb1.mono HBW.out.size)
    have Y0 : Hid (boxAt w1 _ _ _) := X0.out.on hb1
    have Y1 : Hid (boxAt w1 _ _ _) := X1.out.on hb1
    have Y2 : Hid (boxAt w1 _ _ _) := X2.out.on hb1
    clear hx hb1 X0 X1 X2 HBW
    have k02 := Y0.out.cell 2 rfl
    have k11 := Y1.out.cell 1 rfl
    go_wp2_with fail
    refine (l1Mul_any up2 dn u2 d _ (by omega) (by omega) H3.out H2.out).mono ?_
    rintro e w2 ⟨⟨ty, rfl, hy⟩, hb2⟩
    have sy := isDec_szL ty _ _ hy g32 (by omega)
    have TY : Hid (Dm.isDec ty.data.toList (u2 * d)) := hy
    have HB2 : Hid (Below w.heap.size w w2) := HB1.out.trans (hb2.mono HB1.out.size)
    have X0 : Hid (boxAt w2 _ _ _) := Y0.out.on hb2
    have X1 : Hid (boxAt w2 _ _ _) := Y1.out.on hb2
    have X2 : Hid (boxAt w2 _ _ _) := Y2.out.on hb2
    clear hy hb2 Y0 Y1 Y2 HB1 k02 k11
    have k02 := X0.out.cell 2 rfl
    have k12 := X1.out.cell 2 rfl
    go_wp2_with fail
    refine (l1Mul_any dn dn2 d d2 _ (by omega) (by omega) H2.out H4.out).mono ?_
    rintro e w3 ⟨⟨tz, rfl, hz⟩, hb3⟩
    have TZ : Hid (Dm.isDec tz.data.toList (d * d2)) := hz
    have HB3 : Hid (Below w.heap.size w w3) := HB2.out.trans (hb3.mono HB2.out.size)
    have Y0 : Hid (boxAt w3 _ _ _) := X0.out.on hb3
    have Y1 : Hid (boxAt w3 _ _ _) := X1.out.on hb3
    have Y2 : Hid (boxAt w3 _ _ _) := X2.out.on hb3
    clear hz hb3 X0 X1 X2 HB2 k02 k12
    have k00 := Y0.out.cell 0 rfl
    have k10 := Y1.out.cell 0 rfl
    go_wp2_with fail
    refine (l1Cmp_ex tx ty _ _ _ TX.out TY.out).mono ?_
    rintro e w4 ⟨⟨cz, rfl, hcz, hcz1, hcz2⟩, rfl⟩
    have hcmp : cz ≥ 0 := by rw [hcz.out]; exact HC.out
    clear hcz
    have hcn : ¬ cz < 0 := by omega
    go_wp2_with fail
    refine Go.wp_mono (Q := fun e a' w' => match e with | .normal => (∃ us : Array Value, a' = { tmps := us, defers := [] } ∧ us[4]? = some (.pointer (some ⟨w.heap.size + 1 + 1, 0, none⟩)) ∧ us[5]? = some (.int .i64 K)) ∧ (w'.cell? ⟨w.heap.size + 1 + 1, 0, none⟩ = some (.bool C) ∧ w'.cell? ⟨w.heap.size + 1 + 1, 1, none⟩ = some (.string U) ∧ w'.cell? ⟨w.heap.size + 1 + 1, 2, none⟩ = some (.string D)) ∧ Below w.heap.size w w' | _ => False) ?_ ?_
    · have hlt := Y2.out.lt
      go_region_held3 (fun w' => w'.cell? ⟨w.heap.size, 0, none⟩ = some (Value.bool false))
        (first | (with_reducible assumption) | ((with_reducible refine keep_set (keep_set (keep_set ?_ ?_) ?_) ?_) <;> first | omega | assumption) | (go_keep; done))
        (first
          | (go_at_call 35; refine (l1Sub_any tx ty _ _ _ (by omega) (by omega) TX.out TY.out HLE.out).mono ?_; rintro e w5 ⟨⟨tn, rfl, h5⟩, hb5⟩; have TN : Hid (Dm.isDec tn.data.toList (u * d2 - u2 * d)) := h5; have HB5 : Hid (Below w.heap.size w w5) := (HB3.out.trans ((below_drew _).mono HB3.out.size)).trans (hb5.mono HB3.out.size)
             have V0 : Hid (boxAt w5 _ _ _) := Y0.out.drew.on hb5; have V2 : Hid (boxAt w5 _ _ _) := Y2.out.drew.on hb5; have j00 := V0.out.cell 0 rfl; clear h5 hb5)
          | (go_at_call 26; refine (HA.out tn tz _ TN.out TZ.out).mono ?_; rintro e w6 ⟨rfl, hb6⟩; have HB6 : Hid (Below w.heap.size w w6) := HB5.out.trans (hb6.mono HB5.out.size)
             have U0 : Hid (boxAt w6 _ _ _) := V0.out.on hb6; have U2 : Hid (boxAt w6 _ _ _) := V2.out.on hb6; have i00 := U0.out.cell 0 rfl
             have q20 := U2.out.cell 0 rfl; have q21 := U2.out.cell 1 rfl; have q22 := U2.out.cell 2 rfl; have g20 := U2.out.frozen 0; have g21 := U2.out.frozen 1; have g22 := U2.out.frozen 2; clear hb6))
      all_goals
        have hz2 := U2.out.lt
        refine ⟨⟨_, rfl, rfl, rfl⟩, ⟨?_, ?_, ?_⟩, ?_⟩
        · go_simp
        · go_simp
        · go_simp
        · exact bel_set (bel_set (bel_set HB6.out (by show _ ≤ w.heap.size + 1 + 1; omega)) (by show _ ≤ w.heap.size + 1 + 1; omega)) (by show _ ≤ w.heap.size + 1 + 1; omega)
    · intro e a' w' hq
      cases e
      case normal =>
        obtain ⟨⟨us, rfl, hus4, hus5⟩, ⟨hv0, hv1, hv2⟩, hb⟩ := hq
        go_wp2
        simp only [bodyPost]
        refine ⟨trivial, _, ?_, rfl, hb⟩
        simp only [results, Tryd.results19]
        go_simp
      all_goals exact hq.elim
  · try simp only [Bool.not_false, Bool.not_true] at HA ⊢
    go_enter Tryd.func19, Tryd.ntmps19
    go_wp2_with fail
    obtain ⟨W, hW, hBW, x0, x1, x2⟩ := boxes3 w #[Value.bool _, Value.string up, Value.string dn] #[Value.bool _, Value.string up2, Value.string dn2] #[Value.bool false, Value.string ⟨#[]⟩, Value.string ⟨#[]⟩] 25 25 25
    rw [← hW]
    have HBW : Hid (Below w.heap.size w W) := hBW
    have X0 : Hid (boxAt W _ _ _) := x0
    have X1 : Hid (boxAt W _ _ _) := x1
    have X2 : Hid (boxAt W _ _ _) := x2
    clear hW hBW x0 x1 x2
    refine (l1Mul_any up dn2 u d2 _ (by omega) (by omega) H1.out H4.out).mono ?_
    rintro e w1 ⟨⟨tx, rfl, hx⟩, hb1⟩
    have sx := isDec_szL tx _ _ hx g14 (by omega)
    have TX : Hid (Dm.isDec tx.data.toList (u * d2)) := hx
    have HB1 : Hid (Below w.heap.size w w1) := HBW.out.trans (hb1.mono HBW.out.size)
    have Y0 : Hid (boxAt w1 _ _ _) := X0.out.on hb1
    have Y1 : Hid (boxAt w1 _ _ _) := X1.out.on hb1
    have Y2 : Hid (boxAt w1 _ _ _) := X2.out.on hb1
    clear hx hb1 X0 X1 X2 HBW
    have k02 := Y0.out.cell 2 rfl
    have k11 := Y1.out.cell 1 rfl
    go_wp2_with fail
    refine (l1Mul_any up2 dn u2 d _ (by omega) (by omega) H3.out H2.out).mono ?_
    rintro e w2 ⟨⟨ty, rfl, hy⟩, hb2⟩
    have sy := isDec_szL ty _ _ hy g32 (by omega)
    have TY : Hid (Dm.isDec ty.data.toList (u2 * d)) := hy
    have HB2 : Hid (Below w.heap.size w w2) := HB1.out.trans (hb2.mono HB1.out.size)
    have X0 : Hid (boxAt w2 _ _ _) := Y0.out.on hb2
    have X1 : Hid (boxAt w2 _ _ _) := Y1.out.on hb2
    have X2 : Hid (boxAt w2 _ _ _) := Y2.out.on hb2
    clear hy hb2 Y0 Y1 Y2 HB1 k02 k11
    have k02 := X0.out.cell 2 rfl
    have k12 := X1.out.cell 2 rfl
    go_wp2_with fail
    refine (l1Mul_any dn dn2 d d2 _ (by omega) (by omega) H2.out H4.out).mono ?_
    rintro e w3 ⟨⟨tz, rfl, hz⟩, hb3⟩
    have TZ : Hid (Dm.isDec tz.data.toList (d * d2)) := hz
    have HB3 : Hid (Below w.heap.size w w3) := HB2.out.trans (hb3.mono HB2.out.size)
    have Y0 : Hid (boxAt w3 _ _ _) := X0.out.on hb3
    have Y1 : Hid (boxAt w3 _ _ _) := X1.out.on hb3
    have Y2 : Hid (boxAt w3 _ _ _) := X2.out.on hb3
    clear hz hb3 X0 X1 X2 HB2 k02 k12
    have k00 := Y0.out.cell 0 rfl
    have k10 := Y1.out.cell 0 rfl
    go_wp2_with fail
    refine (l1Cmp_ex tx ty _ _ _ TX.out TY.out).mono ?_
    rintro e w4 ⟨⟨cz, rfl, hcz, hcz1, hcz2⟩, rfl⟩
    have hcmp : cz ≥ 0 := by rw [hcz.out]; exact HC.out
    clear hcz
    have hcn : ¬ cz < 0 := by omega
    go_wp2_with fail
    refine Go.wp_mono (Q := fun e a' w' => match e with | .normal => (∃ us : Array Value, a' = { tmps := us, defers := [] } ∧ us[4]? = some (.pointer (some ⟨w.heap.size + 1 + 1, 0, none⟩)) ∧ us[5]? = some (.int .i64 K)) ∧ (w'.cell? ⟨w.heap.size + 1 + 1, 0, none⟩ = some (.bool C) ∧ w'.cell? ⟨w.heap.size + 1 + 1, 1, none⟩ = some (.string U) ∧ w'.cell? ⟨w.heap.size + 1 + 1, 2, none⟩ = some (.string D)) ∧ Below w.heap.size w w' | _ => False) ?_ ?_
    · have hlt := Y2.out.lt
      go_region_held3 (fun w' => w'.cell? ⟨w.heap.size, 0, none⟩ = some (Value.bool true))
        (first | (with_reducible assumption) | ((with_reducible refine keep_set (keep_set (keep_set ?_ ?_) ?_) ?_) <;> first | omega | assumption) | (go_keep; done))
        (first
          | (go_at_call 35; refine (l1Sub_any tx ty _ _ _ (by omega) (by omega) TX.out TY.out HLE.out).mono ?_; rintro e w5 ⟨⟨tn, rfl, h5⟩, hb5⟩; have TN : Hid (Dm.isDec tn.data.toList (u * d2 - u2 * d)) := h5; have HB5 : Hid (Below w.heap.size w w5) := (HB3.out.trans ((below_drew _).mono HB3.out.size)).trans (hb5.mono HB3.out.size)
             have V0 : Hid (boxAt w5 _ _ _) := Y0.out.drew.on hb5; have V2 : Hid (boxAt w5 _ _ _) := Y2.out.drew.on hb5; have j00 := V0.out.cell 0 rfl; clear h5 hb5)
          | (go_at_call 26; refine (HA.out tn tz _ TN.out TZ.out).mono ?_; rintro e w6 ⟨rfl, hb6⟩; have HB6 : Hid (Below w.heap.size w w6) := HB5.out.trans (hb6.mono HB5.out.size)
             have U0 : Hid (boxAt w6 _ _ _) := V0.out.on hb6; have U2 : Hid (boxAt w6 _ _ _) := V2.out.on hb6; have i00 := U0.out.cell 0 rfl
             have q20 := U2.out.cell 0 rfl; have q21 := U2.out.cell 1 rfl; have q22 := U2.out.cell 2 rfl; have g20 := U2.out.frozen 0; have g21 := U2.out.frozen 1; have g22 := U2.out.frozen 2; clear hb6))
      all_goals
        have hz2 := U2.out.lt
        refine ⟨⟨_, rfl, rfl, rfl⟩, ⟨?_, ?_, ?_⟩, ?_⟩
        · go_simp
        · go_simp
        · go_simp
        · exact bel_set (bel_set (bel_set HB6.out (by show _ ≤ w.heap.size + 1 + 1; omega)) (by show _ ≤ w.heap.size + 1 + 1; omega)) (by show _ ≤ w.heap.size + 1 + 1; omega)
    · intro e a' w' hq
      cases e
      case normal =>
        obtain ⟨⟨us, rfl, hus4, hus5⟩, ⟨hv0, hv1, hv2⟩, hb⟩ := hq
        go_wp2
        simp only [bodyPost]
        refine ⟨trivial, _, ?_, rfl, hb⟩
        simp only [results, Tryd.results19]
        go_simp
      all_goals exact hq.elim

set_option maxHeartbeats 3200000 in
theorem l3Add_lt (neg : Bool) (up dn : ByteArray) (up2 dn2 : ByteArray) (u d u2 d2 : Nat) (w : World) (h1 : Dm.isDec up.data.toList u) (h2 : Dm.isDec dn.data.toList d) (h3 : Dm.isDec up2.data.toList u2) (h4 : Dm.isDec dn2.data.toList d2)
    (e1 : fits u 7) (e2 : fits d 7) (e3 : fits u2 7) (e4 : fits d2 7) (hd0 : d ≠ 0) (hd2 : d2 ≠ 0) (hlt : u * d2 < u2 * d) :
    Calls Tryd.prog 19 #[.agg #[.bool neg, .string up, .string dn], .agg #[.bool (!neg), .string up2, .string dn2]] w fun e w' => e = .returned (AddRet neg u d (!neg) u2 d2) ∧ Below w.heap.size w w' := by
  have hB : addB neg (u * d2) (!neg) (u2 * d) = !neg := by unfold addB; rw [if_neg (by cases neg <;> decide), if_pos hlt]
  have hN : addN neg (u * d2) (!neg) (u2 * d) = u2 * d - u * d2 := by unfold addN; rw [if_neg (by cases neg <;> decide), if_pos hlt]
  unfold AddRet
  rw [hB, hN]
  clear hB hN
  have s1 := isDec_szL up u 7 h1 e1 (by omega)
  have s2 := isDec_szL dn d 7 h2 e2 (by omega)
  have s3 := isDec_szL up2 u2 7 h3 e3 (by omega)
  have s4 := isDec_szL dn2 d2 7 h4 e4 (by omega)
  have hm0 : d * d2 ≠ 0 := Nat.mul_ne_zero hd0 hd2
  have g14 := fits_mul0 e1 e4
  have g32 := fits_mul0 e3 e2
  have fn : fits (u2 * d - u * d2) 8000 := g32.mono (Nat.sub_le _ _) (by omega)
  have fm : fits (d * d2) 8000 := (fits_mul0 e2 e4).mono (Nat.le_refl _) (by omega)
  have H1 : Hid (Dm.isDec up.data.toList u) := h1
  have H2 : Hid (Dm.isDec dn.data.toList d) := h2
  have H3 : Hid (Dm.isDec up2.data.toList u2) := h3
  have H4 : Hid (Dm.isDec dn2.data.toList d2) := h4
  have HC : Hid (cmpI (u * d2) (u2 * d) < 0) := by
    show cmpI (u * d2) (u2 * d) < 0
    unfold cmpI
    split
    all_goals (try split)
    all_goals omega
  have HLE : Hid (u * d2 ≤ u2 * d) := Nat.le_of_lt hlt
  clear hlt
  obtain ⟨C, hC⟩ : ∃ C, C = numC (!neg) (u2 * d - u * d2) (d * d2) := ⟨_, rfl⟩
  obtain ⟨U, hU⟩ : ∃ U, U = numU (u2 * d - u * d2) (d * d2) := ⟨_, rfl⟩
  obtain ⟨D, hD⟩ : ∃ D, D = numD (u2 * d - u * d2) (d * d2) := ⟨_, rfl⟩
  obtain ⟨K, hK⟩ : ∃ K, K = numK (u2 * d - u * d2) (d * d2) := ⟨_, rfl⟩
  rw [← hC, ← hU, ← hD, ← hK]
  have HA : Hid (∀ (s1 s2 : ByteArray) (w : World), Dm.isDec s1.data.toList (u2 * d - u * d2) → Dm.isDec s2.data.toList (d * d2) →
    Calls Tryd.prog 26 #[.bool (!neg), .string s1, .string s2] w fun e w' => e = .returned (.tuple #[.agg #[.bool C, .string U, .string D], .int .i64 K]) ∧ Below w.heap.size w w') := by
    intro s1 s2 w hs1 hs2
    rw [hC, hU, hD, hK]
    exact l3Answer_any (!neg) s1 s2 _ _ w hs1 hs2 hm0 fn fm
  clear h1 h2 h3 h4 e1 e2 e3 e4 hC hU hD hK fn hd0 hd2 hm0
  cases neg
  · try simp only [Bool.not_false, Bool.not_true] at HA ⊢
    go_enter Tryd.func19, Tryd.ntmps19
    go_wp2_with fail
    obtain ⟨W, hW, hBW, x0, x1, x2⟩ := boxes3 w #[Value.bool _, Value.string up, Value.string dn] #[Value.bool _, Value.string up2, Value.string dn2] #[Value.bool false, Value.string ⟨#[]⟩, Value.string ⟨#[]⟩] 25 25 25
    rw [← hW]
    have HBW : Hid (Below w.heap.size w W) := hBW
    have X0 : Hid (boxAt W _ _ _) := x0
    have X1 : Hid (boxAt W _ _ _) := x1
    have X2 : Hid (boxAt W _ _ _) := x2
    clear hW hBW x0 x1 x2
    refine (l1Mul_any up dn2 u d2 _ (by omega) (by omega) H1.out H4.out).mono ?_
    rintro e w1 ⟨⟨tx, rfl, hx⟩, hb1⟩
    have sx := isDec_szL tx _ _ hx g14 (by omega)
    have TX : Hid (Dm.isDec tx.data.toList (u * d2)) := hx
    have HB1 : Hid (Below w.heap.size w w1) := HBW.out.trans (hb1.mono HBW.out.size)
    have Y0 : Hid (boxAt w1 _ _ _) := X0.out.on hb1
    have Y1 : Hid (boxAt w1 _ _ _) := X1.out.on hb1
    have Y2 : Hid (boxAt w1 _ _ _) := X2.out.on hb1
    clear hx hb1 X0 X1 X2 HBW
    have k02 := Y0.out.cell 2 rfl
    have k11 := Y1.out.cell 1 rfl
    go_wp2_with fail
    refine (l1Mul_any up2 dn u2 d _ (by omega) (by omega) H3.out H2.out).mono ?_
    rintro e w2 ⟨⟨ty, rfl, hy⟩, hb2⟩
    have sy := isDec_szL ty _ _ hy g32 (by omega)
    have TY : Hid (Dm.isDec ty.data.toList (u2 * d)) := hy
    have HB2 : Hid (Below w.heap.size w w2) := HB1.out.trans (hb2.mono HB1.out.size)
    have X0 : Hid (boxAt w2 _ _ _) := Y0.out.on hb2
    have X1 : Hid (boxAt w2 _ _ _) := Y1.out.on hb2
    have X2 : Hid (boxAt w2 _ _ _) := Y2.out.on hb2
    clear hy hb2 Y0 Y1 Y2 HB1 k02 k11
    have k02 := X0.out.cell 2 rfl
    have k12 := X1.out.cell 2 rfl
    go_wp2_with fail
    refine (l1Mul_any dn dn2 d d2 _ (by omega) (by omega) H2.out H4.out).mono ?_
    rintro e w3 ⟨⟨tz, rfl, hz⟩, hb3⟩
    have TZ : Hid (Dm.isDec tz.data.toList (d * d2)) := hz
    have HB3 : Hid (Below w.heap.size w w3) := HB2.out.trans (hb3.mono HB2.out.size)
    have Y0 : Hid (boxAt w3 _ _ _) := X0.out.on hb3
    have Y1 : Hid (boxAt w3 _ _ _) := X1.out.on hb3
    have Y2 : Hid (boxAt w3 _ _ _) := X2.out.on hb3
    clear hz hb3 X0 X1 X2 HB2 k02 k12
    have k00 := Y0.out.cell 0 rfl
    have k10 := Y1.out.cell 0 rfl
    go_wp2_with fail
    refine (l1Cmp_ex tx ty _ _ _ TX.out TY.out).mono ?_
    rintro e w4 ⟨⟨cz, rfl, hcz, hcz1, hcz2⟩, rfl⟩
    have hcmp : cz < 0 := by rw [hcz.out]; exact HC.out
    clear hcz
    go_wp2_with fail
    refine Go.wp_mono (Q := fun e a' w' => match e with | .normal => (∃ us : Array Value, a' = { tmps := us, defers := [] } ∧ us[4]? = some (.pointer (some ⟨w.heap.size + 1 + 1, 0, none⟩)) ∧ us[5]? = some (.int .i64 K)) ∧ (w'.cell? ⟨w.heap.size + 1 + 1, 0, none⟩ = some (.bool C) ∧ w'.cell? ⟨w.heap.size + 1 + 1, 1, none⟩ = some (.string U) ∧ w'.cell? ⟨w.heap.size + 1 + 1, 2, none⟩ = some (.string D)) ∧ Below w.heap.size w w' | _ => False) ?_ ?_
    · have hlt := Y2.out.lt
      go_region_held3 (fun w' => w'.cell? ⟨w.heap.size + 1, 0, none⟩ = some (Value.bool true))
        (first | (with_reducible assumption) | ((with_reducible refine keep_set (keep_set (keep_set ?_ ?_) ?_) ?_) <;> first | omega | assumption) | (go_keep; done))
        (first
          | (go_at_call 35; refine (l1Sub_any ty tx _ _ _ (by omega) (by omega) TY.out TX.out HLE.out).mono ?_; rintro e w5 ⟨⟨tn, rfl, h5⟩, hb5⟩; have TN : Hid (Dm.isDec tn.data.toList (u2 * d - u * d2)) := h5; have HB5 : Hid (Below w.heap.size w w5) := (HB3.out.trans ((below_drew _).mono HB3.out.size)).trans (hb5.mono HB3.out.size)
             have V0 : Hid (boxAt w5 _ _ _) := Y1.out.drew.on hb5; have V2 : Hid (boxAt w5 _ _ _) := Y2.out.drew.on hb5; have j00 := V0.out.cell 0 rfl; clear h5 hb5)
          | (go_at_call 26; refine (HA.out tn tz _ TN.out TZ.out).mono ?_; rintro e w6 ⟨rfl, hb6⟩; have HB6 : Hid (Below w.heap.size w w6) := HB5.out.trans (hb6.mono HB5.out.size)
             have U0 : Hid (boxAt w6 _ _ _) := V0.out.on hb6; have U2 : Hid (boxAt w6 _ _ _) := V2.out.on hb6; have i00 := U0.out.cell 0 rfl
             have q20 := U2.out.cell 0 rfl; have q21 := U2.out.cell 1 rfl; have q22 := U2.out.cell 2 rfl; have g20 := U2.out.frozen 0; have g21 := U2.out.frozen 1; have g22 := U2.out.frozen 2; clear hb6))
      all_goals
        have hz2 := U2.out.lt
        refine ⟨⟨_, rfl, rfl, rfl⟩, ⟨?_, ?_, ?_⟩, ?_⟩
        · go_simp
        · go_simp
        · go_simp
        · exact bel_set (bel_set (bel_set HB6.out (by show _ ≤ w.heap.size + 1 + 1; omega)) (by show _ ≤ w.heap.size + 1 + 1; omega)) (by show _ ≤ w.heap.size + 1 + 1; omega)
    · intro e a' w' hq
      cases e
      case normal =>
        obtain ⟨⟨us, rfl, hus4, hus5⟩, ⟨hv0, hv1, hv2⟩, hb⟩ := hq
        go_wp2
        simp only [bodyPost]
        refine ⟨trivial, _, ?_, rfl, hb⟩
        simp only [results, Tryd.results19]
        go_simp
      all_goals exact hq.elim
  · try simp only [Bool.not_false, Bool.not_true] at HA ⊢
    go_enter Tryd.func19, Tryd.ntmps19
    go_wp2_with fail
    obtain ⟨W, hW, hBW, x0, x1, x2⟩ := boxes3 w #[Value.bool _, Value.string up, Value.string dn] #[Value.bool _, Value.string up2, Value.string dn2] #[Value.bool false, Value.string ⟨#[]⟩, Value.string ⟨#[]⟩] 25 25 25
    rw [← hW]
    have HBW : Hid (Below w.heap.size w W) := hBW
    have X0 : Hid (boxAt W _ _ _) := x0
    have X1 : Hid (boxAt W _ _ _) := x1
    have X2 : Hid (boxAt W _ _ _) := x2
    clear hW hBW x0 x1 x2
    refine (l1Mul_any up dn2 u d2 _ (by omega) (by omega) H1.out H4.out).mono ?_
    rintro e w1 ⟨⟨tx, rfl, hx⟩, hb1⟩
    have sx := isDec_szL tx _ _ hx g14 (by omega)
    have TX : Hid (Dm.isDec tx.data.toList (u * d2)) := hx
    have HB1 : Hid (Below w.heap.size w w1) := HBW.out.trans (hb1.mono HBW.out.size)
    have Y0 : Hid (boxAt w1 _ _ _) := X0.out.on hb1
    have Y1 : Hid (boxAt w1 _ _ _) := X1.out.on hb1
    have Y2 : Hid (boxAt w1 _ _ _) := X2.out.on hb1
    clear hx hb1 X0 X1 X2 HBW
    have k02 := Y0.out.cell 2 rfl
    have k11 := Y1.out.cell 1 rfl
    go_wp2_with fail
    refine (l1Mul_any up2 dn u2 d _ (by omega) (by omega) H3.out H2.out).mono ?_
    rintro e w2 ⟨⟨ty, rfl, hy⟩, hb2⟩
    have sy := isDec_szL ty _ _ hy g32 (by omega)
    have TY : Hid (Dm.isDec ty.data.toList (u2 * d)) := hy
    have HB2 : Hid (Below w.heap.size w w2) := HB1.out.trans (hb2.mono HB1.out.size)
    have X0 : Hid (boxAt w2 _ _ _) := Y0.out.on hb2
    have X1 : Hid (boxAt w2 _ _ _) := Y1.out.on hb2
    have X2 : Hid (boxAt w2 _ _ _) := Y2.out.on hb2
    clear hy hb2 Y0 Y1 Y2 HB1 k02 k11
    have k02 := X0.out.cell 2 rfl
    have k12 := X1.out.cell 2 rfl
    go_wp2_with fail
    refine (l1Mul_any dn dn2 d d2 _ (by omega) (by omega) H2.out H4.out).mono ?_
    rintro e w3 ⟨⟨tz, rfl, hz⟩, hb3⟩
    have TZ : Hid (Dm.isDec tz.data.toList (d * d2)) := hz
    have HB3 : Hid (Below w.heap.size w w3) := HB2.out.trans (hb3.mono HB2.out.size)
    have Y0 : Hid (boxAt w3 _ _ _) := X0.out.on hb3
    have Y1 : Hid (boxAt w3 _ _ _) := X1.out.on hb3
    have Y2 : Hid (boxAt w3 _ _ _) := X2.out.on hb3
    clear hz hb3 X0 X1 X2 HB2 k02 k12
    have k00 := Y0.out.cell 0 rfl
    have k10 := Y1.out.cell 0 rfl
    go_wp2_with fail
    refine (l1Cmp_ex tx ty _ _ _ TX.out TY.out).mono ?_
    rintro e w4 ⟨⟨cz, rfl, hcz, hcz1, hcz2⟩, rfl⟩
    have hcmp : cz < 0 := by rw [hcz.out]; exact HC.out
    clear hcz
    go_wp2_with fail
    refine Go.wp_mono (Q := fun e a' w' => match e with | .normal => (∃ us : Array Value, a' = { tmps := us, defers := [] } ∧ us[4]? = some (.pointer (some ⟨w.heap.size + 1 + 1, 0, none⟩)) ∧ us[5]? = some (.int .i64 K)) ∧ (w'.cell? ⟨w.heap.size + 1 + 1, 0, none⟩ = some (.bool C) ∧ w'.cell? ⟨w.heap.size + 1 + 1, 1, none⟩ = some (.string U) ∧ w'.cell? ⟨w.heap.size + 1 + 1, 2, none⟩ = some (.string D)) ∧ Below w.heap.size w w' | _ => False) ?_ ?_
    · have hlt := Y2.out.lt
      go_region_held3 (fun w' => w'.cell? ⟨w.heap.size + 1, 0, none⟩ = some (Value.bool false))
        (first | (with_reducible assumption) | ((with_reducible refine keep_set (keep_set (keep_set ?_ ?_) ?_) ?_) <;> first | omega | assumption) | (go_keep; done))
        (first
          | (go_at_call 35; refine (l1Sub_any ty tx _ _ _ (by omega) (by omega) TY.out TX.out HLE.out).mono ?_; rintro e w5 ⟨⟨tn, rfl, h5⟩, hb5⟩; have TN : Hid (Dm.isDec tn.data.toList (u2 * d - u * d2)) := h5; have HB5 : Hid (Below w.heap.size w w5) := (HB3.out.trans ((below_drew _).mono HB3.out.size)).trans (hb5.mono HB3.out.size)
             have V0 : Hid (boxAt w5 _ _ _) := Y1.out.drew.on hb5; have V2 : Hid (boxAt w5 _ _ _) := Y2.out.drew.on hb5; have j00 := V0.out.cell 0 rfl; clear h5 hb5)
          | (go_at_call 26; refine (HA.out tn tz _ TN.out TZ.out).mono ?_; rintro e w6 ⟨rfl, hb6⟩; have HB6 : Hid (Below w.heap.size w w6) := HB5.out.trans (hb6.mono HB5.out.size)
             have U0 : Hid (boxAt w6 _ _ _) := V0.out.on hb6; have U2 : Hid (boxAt w6 _ _ _) := V2.out.on hb6; have i00 := U0.out.cell 0 rfl
             have q20 := U2.out.cell 0 rfl; have q21 := U2.out.cell 1 rfl; have q22 := U2.out.cell 2 rfl; have g20 := U2.out.frozen 0; have g21 := U2.out.frozen 1; have g22 := U2.out.frozen 2; clear hb6))
      all_goals
        have hz2 := U2.out.lt
        refine ⟨⟨_, rfl, rfl, rfl⟩, ⟨?_, ?_, ?_⟩, ?_⟩
        · go_simp
        · go_simp
        · go_simp
        · exact bel_set (bel_set (bel_set HB6.out (by show _ ≤ w.heap.size + 1 + 1; omega)) (by show _ ≤ w.heap.size + 1 + 1; omega)) (by show _ ≤ w.heap.size + 1 + 1; omega)
    · intro e a' w' hq
      cases e
      case normal =>
        obtain ⟨⟨us, rfl, hus4, hus5⟩, ⟨hv0, hv1, hv2⟩, hb⟩ := hq
        go_wp2
        simp only [bodyPost]
        refine ⟨trivial, _, ?_, rfl, hb⟩
        simp only [results, Tryd.results19]
        go_simp
      all_goals exact hq.elim

theorem l3Add_any (neg : Bool) (up dn : ByteArray) (neg2 : Bool) (up2 dn2 : ByteArray) (u d u2 d2 : Nat) (w : World) (h1 : Dm.isDec up.data.toList u) (h2 : Dm.isDec dn.data.toList d) (h3 : Dm.isDec up2.data.toList u2) (h4 : Dm.isDec dn2.data.toList d2)
    (e1 : fits u 7) (e2 : fits d 7) (e3 : fits u2 7) (e4 : fits d2 7) (hd0 : d ≠ 0) (hd2 : d2 ≠ 0) :
    Calls Tryd.prog 19 #[.agg #[.bool neg, .string up, .string dn], .agg #[.bool neg2, .string up2, .string dn2]] w fun e w' => e = .returned (AddRet neg u d neg2 u2 d2) ∧ Below w.heap.size w w' := by
  by_cases hn : neg2 = neg
  · subst hn
    exact l3Add_eq neg2 up dn up2 dn2 u d u2 d2 w h1 h2 h3 h4 e1 e2 e3 e4 hd0 hd2
  · have e : neg2 = !neg := by revert hn; cases neg <;> cases neg2 <;> decide
    subst e
    by_cases hlt : u * d2 < u2 * d
    · exact l3Add_lt neg up dn up2 dn2 u d u2 d2 w h1 h2 h3 h4 e1 e2 e3 e4 hd0 hd2 hlt
    · exact l3Add_ge neg up dn up2 dn2 u d u2 d2 w h1 h2 h3 h4 e1 e2 e3 e4 hd0 hd2 (Nat.le_of_not_lt hlt)

end Go.Proofs.YtbgbbhenakjbgahDoor
