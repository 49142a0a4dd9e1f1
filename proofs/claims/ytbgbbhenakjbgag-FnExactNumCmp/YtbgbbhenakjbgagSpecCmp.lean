/-
  The contract of the specification's NumCmp.
-/
import Derived.Test.YtbgbbhenakjbgagSpec5
import Derived.Test.YtbgbbhenakjbgagSpecOk
import Derived.Test.YtbgbbhenakjbgagImplCmp2
namespace Go.Proofs.Ytbgbbhenakjbgag
set_option maxRecDepth 100000
set_option linter.unusedVariables false
set_option linter.unusedSimpArgs false
open Go.RowKit
attribute [local go_sem ↓] Go.wp_at_zero Go.wp_at_succ

/-- What the specification's NumCmp tells of two numbers that are ok. -/
def cmpS (neg : Bool) (u d : Nat) (neg2 : Bool) (u2 d2 : Nat) : Int :=
  if neg != neg2 then (if neg then -1 else 1) else if neg then -(cmpI (u * d2) (u2 * d)) else cmpI (u * d2) (u2 * d)

theorem cmpP_eq (neg : Bool) (u d : Nat) (neg2 : Bool) (u2 d2 : Nat) (h1 : neg = true → u ≠ 0) (h2 : neg2 = true → u2 ≠ 0) (hd : d ≠ 0) (hd2 : d2 ≠ 0) : cmpP neg u d neg2 u2 d2 = cmpS neg u d neg2 u2 d2 := by
  have p1 : u ≠ 0 → 0 < u * d2 := fun h => Nat.mul_pos (by omega) (by omega)
  have p2 : u2 ≠ 0 → 0 < u2 * d := fun h => Nat.mul_pos (by omega) (by omega)
  unfold cmpP cmpS
  generalize u * d2 = A at *
  generalize u2 * d = B at *
  cases neg <;> cases neg2 <;> simp [addB, addN, signI, cmpI] at * <;> (repeat' split) <;> simp_all <;> omega

set_option maxHeartbeats 1600000 in
theorem l3Cmp_ne (neg : Bool) (up dn : ByteArray) (neg2 : Bool) (up2 dn2 : ByteArray) (w : World) (hne : (neg != neg2) = true) :
    Calls Try.prog 43 #[.agg #[.bool neg, .string up, .string dn], .agg #[.bool neg2, .string up2, .string dn2]] w fun e w' => e = .returned (.int .i64 (if neg then -1 else 1)) ∧ Below w.heap.size w w' := by
  have hB : ∀ o, Below w.heap.size w (w.alloc o) := fun o => (Below.refl _ _).alloc (Nat.le_refl _) _
  cases neg <;> cases neg2
  · exact absurd hne (by decide)
  · clear hne
    go_enter Try.func43, Try.ntmps43
    go_wp2
    go_ret
    exact ⟨rfl, (hB _).alloc (by show _ ≤ (w.heap.push _).size; simp) _⟩
  · clear hne
    go_enter Try.func43, Try.ntmps43
    go_wp2
    go_ret
    exact ⟨rfl, (hB _).alloc (by show _ ≤ (w.heap.push _).size; simp) _⟩
  · exact absurd hne (by decide)

set_option maxHeartbeats 1600000 in
theorem l3Cmp_eq (neg : Bool) (up dn : ByteArray) (up2 dn2 : ByteArray) (u d u2 d2 : Nat) (w : World) (h1 : Dm.isDec up.data.toList u) (h2 : Dm.isDec dn.data.toList d) (h3 : Dm.isDec up2.data.toList u2) (h4 : Dm.isDec dn2.data.toList d2)
    (s1 : up.size ≤ 50000) (s2 : dn.size ≤ 50000) (s3 : up2.size ≤ 50000) (s4 : dn2.size ≤ 50000) :
    Calls Try.prog 43 #[.agg #[.bool neg, .string up, .string dn], .agg #[.bool neg, .string up2, .string dn2]] w fun e w' => e = .returned (.int .i64 (if neg then -(cmpI (u * d2) (u2 * d)) else cmpI (u * d2) (u2 * d))) ∧ Below w.heap.size w w' := by
  have H1 : Hid (Dm.isDec up.data.toList u) := h1
  have H2 : Hid (Dm.isDec dn.data.toList d) := h2
  have H3 : Hid (Dm.isDec up2.data.toList u2) := h3
  have H4 : Hid (Dm.isDec dn2.data.toList d2) := h4
  clear h1 h2 h3 h4
  cases neg
  · go_enter Try.func43, Try.ntmps43
    go_wp2_with fail
    obtain ⟨W, hW, hBW, x0, x1⟩ := boxes2 w #[Value.bool false, Value.string up, Value.string dn] #[Value.bool false, Value.string up2, Value.string dn2] 34 34
    rw [← hW]
    have HBW : Hid (Below w.heap.size w W) := hBW
    have k00 := x0.cell 0 rfl
    have k01 := x0.cell 1 rfl
    have k02 := x0.cell 2 rfl
    have k11 := x1.cell 1 rfl
    have k12 := x1.cell 2 rfl
    have X0 : Hid (boxAt W _ _ _) := x0
    have X1 : Hid (boxAt W _ _ _) := x1
    clear hW hBW x0 x1
    go_region_held3 (fun w' => (w'.cell? ⟨w.heap.size, 0, none⟩ = some (.bool false) ∧ (w'.cell? ⟨w.heap.size, 1, none⟩ = some (.string up) ∧ w'.cell? ⟨w.heap.size, 2, none⟩ = some (.string dn))) ∧ (w'.cell? ⟨w.heap.size + 1, 1, none⟩ = some (.string up2) ∧ w'.cell? ⟨w.heap.size + 1, 2, none⟩ = some (.string dn2)))
      ((repeat' apply And.intro) <;> first | assumption | (go_keep; done))
      (first
        | (go_at_call_of 76 (Value.string up); refine (l1Mul_any up dn2 u d2 _ s1 s4 H1.out H4.out).mono ?_; rintro e w5 ⟨⟨t1, rfl, h1⟩, hb5⟩; have T1 : Hid (Dm.isDec t1.data.toList (u * d2)) := h1; have HB5 : Hid (Below W.drew.heap.size W.drew w5) := hb5
           have Y0 : Hid (boxAt w5 _ _ _) := X0.out.drew.on hb5; have Y1 : Hid (boxAt w5 _ _ _) := X1.out.drew.on hb5
           have j00 := Y0.out.cell 0 rfl; have j01 := Y0.out.cell 1 rfl; have j02 := Y0.out.cell 2 rfl; have j11 := Y1.out.cell 1 rfl; have j12 := Y1.out.cell 2 rfl; clear h1 hb5)
        | (go_at_call_of 76 (Value.string up2); refine (l1Mul_any up2 dn u2 d _ s3 s2 H3.out H2.out).mono ?_; rintro e w6 ⟨⟨t2, rfl, h2⟩, hb6⟩; have T2 : Hid (Dm.isDec t2.data.toList (u2 * d)) := h2; have HB6 : Hid (Below w5.heap.size w5 w6) := hb6
           have V0 : Hid (boxAt w6 _ _ _) := Y0.out.on hb6; have V1 : Hid (boxAt w6 _ _ _) := Y1.out.on hb6
           have i00 := V0.out.cell 0 rfl; have i01 := V0.out.cell 1 rfl; have i02 := V0.out.cell 2 rfl; have i11 := V1.out.cell 1 rfl; have i12 := V1.out.cell 2 rfl; clear h2 hb6)
        | (go_at_call 75; refine (l1Cmp_ex t1 t2 (u * d2) (u2 * d) _ T1.out T2.out).mono ?_; rintro e w7 ⟨⟨c, rfl, hc, hc1, hc2⟩, rfl⟩))
    all_goals
      have s0 := HBW.out.size
      have s2 : W.heap.size ≤ w5.heap.size := HB5.out.size
      have HF : Hid (Below w.heap.size w w7) := HBW.out.trans (((below_drew W).mono s0).trans ((HB5.out.mono s0).trans (HB6.out.mono (by omega))))
      clear k00 k01 k02 k11 k12 j00 j01 j02 j11 j12
      go_wp2
      go_ret
      exact ⟨ret_int (by rw [hc.out]), HF.out⟩
  · go_enter Try.func43, Try.ntmps43
    go_wp2_with fail
    obtain ⟨W, hW, hBW, x0, x1⟩ := boxes2 w #[Value.bool true, Value.string up, Value.string dn] #[Value.bool true, Value.string up2, Value.string dn2] 34 34
    rw [← hW]
    have HBW : Hid (Below w.heap.size w W) := hBW
    have k00 := x0.cell 0 rfl
    have k01 := x0.cell 1 rfl
    have k02 := x0.cell 2 rfl
    have k11 := x1.cell 1 rfl
    have k12 := x1.cell 2 rfl
    have X0 : Hid (boxAt W _ _ _) := x0
    have X1 : Hid (boxAt W _ _ _) := x1
    clear hW hBW x0 x1
    go_region_held3 (fun w' => (w'.cell? ⟨w.heap.size, 0, none⟩ = some (.bool true) ∧ (w'.cell? ⟨w.heap.size, 1, none⟩ = some (.string up) ∧ w'.cell? ⟨w.heap.size, 2, none⟩ = some (.string dn))) ∧ (w'.cell? ⟨w.heap.size + 1, 1, none⟩ = some (.string up2) ∧ w'.cell? ⟨w.heap.size + 1, 2, none⟩ = some (.string dn2)))
      ((repeat' apply And.intro) <;> first | assumption | (go_keep; done))
      (first
        | (go_at_call_of 76 (Value.string up); refine (l1Mul_any up dn2 u d2 _ s1 s4 H1.out H4.out).mono ?_; rintro e w5 ⟨⟨t1, rfl, h1⟩, hb5⟩; have T1 : Hid (Dm.isDec t1.data.toList (u * d2)) := h1; have HB5 : Hid (Below W.drew.heap.size W.drew w5) := hb5
           have Y0 : Hid (boxAt w5 _ _ _) := X0.out.drew.on hb5; have Y1 : Hid (boxAt w5 _ _ _) := X1.out.drew.on hb5
           have j00 := Y0.out.cell 0 rfl; have j01 := Y0.out.cell 1 rfl; have j02 := Y0.out.cell 2 rfl; have j11 := Y1.out.cell 1 rfl; have j12 := Y1.out.cell 2 rfl; clear h1 hb5)
        | (go_at_call_of 76 (Value.string up2); refine (l1Mul_any up2 dn u2 d _ s3 s2 H3.out H2.out).mono ?_; rintro e w6 ⟨⟨t2, rfl, h2⟩, hb6⟩; have T2 : Hid (Dm.isDec t2.data.toList (u2 * d)) := h2; have HB6 : Hid (Below w5.heap.size w5 w6) := hb6
           have V0 : Hid (boxAt w6 _ _ _) := Y0.out.on hb6; have V1 : Hid (boxAt w6 _ _ _) := Y1.out.on hb6
           have i00 := V0.out.cell 0 rfl; have i01 := V0.out.cell 1 rfl; have i02 := V0.out.cell 2 rfl; have i11 := V1.out.cell 1 rfl; have i12 := V1.out.cell 2 rfl; clear h2 hb6)
        | (go_at_call 75; refine (l1Cmp_ex t1 t2 (u * d2) (u2 * d) _ T1.out T2.out).mono ?_; rintro e w7 ⟨⟨c, rfl, hc, hc1, hc2⟩, rfl⟩))
    all_goals
      have s0 := HBW.out.size
      have s2 : W.heap.size ≤ w5.heap.size := HB5.out.size
      have HF : Hid (Below w.heap.size w w7) := HBW.out.trans (((below_drew W).mono s0).trans ((HB5.out.mono s0).trans (HB6.out.mono (by omega))))
      clear k00 k01 k02 k11 k12 j00 j01 j02 j11 j12
      go_wp2
      go_ret
      exact ⟨ret_int (by rw [hc.out]), HF.out⟩

theorem specNumOk_b (neg : Bool) (up dn : ByteArray) (w : World) (b : Bool) (hu : up.size ≤ maxLen) (hd : dn.size ≤ maxLen) (h : okN neg up.data.toList dn.data.toList = b) :
    Calls Try.prog 36 #[.agg #[.bool neg, .string up, .string dn]] w fun e w' => e = .returned (.bool b) ∧ Below w.heap.size w w' := by
  rw [← h]; exact specNumOk_any neg up dn w hu hd

/-- What NumCmp tells. -/
def cmpN (neg : Bool) (up dn : List UInt8) (neg2 : Bool) (up2 dn2 : List UInt8) : Int :=
  if okN neg up dn && okN neg2 up2 dn2 then cmpS neg (Dm.val up) (Dm.val dn) neg2 (Dm.val up2) (Dm.val dn2) else 0

set_option maxHeartbeats 1600000 in
theorem specCmp_any (neg : Bool) (up dn : ByteArray) (neg2 : Bool) (up2 dn2 : ByteArray) (w : World) (hu : up.size ≤ maxLen) (hd : dn.size ≤ maxLen) (hu2 : up2.size ≤ maxLen) (hd2 : dn2.size ≤ maxLen) :
    Calls Try.prog 20 #[.agg #[.bool neg, .string up, .string dn], .agg #[.bool neg2, .string up2, .string dn2]] w fun e w' => e = .returned (.int .i64 (cmpN neg up.data.toList dn.data.toList neg2 up2.data.toList dn2.data.toList)) ∧ Below w.heap.size w w' := by
  cases h1 : okN neg up.data.toList dn.data.toList
  · have hv : Hid (cmpN neg up.data.toList dn.data.toList neg2 up2.data.toList dn2.data.toList = 0) := by show _ = _; rw [cmpN, h1]; rfl
    have H1 : Hid _ := h1
    clear h1
    go_enter Try.func20, Try.ntmps20
    go_wp2_with fail
    obtain ⟨W, hW, hBW, x0, x1⟩ := boxes2 w #[Value.bool neg, Value.string up, Value.string dn] #[Value.bool neg2, Value.string up2, Value.string dn2] 34 34
    rw [← hW]
    have HBW : Hid (Below w.heap.size w W) := hBW
    clear hW hBW x0 x1
    refine (specNumOk_b neg up dn _ _ hu hd H1.out).mono ?_
    rintro e w3 ⟨rfl, hb3⟩
    have HB3 : Hid (Below w.heap.size w w3) := HBW.out.trans (hb3.mono HBW.out.size)
    clear hb3
    go_wp2_with fail
    go_ret
    exact ⟨ret_int hv.out.symm, HB3.out⟩
  · cases h2 : okN neg2 up2.data.toList dn2.data.toList
    · have hv : Hid (cmpN neg up.data.toList dn.data.toList neg2 up2.data.toList dn2.data.toList = 0) := by show _ = _; rw [cmpN, h1, h2]; rfl
      have H1 : Hid _ := h1
      have H2 : Hid _ := h2
      clear h1 h2
      go_enter Try.func20, Try.ntmps20
      go_wp2_with fail
      obtain ⟨W, hW, hBW, x0, x1⟩ := boxes2 w #[Value.bool neg, Value.string up, Value.string dn] #[Value.bool neg2, Value.string up2, Value.string dn2] 34 34
      rw [← hW]
      have HBW : Hid (Below w.heap.size w W) := hBW
      have X1 : Hid (boxAt W _ _ _) := x1
      clear hW hBW x0 x1
      refine (specNumOk_b neg up dn _ _ hu hd H1.out).mono ?_
      rintro e w3 ⟨rfl, hb3⟩
      have HB3 : Hid (Below w.heap.size w w3) := HBW.out.trans (hb3.mono HBW.out.size)
      have Y1 : Hid (boxAt w3 _ _ _) := X1.out.on hb3
      clear hb3
      have k10 := Y1.out.cell 0 rfl
      have k11 := Y1.out.cell 1 rfl
      have k12 := Y1.out.cell 2 rfl
      go_wp2_with fail
      refine (specNumOk_b neg2 up2 dn2 _ _ hu2 hd2 H2.out).mono ?_
      rintro e w4 ⟨rfl, hb4⟩
      have HB4 : Hid (Below w.heap.size w w4) := HB3.out.trans (hb4.mono HB3.out.size)
      clear hb4 k10 k11 k12
      go_wp2_with fail
      go_ret
      exact ⟨ret_int hv.out.symm, HB4.out⟩
    · have hv : Hid (cmpN neg up.data.toList dn.data.toList neg2 up2.data.toList dn2.data.toList = cmpS neg (Dm.val up.data.toList) (Dm.val dn.data.toList) neg2 (Dm.val up2.data.toList) (Dm.val dn2.data.toList)) := by show _ = _; rw [cmpN, h1, h2]; rfl
      obtain ⟨z1, z2, d1, d2, _⟩ := okN_facts _ _ _ h1
      obtain ⟨z3, z4, d3, d4, _⟩ := okN_facts _ _ _ h2
      have s1 : up.size ≤ 50000 := by have e : up.data.toList.length = up.size := Array.length_toList; omega
      have s2 : dn.size ≤ 50000 := by have e : dn.data.toList.length = dn.size := Array.length_toList; omega
      have s3 : up2.size ≤ 50000 := by have e : up2.data.toList.length = up2.size := Array.length_toList; omega
      have s4 : dn2.size ≤ 50000 := by have e : dn2.data.toList.length = dn2.size := Array.length_toList; omega
      have HL : Hid (∀ W : World, Calls Try.prog 43 #[.agg #[.bool neg, .string up, .string dn], .agg #[.bool neg2, .string up2, .string dn2]] W fun e w' => e = .returned (.int .i64 (cmpS neg (Dm.val up.data.toList) (Dm.val dn.data.toList) neg2 (Dm.val up2.data.toList) (Dm.val dn2.data.toList))) ∧ Below W.heap.size W w') := by
        intro W
        by_cases hne : (neg != neg2) = true
        · rw [cmpS, if_pos hne]
          exact l3Cmp_ne neg up dn neg2 up2 dn2 W hne
        · rw [cmpS, if_neg hne]
          have e : neg2 = neg := by revert hne; cases neg <;> cases neg2 <;> decide
          subst e
          exact l3Cmp_eq neg2 up dn up2 dn2 _ _ _ _ W d1 d2 d3 d4 s1 s2 s3 s4
      have H1 : Hid _ := h1
      have H2 : Hid _ := h2
      clear h1 h2 z1 z2 z3 z4 d1 d2 d3 d4
      go_enter Try.func20, Try.ntmps20
      go_wp2_with fail
      obtain ⟨W, hW, hBW, x0, x1⟩ := boxes2 w #[Value.bool neg, Value.string up, Value.string dn] #[Value.bool neg2, Value.string up2, Value.string dn2] 34 34
      rw [← hW]
      have HBW : Hid (Below w.heap.size w W) := hBW
      have X0 : Hid (boxAt W _ _ _) := x0
      have X1 : Hid (boxAt W _ _ _) := x1
      clear hW hBW x0 x1
      refine (specNumOk_b neg up dn _ _ hu hd H1.out).mono ?_
      rintro e w3 ⟨rfl, hb3⟩
      have HB3 : Hid (Below w.heap.size w w3) := HBW.out.trans (hb3.mono HBW.out.size)
      have Y0 : Hid (boxAt w3 _ _ _) := X0.out.on hb3
      have Y1 : Hid (boxAt w3 _ _ _) := X1.out.on hb3
      clear hb3
      have k10 := Y1.out.cell 0 rfl
      have k11 := Y1.out.cell 1 rfl
      have k12 := Y1.out.cell 2 rfl
      go_wp2_with fail
      refine (specNumOk_b neg2 up2 dn2 _ _ hu2 hd2 H2.out).mono ?_
      rintro e w4 ⟨rfl, hb4⟩
      have HB4 : Hid (Below w.heap.size w w4) := HB3.out.trans (hb4.mono HB3.out.size)
      have V0 : Hid (boxAt w4 _ _ _) := Y0.out.on hb4
      have V1 : Hid (boxAt w4 _ _ _) := Y1.out.on hb4
      clear hb4 k10 k11 k12
      have k00 := V0.out.cell 0 rfl
      have k01 := V0.out.cell 1 rfl
      have k02 := V0.out.cell 2 rfl
      have k10 := V1.out.cell 0 rfl
      have k11 := V1.out.cell 1 rfl
      have k12 := V1.out.cell 2 rfl
      go_wp2_with fail
      refine (HL.out _).mono ?_
      rintro e w5 ⟨rfl, hb5⟩
      have HB5 : Hid (Below w.heap.size w w5) := HB4.out.trans (hb5.mono HB4.out.size)
      clear hb5
      go_wp2_with fail
      go_ret
      exact ⟨ret_int hv.out.symm, HB5.out⟩

theorem isDec_ne0 {l : List UInt8} {n : Nat} (h : Dm.isDec l n) (hz : l ≠ [48]) : n ≠ 0 := by
  intro e
  subst e
  refine hz (Dm.isDec_unique _ _ 0 h ⟨by simp, ?_, rfl, by simp⟩)
  intro c hc; simp at hc; subst hc; exact ⟨by decide, by decide⟩

theorem implCmp_any (neg : Bool) (up dn : ByteArray) (neg2 : Bool) (up2 dn2 : ByteArray) (w : World) (hu : up.size ≤ maxLen) (hd : dn.size ≤ maxLen) (hu2 : up2.size ≤ maxLen) (hd2 : dn2.size ≤ maxLen) :
    Calls Try.prog 21 #[.agg #[.bool neg, .string up, .string dn], .agg #[.bool neg2, .string up2, .string dn2]] w fun e w' => e = .returned (.int .i64 (cmpN neg up.data.toList dn.data.toList neg2 up2.data.toList dn2.data.toList)) ∧ Below w.heap.size w w' := by
  cases h : okN neg up.data.toList dn.data.toList && okN neg2 up2.data.toList dn2.data.toList
  · rw [cmpN, h]
    exact implCmp_no neg up dn neg2 up2 dn2 w hu hd hu2 hd2 h
  · rw [cmpN, h]
    rw [Bool.and_eq_true] at h
    obtain ⟨_, _, d1, d2, n2, n1, _⟩ := okN_facts _ _ _ h.1
    obtain ⟨_, _, d3, d4, n4, n3, _⟩ := okN_facts _ _ _ h.2
    rw [if_pos rfl, ← cmpP_eq _ _ _ _ _ _ (fun e => isDec_ne0 d1 (n1 e)) (fun e => isDec_ne0 d3 (n3 e)) (isDec_ne0 d2 n2) (isDec_ne0 d4 n4)]
    exact implCmp_yes neg up dn neg2 up2 dn2 w hu hd hu2 hd2 h.1 h.2

end Go.Proofs.Ytbgbbhenakjbgag
