/-
  The contract of the program's NumCmp.
-/
import Derived.Test.YtbgbbhenakjbgagImplCmp
namespace Go.Proofs.Ytbgbbhenakjbgag
set_option maxRecDepth 100000
set_option linter.unusedVariables false
set_option linter.unusedSimpArgs false
open Go.RowKit
attribute [local go_sem ↓] Go.wp_at_zero Go.wp_at_succ

/-- What the program's NumCmp tells of two numbers that are ok. -/
def cmpP (neg : Bool) (u d : Nat) (neg2 : Bool) (u2 d2 : Nat) : Int := signI (addB neg (u * d2) (!neg2) (u2 * d)) (addN neg (u * d2) (!neg2) (u2 * d))

set_option maxHeartbeats 1600000 in
theorem implCmp_no (neg : Bool) (up dn : ByteArray) (neg2 : Bool) (up2 dn2 : ByteArray) (w : World) (hu : up.size ≤ maxLen) (hd : dn.size ≤ maxLen) (hu2 : up2.size ≤ maxLen) (hd2 : dn2.size ≤ maxLen)
    (h : (okN neg up.data.toList dn.data.toList && okN neg2 up2.data.toList dn2.data.toList) = false) :
    Calls Try.prog 21 #[.agg #[.bool neg, .string up, .string dn], .agg #[.bool neg2, .string up2, .string dn2]] w fun e w' => e = .returned (.int .i64 0) ∧ Below w.heap.size w w' := by
  have hR : ∀ W : World, Calls Try.prog 44 #[.agg #[.bool neg, .string up, .string dn], .agg #[.bool neg2, .string up2, .string dn2]] W fun e w' => e = .returned (.tuple #[.agg #[.bool false, .slice none 0 0, .bool false, .slice none 0 0], .agg #[.bool false, .slice none 0 0, .bool false, .slice none 0 0], .bool false]) ∧ Below W.heap.size W w' := by
    intro W
    cases h1 : okN neg up.data.toList dn.data.toList
    · exact ratiosOf_no1 neg up dn neg2 up2 dn2 W hu hd hu2 hd2 h1
    · rw [h1, Bool.true_and] at h
      exact ratiosOf_no2 neg up dn neg2 up2 dn2 W hu hd hu2 hd2 h1 h
  have HR : Hid _ := hR
  clear hR h
  have hB : ∀ o, Below w.heap.size w (w.alloc o) := fun o => (Below.refl _ _).alloc (Nat.le_refl _) _
  go_enter Try.func21, Try.ntmps21
  go_wp2_with fail
  refine (HR.out _).mono ?_
  rintro e w3 ⟨rfl, hb3⟩
  have hb : Below w.heap.size w w3 := ((hB _).alloc (by show _ ≤ (w.heap.push _).size; simp) _).trans (hb3.mono (by simp; omega))
  have hs := hb.size
  go_wp2_with fail
  go_ret
  exact ⟨rfl, (hb.alloc hs _).alloc (by show _ ≤ (w3.heap.push _).size; simp; omega) _⟩

/-- Numbers of at most 60 digits, and their products. -/
theorem fits_mul {a b x y : Nat} (h : fits x a) (k : fits y b) : fits (x * y) (a + b) := by
  refine ⟨?_⟩
  rw [Nat.pow_add]
  have h1 := h.out
  have h2 := k.out
  rcases Nat.eq_zero_or_pos x with h0 | h0
  · rw [h0, Nat.zero_mul]; exact Nat.mul_pos (Nat.pow_pos (by decide)) (Nat.pow_pos (by decide))
  · exact Nat.lt_of_lt_of_le (Nat.mul_lt_mul_of_pos_left h2 h0) (Nat.mul_le_mul_right _ (Nat.le_of_lt h1))

theorem fits60d (l : List UInt8) (n : Nat) (h : Dm.isDec l n) (hl : l.length ≤ 60) : fits n 7 := by
  refine ⟨Nat.lt_of_lt_of_le (Dm.isDec_high _ _ h) ?_⟩
  rw [base_pow]
  exact Nat.pow_le_pow_right (by omega) (by omega)

set_option maxHeartbeats 1600000 in
theorem implCmp_yes (neg : Bool) (up dn : ByteArray) (neg2 : Bool) (up2 dn2 : ByteArray) (w : World) (hu : up.size ≤ maxLen) (hd : dn.size ≤ maxLen) (hu2 : up2.size ≤ maxLen) (hd2 : dn2.size ≤ maxLen)
    (h1 : okN neg up.data.toList dn.data.toList = true) (h2 : okN neg2 up2.data.toList dn2.data.toList = true) :
    Calls Try.prog 21 #[.agg #[.bool neg, .string up, .string dn], .agg #[.bool neg2, .string up2, .string dn2]] w fun e w' => e = .returned (.int .i64 (cmpP neg (Dm.val up.data.toList) (Dm.val dn.data.toList) neg2 (Dm.val up2.data.toList) (Dm.val dn2.data.toList))) ∧ Below w.heap.size w w' := by
  have HR : Hid _ := fun W : World => ratiosOf_yes neg up dn neg2 up2 dn2 W hu hd hu2 hd2 h1 h2
  obtain ⟨z1, z2, d1, d2, _⟩ := okN_facts _ _ _ h1
  obtain ⟨z3, z4, d3, d4, _⟩ := okN_facts _ _ _ h2
  have e1 := fits60d _ _ d1 z1
  have e2 := fits60d _ _ d2 z2
  have e3 := fits60d _ _ d3 z3
  have e4 := fits60d _ _ d4 z4
  clear z1 z2 z3 z4 d1 d2 d3 d4 h1 h2
  have HR2 : Hid _ := HR.out
  clear HR
  have f1 := e1.mono (Nat.le_refl _) (show 7 ≤ 10000 by omega)
  have f2 := e2.mono (Nat.le_refl _) (show 7 ≤ 10000 by omega)
  have f3 := e3.mono (Nat.le_refl _) (show 7 ≤ 10000 by omega)
  have f4 := e4.mono (Nat.le_refl _) (show 7 ≤ 10000 by omega)
  have f14 := (fits_mul e1 e4).mono (Nat.le_refl _) (show 7 + 7 ≤ 9999 by omega)
  have f32 := (fits_mul e3 e2).mono (Nat.le_refl _) (show 7 + 7 ≤ 9999 by omega)
  have hB : ∀ o, Below w.heap.size w (w.alloc o) := fun o => (Below.refl _ _).alloc (Nat.le_refl _) _
  go_enter Try.func21, Try.ntmps21
  go_wp2_with fail
  refine (HR2.out _).mono ?_
  rintro e w3 ⟨⟨a1, l1, c1, a2, l2, c2, a3, l3, c3, a4, l4, c4, rfl, n1, n2, n3, n4⟩, hb3⟩
  have hb : Below w.heap.size w w3 := ((hB _).alloc (by show _ ≤ (w.heap.push _).size; simp) _).trans (hb3.mono (by simp; omega))
  have HB3 : Hid (Below w.heap.size w w3) := hb
  clear hb3 HR2 hB hb
  go_wp2_with fail
  obtain ⟨W, hW, hBW, x0, x1⟩ := boxes2 w3 #[Value.bool neg, Value.slice a1 l1 c1, Value.bool false, Value.slice a2 l2 c2] #[Value.bool neg2, Value.slice a3 l3 c3, Value.bool false, Value.slice a4 l4 c4] 70 70
  rw [← hW]
  have HBW : Hid (Below w3.heap.size w3 W) := hBW
  have N1 : Hid (isN W (.slice a1 l1 c1) _) := isN_below n1.out hBW
  have N2 : Hid (isN W (.slice a2 l2 c2) _) := isN_below n2.out hBW
  have N3 : Hid (isN W (.slice a3 l3 c3) _) := isN_below n3.out hBW
  have N4 : Hid (isN W (.slice a4 l4 c4) _) := isN_below n4.out hBW
  have k00 := x0.cell 0 rfl
  have k01 := x0.cell 1 rfl
  have k02 := x0.cell 2 rfl
  have k03 := x0.cell 3 rfl
  have k10 := x1.cell 0 rfl
  have k11 := x1.cell 1 rfl
  have k12 := x1.cell 2 rfl
  have k13 := x1.cell 3 rfl
  have X0 : Hid (boxAt W _ _ _) := x0
  have X1 : Hid (boxAt W _ _ _) := x1
  clear hW hBW x0 x1 n1 n2 n3 n4
  refine Go.wp_mono (Q := fun e a' w' => match e with | .normal => (∃ us : Array Value, a' = { tmps := us, defers := [] } ∧ us[4]? = some (.int .i64 (cmpP neg (Dm.val up.data.toList) (Dm.val dn.data.toList) neg2 (Dm.val up2.data.toList) (Dm.val dn2.data.toList)))) ∧ Below w.heap.size w w' | _ => False) ?_ ?_
  · go_region_held3 (fun w' => ((w'.cell? ⟨w3.heap.size, 0, none⟩ = some (.bool neg) ∧ w'.cell? ⟨w3.heap.size, 1, none⟩ = some (.slice a1 l1 c1)) ∧ (w'.cell? ⟨w3.heap.size, 2, none⟩ = some (.bool false) ∧ w'.cell? ⟨w3.heap.size, 3, none⟩ = some (.slice a2 l2 c2))) ∧ ((w'.cell? ⟨w3.heap.size + 1, 0, none⟩ = some (.bool neg2) ∧ w'.cell? ⟨w3.heap.size + 1, 1, none⟩ = some (.slice a3 l3 c3)) ∧ (w'.cell? ⟨w3.heap.size + 1, 2, none⟩ = some (.bool false) ∧ w'.cell? ⟨w3.heap.size + 1, 3, none⟩ = some (.slice a4 l4 c4))))
      ((repeat' apply And.intro) <;> first | assumption | (go_keep; done))
      (first
        | (go_at_call 46; refine (ropp_any neg2 a3 l3 c3 false a4 l4 c4 _).mono ?_; rintro e w5 ⟨⟨cc, rfl, hcc⟩, hb5⟩; have HB5 : Hid (Below W.drew.heap.size W.drew w5) := hb5
           have M1 : Hid (isN w5 (.slice a1 l1 c1) _) := isN_below (isN_below N1.out (below_drew _)) hb5; have M2 : Hid (isN w5 (.slice a2 l2 c2) _) := isN_below (isN_below N2.out (below_drew _)) hb5; have M3 : Hid (isN w5 (.slice a3 l3 c3) _) := isN_below (isN_below N3.out (below_drew _)) hb5; have M4 : Hid (isN w5 (.slice a4 l4 c4) _) := isN_below (isN_below N4.out (below_drew _)) hb5
           have Y0 : Hid (boxAt w5 _ _ _) := X0.out.drew.on hb5; have Y1 : Hid (boxAt w5 _ _ _) := X1.out.drew.on hb5
           have j00 := Y0.out.cell 0 rfl; have j01 := Y0.out.cell 1 rfl; have j02 := Y0.out.cell 2 rfl; have j03 := Y0.out.cell 3 rfl; have j10 := Y1.out.cell 0 rfl; have j11 := Y1.out.cell 1 rfl; have j12 := Y1.out.cell 2 rfl; have j13 := Y1.out.cell 3 rfl; clear hb5)
        | (go_at_call 45; refine (sumAbove_any neg a1 l1 c1 false a2 l2 c2 cc a3 l3 c3 false a4 l4 c4 _ _ _ _ _ M1.out M2.out M3.out M4.out f1 f2 f3 f4 f14 f32).mono ?_; rintro e w6 ⟨⟨c5, ao5, len5, cap5, k5, rfl, hc5, hk5, h5⟩, hb6⟩; have HB6 : Hid (Below w5.heap.size w5 w6) := hb6; have H5 : Hid (isN w6 (.slice ao5 len5 cap5) k5) := h5
           have V0 : Hid (boxAt w6 _ _ _) := Y0.out.on hb6; have V1 : Hid (boxAt w6 _ _ _) := Y1.out.on hb6
           have i00 := V0.out.cell 0 rfl; have i01 := V0.out.cell 1 rfl; have i02 := V0.out.cell 2 rfl; have i03 := V0.out.cell 3 rfl; have i10 := V1.out.cell 0 rfl; have i11 := V1.out.cell 1 rfl; have i12 := V1.out.cell 2 rfl; have i13 := V1.out.cell 3 rfl; clear hb6 h5)
        | (go_at_call 47; refine (sign_any c5 ao5 len5 cap5 k5 _ H5.out).mono ?_; rintro e w7 ⟨rfl, hb7⟩; have HB7 : Hid (Below w6.heap.size w6 w7) := hb7
           have U0 : Hid (boxAt w7 _ _ _) := V0.out.on hb7; have U1 : Hid (boxAt w7 _ _ _) := V1.out.on hb7
           have o00 := U0.out.cell 0 rfl; have o01 := U0.out.cell 1 rfl; have o02 := U0.out.cell 2 rfl; have o03 := U0.out.cell 3 rfl; have o10 := U1.out.cell 0 rfl; have o11 := U1.out.cell 1 rfl; have o12 := U1.out.cell 2 rfl; have o13 := U1.out.cell 3 rfl; clear hb7))
    all_goals
      have s0 := HB3.out.size
      have s1 := HBW.out.size
      have s2 := HB5.out.size
      have s2' : W.heap.size ≤ w5.heap.size := s2
      have s3 := HB6.out.size
      refine ⟨⟨_, rfl, ?_⟩, ?_⟩
      · have e1 : signI c5 k5 = cmpP neg (Dm.val up.data.toList) (Dm.val dn.data.toList) neg2 (Dm.val up2.data.toList) (Dm.val dn2.data.toList) := by
          rw [hc5.out, hk5.out, hcc.out, cmpP]
          cases neg <;> cases neg2 <;> rfl
        rw [← e1]; rfl
      · exact HB3.out.trans ((HBW.out.mono s0).trans ((below_drew W).mono (Nat.le_trans s0 s1) |>.trans ((HB5.out.mono (Nat.le_trans s0 s1)).trans ((HB6.out.mono (by omega)).trans (HB7.out.mono (by omega))))))
  · intro e a' w' hq
    cases e
    case normal =>
      obtain ⟨⟨us, rfl, hus⟩, hb⟩ := hq
      go_wp2
      go_ret
      refine ⟨?_, hb⟩
      show Ending.returned (us.getD 4 undef) = _
      rw [Array.getD_eq_getD_getElem?, hus]
      rfl
    all_goals exact hq.elim

end Go.Proofs.Ytbgbbhenakjbgag
