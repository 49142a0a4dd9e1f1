/-
  The specification's NumPrint.
-/
import Derived.Test.YtbgbbhenakjbgagPr2
import Derived.Test.YtbgbbhenakjbgagSpecOk
import Derived.Test.YtbgbbhenakjbgagSigned
namespace Go.Proofs.Ytbgbbhenakjbgag
set_option maxRecDepth 100000
set_option linter.unusedVariables false
set_option linter.unusedSimpArgs false
open Go.RowKit
attribute [local go_sem ↓] Go.wp_at_zero Go.wp_at_succ

/-- A number of a sign, above and below, written in a radix. -/
def prn (neg : Bool) (u d r : Nat) : List UInt8 := (if neg then [45] else []) ++ Rm.rad r u ++ (if d = 1 then [] else [47] ++ Rm.rad r d)
def prnN (neg : Bool) (up dn : List UInt8) (r : Int) : List UInt8 := if okN neg up dn && rx r then prn neg (Dm.val up) (Dm.val dn) r.toNat else []

theorem specNumOk_p (neg : Bool) (up dn : ByteArray) (w : World) (b : Bool) (hu : up.size ≤ maxLen) (hd : dn.size ≤ maxLen) (h : okN neg up.data.toList dn.data.toList = b) :
    Calls Try.prog 36 #[.agg #[.bool neg, .string up, .string dn]] w fun e w' => e = .returned (.bool b) ∧ Below w.heap.size w w' := by
  rw [← h]; exact specNumOk_any neg up dn w hu hd

theorem l2Radix_b (r : Int) (w : World) (b : Bool) (h : rx r = b) : Calls Try.prog 37 #[.int .i64 r] w fun e w' => e = .returned (.bool b) ∧ w' = w := by
  rw [← h]; exact l2Radix_any r w

theorem okN_parts (neg : Bool) (up dn : List UInt8) (h : okN neg up dn = true) : up.length ≤ 60 ∧ dn.length ≤ 60 ∧ Dm.isDec up (Dm.val up) ∧ Dm.isDec dn (Dm.val dn) := by
  unfold okN at h
  simp only [Bool.and_eq_true, decide_eq_true_eq] at h
  obtain ⟨⟨⟨⟨⟨⟨h1, h2⟩, h3⟩, h4⟩, _⟩, _⟩, _⟩ := h
  exact ⟨h1, h2, (okB_iff _).1 h3, (okB_iff _).1 h4⟩

theorem rad_short (l : List UInt8) (n r : Nat) (hl : l.length ≤ 60) (h : Dm.isDec l n) (hr : 2 ≤ r) : (Rm.rad r n).length ≤ 241 := by
  have h1 := Dm.isDec_high _ _ h
  have h2 : 10 ^ l.length ≤ 2 ^ (4 * l.length) := by
    rw [Nat.pow_mul]
    exact Nat.pow_le_pow_left (by omega) _
  have h3 := Rm.rad_len r n (4 * l.length) hr (by omega)
  omega

theorem rx_nat (r : Int) (h : rx r = true) : ∃ k : Nat, r = k ∧ 2 ≤ k ∧ k ≤ 16 := by
  unfold rx at h
  simp only [Bool.or_eq_true, beq_iff_eq] at h
  exact ⟨r.toNat, by omega, by omega, by omega⟩

set_option maxHeartbeats 1600000 in
theorem specPrint_yes (neg : Bool) (up dn : ByteArray) (k : Nat) (w : World) (hu : up.size ≤ maxLen) (hd : dn.size ≤ maxLen) (h1 : okN neg up.data.toList dn.data.toList = true) (h2 : rx k = true) (hk : 2 ≤ k) :
    Calls Try.prog 17 #[.agg #[.bool neg, .string up, .string dn], .int .i64 k] w fun e w' => (∃ t : ByteArray, e = .returned (.string t) ∧ t.data.toList = prn neg (Dm.val up.data.toList) (Dm.val dn.data.toList) k) ∧ Below w.heap.size w w' := by
  obtain ⟨z1, z2, d1, d2⟩ := okN_parts _ _ _ h1
  have l1 := rad_short _ _ k z1 d1 hk
  have l2 := rad_short _ _ k z2 d2 hk
  have s1 : up.size ≤ 60 := by have e : up.data.toList.length = up.size := Array.length_toList; omega
  have s2 : dn.size ≤ 60 := by have e : dn.data.toList.length = dn.size := Array.length_toList; omega
  have hone := isDec_one dn _ d2
  have H1 : Hid _ := h1
  have H2 : Hid (rx k = true) := h2
  generalize Dm.val up.data.toList = u at *
  generalize Dm.val dn.data.toList = d at *
  have D1 : Hid (Dm.isDec up.data.toList u) := d1
  have D2 : Hid (Dm.isDec dn.data.toList d) := d2
  have L1 : Hid ((Rm.rad k u).length ≤ 241) := l1
  have L2 : Hid ((Rm.rad k d).length ≤ 241) := l2
  have x0 := boxAt_new w #[Value.bool neg, Value.string up, Value.string dn] 34
  have hB0 : Below w.heap.size w (w.alloc (.cells #[Value.bool neg, Value.string up, Value.string dn] 34)) := (Below.refl _ _).alloc (Nat.le_refl _) _
  have X0 : Hid (boxAt _ _ _ _) := x0
  have HB0 : Hid _ := hB0
  clear z1 z2 d1 d2 l1 l2 h1 h2 x0 hB0
  by_cases hd1 : d = 1
  · have c1 : (dn.toList == [49]) = true := by rw [hone, hd1]; rfl
    clear hone
    cases neg
    all_goals
      have HP : Hid (∀ t : ByteArray, t.data.toList = Rm.rad k u → (⟨#[45]⟩ ++ t : ByteArray).data.toList = prn true u d k ∧ t.data.toList = prn false u d k) := by
        intro t ht
        unfold prn
        rw [if_pos hd1]
        refine ⟨?_, ?_⟩
        · simp [ht]
        · simp [ht]
      clear hd1
      go_enter Try.func17, Try.ntmps17
      go_wp2_with fail
      refine (specNumOk_p _ up dn _ _ hu hd H1.out).mono ?_
      rintro e w1 ⟨rfl, hb1⟩
      have HB1 : Hid (Below w.heap.size w w1) := HB0.out.trans (hb1.mono HB0.out.size)
      have X1 : Hid (boxAt w1 _ _ _) := X0.out.on hb1
      clear hb1 X0 HB0 H1
      go_wp2_with fail
      refine (l2Radix_b k _ _ H2.out).mono ?_
      rintro e w1 ⟨rfl, rfl⟩
      have k1 := X1.out.cell 1 rfl
      go_wp2_with fail
      refine (l2Out_any up u k _ (by omega) D1.out H2.out).mono ?_
      rintro e w2 ⟨⟨t, rfl, ht⟩, hb2⟩
      have HB2 : Hid (Below w.heap.size w w2) := HB1.out.trans (hb2.mono HB1.out.size)
      have X2 : Hid (boxAt w2 _ _ _) := X1.out.on hb2
      have hts : t.size ≤ 241 := by have e1 : t.data.toList.length = t.size := Array.length_toList; rw [← e1, ht]; exact L1.out
      have HT : Hid (t.data.toList = Rm.rad k u) := ht
      clear hb2 ht k1 X1 HB1
      have k0 := X2.out.cell 0 rfl
      have k2 := X2.out.cell 2 rfl
      go_wp2
      go_ret
      first
        | exact ⟨⟨t, rfl, (HP.out t HT.out).2⟩, HB2.out⟩
        | exact ⟨⟨_, rfl, (HP.out t HT.out).1⟩, HB2.out⟩
  · have c1 : (dn.toList == [49]) = false := by rw [hone]; simpa using hd1
    clear hone
    cases neg
    all_goals
      have HP : Hid (∀ t t2 : ByteArray, t.data.toList = Rm.rad k u → t2.data.toList = Rm.rad k d → (⟨#[45]⟩ ++ t ++ ⟨#[47]⟩ ++ t2 : ByteArray).data.toList = prn true u d k ∧ (t ++ ⟨#[47]⟩ ++ t2 : ByteArray).data.toList = prn false u d k) := by
        intro t t2 ht ht2
        unfold prn
        rw [if_neg hd1]
        refine ⟨?_, ?_⟩
        · simp [ht, ht2]
        · simp [ht, ht2]
      clear hd1
      go_enter Try.func17, Try.ntmps17
      go_wp2_with fail
      refine (specNumOk_p _ up dn _ _ hu hd H1.out).mono ?_
      rintro e w1 ⟨rfl, hb1⟩
      have HB1 : Hid (Below w.heap.size w w1) := HB0.out.trans (hb1.mono HB0.out.size)
      have X1 : Hid (boxAt w1 _ _ _) := X0.out.on hb1
      clear hb1 X0 HB0 H1
      go_wp2_with fail
      refine (l2Radix_b k _ _ H2.out).mono ?_
      rintro e w1 ⟨rfl, rfl⟩
      have k1 := X1.out.cell 1 rfl
      go_wp2_with fail
      refine (l2Out_any up u k _ (by omega) D1.out H2.out).mono ?_
      rintro e w2 ⟨⟨t, rfl, ht⟩, hb2⟩
      have HB2 : Hid (Below w.heap.size w w2) := HB1.out.trans (hb2.mono HB1.out.size)
      have X2 : Hid (boxAt w2 _ _ _) := X1.out.on hb2
      have hts : t.size ≤ 241 := by have e1 : t.data.toList.length = t.size := Array.length_toList; rw [← e1, ht]; exact L1.out
      have HT : Hid (t.data.toList = Rm.rad k u) := ht
      clear hb2 ht k1 X1 HB1
      have k0 := X2.out.cell 0 rfl
      have k2 := X2.out.cell 2 rfl
      go_wp2_with fail
      refine (l2Out_any dn d k _ (by omega) D2.out H2.out).mono ?_
      rintro e w3 ⟨⟨t2, rfl, ht2⟩, hb3⟩
      have HB3 : Hid (Below w.heap.size w w3) := HB2.out.trans (hb3.mono HB2.out.size)
      have hts2 : t2.size ≤ 241 := by have e1 : t2.data.toList.length = t2.size := Array.length_toList; rw [← e1, ht2]; exact L2.out
      have HT2 : Hid (t2.data.toList = Rm.rad k d) := ht2
      clear hb3 ht2 X2 HB2 k0 k2
      go_wp2
      go_ret
      first
        | exact ⟨⟨_, rfl, (HP.out t t2 HT.out HT2.out).2⟩, HB3.out⟩
        | exact ⟨⟨_, rfl, (HP.out t t2 HT.out HT2.out).1⟩, HB3.out⟩

end Go.Proofs.Ytbgbbhenakjbgag
