/-
  The program's NumPrint, and the specification's: one answer.
-/
import Derived.Test.YtbgbbhenakjbgagPr5
import Derived.Test.YtbgbbhenakjbgagImplOk
namespace Go.Proofs.Ytbgbbhenakjbgag
set_option maxRecDepth 100000
set_option linter.unusedVariables false
set_option linter.unusedSimpArgs false
open Go.RowKit
attribute [local go_sem ↓] Go.wp_at_zero Go.wp_at_succ

theorem rad_zero (k : Nat) : Rm.rad k 0 = [48] := rfl

set_option maxHeartbeats 1600000 in
theorem write_any (k : Nat) (ao : Option Addr) (len cap n : Nat) (w : World) (hk : 2 ≤ k ∧ k ≤ 16) (hn : isN w (.slice ao len cap) n) (hL : fits n 10000) (hlen : (Rm.rad k n).length ≤ 1000000) :
    Calls Try.prog 41 #[.int .i64 k, .slice ao len cap] w fun e w' => (∃ t : ByteArray, e = .returned (.string t) ∧ t.data.toList = Rm.rad k n) ∧ Below w.heap.size w w' := by
  by_cases h0 : n = 0
  · have hl0 : len = 0 := (isN_len0 hn).2 h0
    have HR : Hid (Rm.rad k n = [48]) := by show _ = _; rw [h0]; rfl
    subst hl0
    clear hn hL hlen h0
    go_enter Try.func41, Try.ntmps41
    go_wp2
    go_ret
    exact ⟨⟨⟨#[48]⟩, rfl, HR.out.symm⟩, Below.refl _ _⟩
  · refine write_pos k ao len cap n w hk hn hL h0 ?_
    rw [Rm.rad_pos k n h0, List.length_reverse] at hlen
    exact hlen

theorem isKnown_b (r : Int) (w : World) (b : Bool) (h : rx r = b) : Calls Try.prog 39 #[.int .i64 r] w fun e w' => e = .returned (.bool b) ∧ w' = w := by
  rw [← h]; exact isKnown_any r w
theorem implNumOk_p (neg : Bool) (up dn : ByteArray) (w : World) (b : Bool) (hu : up.size ≤ maxLen) (hd : dn.size ≤ maxLen) (h : okN neg up.data.toList dn.data.toList = b) :
    Calls Try.prog 40 #[.agg #[.bool neg, .string up, .string dn]] w fun e w' => e = .returned (.bool b) ∧ Below w.heap.size w w' := by
  rw [← h]; exact implNumOk_any neg up dn w hu hd

theorem fits60p (l : List UInt8) (n : Nat) (h : Dm.isDec l n) (hl : l.length ≤ 60) : fits n 10000 := by
  have h7 : fits n 7 := by
    refine ⟨Nat.lt_of_lt_of_le (Dm.isDec_high _ _ h) ?_⟩
    rw [base_pow]
    exact Nat.pow_le_pow_right (by omega) (by omega)
  exact h7.mono (Nat.le_refl _) (by omega)

set_option maxHeartbeats 1600000 in
theorem implPrint_yes (neg : Bool) (up dn : ByteArray) (k : Nat) (w : World) (hu : up.size ≤ maxLen) (hd : dn.size ≤ maxLen) (h1 : okN neg up.data.toList dn.data.toList = true) (h2 : rx k = true) (hk : 2 ≤ k ∧ k ≤ 16) :
    Calls Try.prog 19 #[.agg #[.bool neg, .string up, .string dn], .int .i64 k] w fun e w' => (∃ t : ByteArray, e = .returned (.string t) ∧ t.data.toList = prn neg (Dm.val up.data.toList) (Dm.val dn.data.toList) k) ∧ Below w.heap.size w w' := by
  obtain ⟨z1, z2, d1, d2⟩ := okN_parts _ _ _ h1
  have l1 := rad_short _ _ k z1 d1 hk.1
  have l2 := rad_short _ _ k z2 d2 hk.1
  have g1 := fits60p _ _ d1 z1
  have g2 := fits60p _ _ d2 z2
  have s1 : up.size ≤ 60 := by have e : up.data.toList.length = up.size := Array.length_toList; omega
  have s2 : dn.size ≤ 60 := by have e : dn.data.toList.length = dn.size := Array.length_toList; omega
  have hone := isDec_one dn _ d2
  have H1 : Hid _ := h1
  have H2 : Hid (rx k = true) := h2
  have D1 : Hid _ := d1.2.1
  have D2 : Hid _ := d2.2.1
  have N1 : Hid (∀ W : World, Calls Try.prog 42 #[.string up] W fun e w' => (∃ v, e = .returned v ∧ isN w' v (Dm.val up.data.toList)) ∧ Below W.heap.size W w') := fun W => natOfDecimal_any up W (by omega) D1.out
  have N2 : Hid (∀ W : World, Calls Try.prog 42 #[.string dn] W fun e w' => (∃ v, e = .returned v ∧ isN w' v (Dm.val dn.data.toList)) ∧ Below W.heap.size W w') := fun W => natOfDecimal_any dn W (by omega) D2.out
  clear d1 d2 D1 D2
  generalize Dm.val up.data.toList = u at *
  generalize Dm.val dn.data.toList = d at *
  have L1 : Hid ((Rm.rad k u).length ≤ 241) := l1
  have L2 : Hid ((Rm.rad k d).length ≤ 241) := l2
  have x0 := boxAt_new w #[Value.bool neg, Value.string up, Value.string dn] 34
  have hB0 : Below w.heap.size w (w.alloc (.cells #[Value.bool neg, Value.string up, Value.string dn] 34)) := (Below.refl _ _).alloc (Nat.le_refl _) _
  have X0 : Hid (boxAt _ _ _ _) := x0
  have HB0 : Hid _ := hB0
  clear z1 z2 l1 l2 h1 h2 x0 hB0
  by_cases hd1 : d = 1
  · have c1 : (dn.toList == [49]) = true := by rw [hone, hd1]; rfl
    clear hone
    cases neg
    all_goals
      have HP : Hid (∀ t : ByteArray, t.data.toList = Rm.rad k u → (⟨#[45]⟩ ++ t : ByteArray).data.toList = prn true u d k ∧ t.data.toList = prn false u d k) := by
        intro t ht
        unfold prn
        rw [if_pos hd1]
        refine ⟨?_, ?_⟩
        · simp [ht]
        · simp [ht]
      clear hd1
      have c00 := X0.out.cell 0 rfl
      have c01 := X0.out.cell 1 rfl
      have c02 := X0.out.cell 2 rfl
      go_enter Try.func19, Try.ntmps19
      go_wp2_with fail
      refine (isKnown_b k _ _ H2.out).mono ?_
      rintro e w1 ⟨rfl, rfl⟩
      go_wp2_with fail
      refine (implNumOk_p _ up dn _ _ hu hd H1.out).mono ?_
      rintro e w1 ⟨rfl, hb1⟩
      have HB1 : Hid (Below w.heap.size w w1) := HB0.out.trans (hb1.mono HB0.out.size)
      have X1 : Hid (boxAt w1 _ _ _) := X0.out.on hb1
      clear hb1 X0 HB0 H1 c00 c01 c02
      have k1 := X1.out.cell 1 rfl
      go_wp2_with fail
      refine (N1.out _).mono ?_
      rintro e w2 ⟨⟨v2, rfl, n2⟩, hb2⟩
      obtain ⟨a2, l2', c2, rfl⟩ := isN_slice n2
      have HB2 : Hid (Below w.heap.size w w2) := HB1.out.trans (hb2.mono HB1.out.size)
      have X2 : Hid (boxAt w2 _ _ _) := X1.out.on hb2
      have M2 : Hid (isN w2 (.slice a2 l2' c2) u) := n2
      clear hb2 n2 k1 X1 HB1
      go_wp2_with fail
      refine (write_any k a2 l2' c2 u _ hk M2.out g1 (by have := L1.out; omega)).mono ?_
      rintro e w3 ⟨⟨t, rfl, ht⟩, hb3⟩
      have HB3 : Hid (Below w.heap.size w w3) := HB2.out.trans (hb3.mono HB2.out.size)
      have X3 : Hid (boxAt w3 _ _ _) := X2.out.on hb3
      have hts : t.size ≤ 241 := by have e1 : t.data.toList.length = t.size := Array.length_toList; rw [← e1, ht]; exact L1.out
      have HT : Hid (t.data.toList = Rm.rad k u) := ht
      clear hb3 ht X2 HB2 M2
      have k0 := X3.out.cell 0 rfl
      have k2 := X3.out.cell 2 rfl
      go_wp2
      go_ret
      first
        | exact ⟨⟨t, rfl, (HP.out t HT.out).2⟩, HB3.out⟩
        | exact ⟨⟨_, rfl, (HP.out t HT.out).1⟩, HB3.out⟩
  · have c1 : (dn.toList == [49]) = false := by rw [hone]; simpa using hd1
    clear hone
    cases neg
    all_goals
      have HP : Hid (∀ t t2 : ByteArray, t.data.toList = Rm.rad k u → t2.data.toList = Rm.rad k d → (⟨#[45]⟩ ++ t ++ (⟨#[47]⟩ ++ t2) : ByteArray).data.toList = prn true u d k ∧ (t ++ (⟨#[47]⟩ ++ t2) : ByteArray).data.toList = prn false u d k) := by
        intro t t2 ht ht2
        unfold prn
        rw [if_neg hd1]
        refine ⟨?_, ?_⟩
        · simp [ht, ht2]
        · simp [ht, ht2]
      clear hd1
      have c00 := X0.out.cell 0 rfl
      have c01 := X0.out.cell 1 rfl
      have c02 := X0.out.cell 2 rfl
      go_enter Try.func19, Try.ntmps19
      go_wp2_with fail
      refine (isKnown_b k _ _ H2.out).mono ?_
      rintro e w1 ⟨rfl, rfl⟩
      go_wp2_with fail
      refine (implNumOk_p _ up dn _ _ hu hd H1.out).mono ?_
      rintro e w1 ⟨rfl, hb1⟩
      have HB1 : Hid (Below w.heap.size w w1) := HB0.out.trans (hb1.mono HB0.out.size)
      have X1 : Hid (boxAt w1 _ _ _) := X0.out.on hb1
      clear hb1 X0 HB0 H1 c00 c01 c02
      have k1 := X1.out.cell 1 rfl
      go_wp2_with fail
      refine (N1.out _).mono ?_
      rintro e w2 ⟨⟨v2, rfl, n2⟩, hb2⟩
      obtain ⟨a2, l2', c2, rfl⟩ := isN_slice n2
      have HB2 : Hid (Below w.heap.size w w2) := HB1.out.trans (hb2.mono HB1.out.size)
      have X2 : Hid (boxAt w2 _ _ _) := X1.out.on hb2
      have M2 : Hid (isN w2 (.slice a2 l2' c2) u) := n2
      clear hb2 n2 k1 X1 HB1
      go_wp2_with fail
      refine (write_any k a2 l2' c2 u _ hk M2.out g1 (by have := L1.out; omega)).mono ?_
      rintro e w3 ⟨⟨t, rfl, ht⟩, hb3⟩
      have HB3 : Hid (Below w.heap.size w w3) := HB2.out.trans (hb3.mono HB2.out.size)
      have X3 : Hid (boxAt w3 _ _ _) := X2.out.on hb3
      have hts : t.size ≤ 241 := by have e1 : t.data.toList.length = t.size := Array.length_toList; rw [← e1, ht]; exact L1.out
      have HT : Hid (t.data.toList = Rm.rad k u) := ht
      clear hb3 ht X2 HB2 M2
      have k0 := X3.out.cell 0 rfl
      have k2 := X3.out.cell 2 rfl
      go_wp2_with fail
      refine (N2.out _).mono ?_
      rintro e w4 ⟨⟨v4, rfl, n4⟩, hb4⟩
      obtain ⟨a4, l4', c4, rfl⟩ := isN_slice n4
      have HB4 : Hid (Below w.heap.size w w4) := HB3.out.trans (hb4.mono HB3.out.size)
      have M4 : Hid (isN w4 (.slice a4 l4' c4) d) := n4
      clear hb4 n4 k0 k2 X3 HB3
      go_wp2_with fail
      refine (write_any k a4 l4' c4 d _ hk M4.out g2 (by have := L2.out; omega)).mono ?_
      rintro e w5 ⟨⟨t2, rfl, ht2⟩, hb5⟩
      have HB5 : Hid (Below w.heap.size w w5) := HB4.out.trans (hb5.mono HB4.out.size)
      have hts2 : t2.size ≤ 241 := by have e1 : t2.data.toList.length = t2.size := Array.length_toList; rw [← e1, ht2]; exact L2.out
      have HT2 : Hid (t2.data.toList = Rm.rad k d) := ht2
      clear hb5 ht2 M4 HB4
      go_wp2
      go_ret
      first
        | exact ⟨⟨_, rfl, (HP.out t t2 HT.out HT2.out).2⟩, HB5.out⟩
        | exact ⟨⟨_, rfl, (HP.out t t2 HT.out HT2.out).1⟩, HB5.out⟩

end Go.Proofs.Ytbgbbhenakjbgag
