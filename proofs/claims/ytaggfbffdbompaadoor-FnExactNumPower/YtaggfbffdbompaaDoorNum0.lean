/-
  What the laws on numbers' sums, differences, products and quotients share: making a number.
-/
import Derived.Test.YtaggfbffdbompaaDoorNumOf
import Derived.Test.YtaggfbffdbompaaDoorImplCmp
import Derived.Test.YtaggfbffdbompaaDoorSpecOk
import Derived.Test.YtaggfbffdbompaaDoorSpec5
namespace Go.Proofs.YtaggfbffdbompaaDoor
set_option maxRecDepth 100000
set_option linter.unusedVariables false
set_option linter.unusedSimpArgs false
open Go.RowKit
attribute [local go_sem ↓] Go.wp_at_zero Go.wp_at_succ

/-- Numbers of at most 60 digits, and their products. -/

theorem fits_mul0 {a b x y : Nat} (h : fits x a) (k : fits y b) : fits (x * y) (a + b) := by
  refine ⟨?_⟩
  rw [Nat.pow_add]
  have h1 := h.out
  have h2 := k.out
  rcases Nat.eq_zero_or_pos x with h0 | h0
  · rw [h0, Nat.zero_mul]; exact Nat.mul_pos (Nat.pow_pos (by decide)) (Nat.pow_pos (by decide))
  · exact Nat.lt_of_lt_of_le (Nat.mul_lt_mul_of_pos_left h2 h0) (Nat.mul_le_mul_right _ (Nat.le_of_lt h1))

theorem fits_add0 {a x y : Nat} (h : fits x a) (k : fits y a) : fits (x + y) (a + 1) := by
  refine ⟨?_⟩
  have h1 := h.out
  have h2 := k.out
  rw [Nat.pow_succ]
  omega

theorem fits60s (l : List UInt8) (n : Nat) (h : Dm.isDec l n) (hl : l.length ≤ 60) : fits n 7 := by
  refine ⟨Nat.lt_of_lt_of_le (Dm.isDec_high _ _ h) ?_⟩
  rw [base_pow]
  exact Nat.pow_le_pow_right (by omega) (by omega)

theorem isDec_szL (s : ByteArray) (n L : Nat) (h : Dm.isDec s.data.toList n) (hf : fits n L) (hL : 0 < L) : s.size ≤ 9 * L := by
  have e : s.data.toList.length = s.size := Array.length_toList
  rcases Nat.lt_or_ge 1 s.data.toList.length with h1 | h1
  · have h2 := Dm.isDec_low _ _ h h1
    have h3 := hf.out
    rw [base_pow] at h3
    have h4 : 10 ^ (s.data.toList.length - 1) < 10 ^ (9 * L) := Nat.lt_of_le_of_lt h2 h3
    have h5 := (Nat.pow_lt_pow_iff_right (by decide : 1 < 10)).1 h4
    omega
  · omega

theorem isDec_n0 {l : List UInt8} {n : Nat} (h : Dm.isDec l n) (hz : l ≠ [48]) : n ≠ 0 := by
  intro e
  subst e
  refine hz (Dm.isDec_unique _ _ 0 h ⟨by simp, ?_, rfl, by simp⟩)
  intro c hc; simp at hc; subst hc; exact ⟨by decide, by decide⟩

theorem isDec_48 (s : ByteArray) (n : Nat) (h : Dm.isDec s.data.toList n) : (s.toList == [48]) = decide (n = 0) := by
  rw [Bool.eq_iff_iff, beq_iff_eq, decide_eq_true_eq, ByteArray.toList_eq]
  have H0 : Dm.isDec [48] 0 := by
    refine ⟨by simp, ?_, rfl, by simp⟩
    intro c hc; simp at hc; subst hc; exact ⟨by decide, by decide⟩
  constructor
  · intro e; rw [e] at h; exact Dm.isDec_inj _ _ _ h H0
  · intro e; subst e; exact Dm.isDec_unique _ _ 0 h H0

theorem specNumOk_c (neg : Bool) (up dn : ByteArray) (w : World) (b : Bool) (hu : up.size ≤ maxLen) (hd : dn.size ≤ maxLen) (h : okN neg up.data.toList dn.data.toList = b) :
    Calls Tryd.prog 34 #[.agg #[.bool neg, .string up, .string dn]] w fun e w' => e = .returned (.bool b) ∧ Below w.heap.size w w' := by
  rw [← h]; exact specNumOk_any neg up dn w hu hd

/-- Whether a number can be made, and its parts. -/
def numB (n m : Nat) : Bool := short (n / Nat.gcd n m) (m / Nat.gcd n m)
def numC (neg : Bool) (n m : Nat) : Bool := numB n m && (neg && decide (n ≠ 0))
def numU (n m : Nat) : ByteArray := if numB n m then decS (n / Nat.gcd n m) else ⟨#[]⟩
def numD (n m : Nat) : ByteArray := if numB n m then decS (m / Nat.gcd n m) else ⟨#[]⟩
def numK (n m : Nat) : Int := if numB n m then 0 else 3

theorem numRet_fn {neg : Bool} {n m : Nat} {e : Ending} (h : NumRet neg n m e) : e = .returned (.tuple #[.agg #[.bool (numC neg n m), .string (numU n m), .string (numD n m)], .bool (numB n m)]) := by
  obtain ⟨c, s1, s2, ok, rfl, h⟩ := h
  rcases h.out with ⟨h1, rfl, rfl, rfl, rfl⟩ | ⟨h1, rfl, rfl, rfl, rfl⟩
  · have e1 : numB n m = true := h1
    simp only [numC, numU, numD, e1, Bool.true_and, if_true]
  · have e1 : numB n m = false := h1
    simp only [numC, numU, numD, e1, Bool.false_and]
    rfl

theorem numOf_c (neg : Bool) (ao : Option Addr) (len cap : Nat) (ao2 : Option Addr) (len2 cap2 : Nat) (n m : Nat) (w : World) (hn : isN w (.slice ao len cap) n) (hm : isN w (.slice ao2 len2 cap2) m) (hm0 : m ≠ 0) (fn : fits n 8000) (fm : fits m 8000) (htab : TB w) :
    Calls Tryd.prog 68 #[.bool neg, .slice ao len cap, .slice ao2 len2 cap2] w fun e w' => e = .returned (.tuple #[.agg #[.bool (numC neg n m), .string (numU n m), .string (numD n m)], .bool (numB n m)]) ∧ Below w.heap.size w w' :=
  (numOf_any neg ao len cap ao2 len2 cap2 n m w hn hm hm0 fn fm htab).mono fun _ _ h => ⟨numRet_fn h.1, h.2⟩

set_option maxHeartbeats 2000000 in
theorem l2Make_any (neg : Bool) (up dn : ByteArray) (n m : Nat) (w : World) (hn : Dm.isDec up.data.toList n) (hm : Dm.isDec dn.data.toList m) (hm0 : m ≠ 0) (fn : fits n 8000) (fm : fits m 8000) :
    Calls Tryd.prog 86 #[.bool neg, .string up, .string dn] w fun e w' => NumRet neg n m e ∧ Below w.heap.size w w' := by
  obtain ⟨hg0, hz, hle1, hle2, hle3⟩ := gcd_quo n m hm0
  obtain ⟨g, hg⟩ : ∃ g, g = Nat.gcd n m := ⟨_, rfl⟩
  have HG : Hid (g = Nat.gcd n m) := hg
  rw [← hg] at hg0 hz hle1 hle2 hle3
  have HZ : Hid (n / g = 0 ↔ n = 0) := hz
  have HN : Hid (Dm.isDec up.data.toList n) := hn
  have HM : Hid (Dm.isDec dn.data.toList m) := hm
  have su := isDec_szL up n 8000 hn fn (by omega)
  have sd := isDec_szL dn m 8000 hm fm (by omega)
  have c0 : (dn.toList == [48]) = false := by rw [isDec_48 dn m hm]; exact decide_eq_false hm0
  have fg : fits g 8000 := fm.mono hle3 (Nat.le_refl _)
  clear hn hm hg hz hle1 hle2 hle3
  have hB0 : Below w.heap.size w (w.alloc (.cells #[.bool false, .string ⟨#[]⟩, .string ⟨#[]⟩] 25)) := (Below.refl _ _).alloc (Nat.le_refl _) _
  have x0 := boxAt_new w #[.bool false, .string ⟨#[]⟩, .string ⟨#[]⟩] 25
  have HB0 : Hid _ := hB0
  have X0 : Hid (boxAt _ _ _ _) := x0
  clear hB0 x0
  go_enter Tryd.func86, Tryd.ntmps86
  go_wp2_with fail
  refine (l1Gcd_any up dn n m _ (by omega) (by omega) HN.out HM.out).mono ?_
  rintro e w1 ⟨⟨tg, rfl, h1⟩, hb1⟩
  rw [← HG.out] at h1
  have sg := isDec_szL tg g 8000 h1 fg (by omega)
  have G1 : Hid (Dm.isDec tg.data.toList g) := h1
  have HB1 : Hid (Below w.heap.size w w1) := HB0.out.trans (hb1.mono HB0.out.size)
  have X1 : Hid (boxAt w1 _ _ _) := X0.out.on hb1
  clear h1 hb1 X0 HB0
  go_wp2_with fail
  refine (l1Div_any up tg n g _ (by omega) (by omega) HN.out G1.out hg0).mono ?_
  rintro e w2 ⟨⟨ta, ta', rfl, h2, _⟩, hb2⟩
  have ca0 := isDec_48 ta _ h2
  have ca : (ta.toList == [48]) = decide (n = 0) := ca0.trans (decide_eq_decide.2 HZ.out)
  have ea := dec_eq h2
  have HB2 : Hid (Below w.heap.size w w2) := HB1.out.trans (hb2.mono HB1.out.size)
  have X2 : Hid (boxAt w2 _ _ _) := X1.out.on hb2
  have EA : Hid (ta = decS (n / g)) := ea
  have CA : Hid ((ta.toList == [48]) = decide (n = 0)) := ca
  clear h2 hb2 X1 HB1 ea ca ca0
  go_wp2_with fail
  refine (l1Div_any dn tg m g _ (by omega) (by omega) HM.out G1.out hg0).mono ?_
  rintro e w3 ⟨⟨tb, tb', rfl, h3, _⟩, hb3⟩
  have eb := dec_eq h3
  have HB3 : Hid (Below w.heap.size w w3) := HB2.out.trans (hb3.mono HB2.out.size)
  have X3 : Hid (boxAt w3 _ _ _) := X2.out.on hb3
  have EB : Hid (tb = decS (m / g)) := eb
  clear h3 hb3 X2 HB2 eb G1 HN HM
  have hlast : Hid (∀ (c : Bool) (s1 s2 : ByteArray) (ok : Bool), ((short (n / g) (m / g) = true ∧ c = (neg && decide (n ≠ 0)) ∧ s1 = ta ∧ s2 = tb ∧ ok = true) ∨ (short (n / g) (m / g) = false ∧ c = false ∧ s1 = ⟨#[]⟩ ∧ s2 = ⟨#[]⟩ ∧ ok = false)) → numIs neg n m c s1 s2 ok) := by
    intro c s1 s2 ok h
    rw [EA.out, EB.out, HG.out] at h
    exact h
  have q0 := X3.out.cell 0 rfl
  have q1 := X3.out.cell 1 rfl
  have q2 := X3.out.cell 2 rfl
  have f0 := X3.out.frozen 0
  have f1 := X3.out.frozen 1
  have f2 := X3.out.frozen 2
  have hlt := X3.out.lt
  have hsz := HB3.out.size
  by_cases h1 : ta.size ≤ 60
  · by_cases h2 : tb.size ≤ 60
    · have HSH : Hid (short (n / g) (m / g) = true) := by
        show _ = _
        rw [EA.out] at h1
        rw [EB.out] at h2
        simp [short, h1, h2]
      have t1 : ¬ (60 : Int) < ta.size := by omega
      have t2 : ¬ (60 : Int) < tb.size := by omega
      cases neg
      · clear h1 h2
        go_wp2
        simp only [bodyPost]
        refine ⟨trivial, _, ?_, ⟨_, _, _, _, rfl, hlast.out _ _ _ _ (.inl ⟨HSH.out, rfl, rfl, rfl, rfl⟩)⟩, ?_⟩
        · simp only [results, Tryd.results86]
          go_simp
        · exact ((HB3.out.setCell (p := ⟨w.heap.size, 0, none⟩) (Nat.le_refl _) _).setCell (p := ⟨w.heap.size, 1, none⟩) (Nat.le_refl _) _).setCell (p := ⟨w.heap.size, 2, none⟩) (Nat.le_refl _) _
      · by_cases hn0 : n = 0
        · have ca : (ta.toList == [48]) = true := by rw [CA.out]; exact decide_eq_true hn0
          have HC : Hid (false = (true && decide (n ≠ 0))) := by show _ = _; simp [hn0]
          clear h1 h2 hn0
          go_wp2
          simp only [bodyPost]
          refine ⟨trivial, _, ?_, ⟨_, _, _, _, rfl, hlast.out _ _ _ _ (.inl ⟨HSH.out, HC.out, rfl, rfl, rfl⟩)⟩, ?_⟩
          · simp only [results, Tryd.results86]
            go_simp
          · exact ((HB3.out.setCell (p := ⟨w.heap.size, 0, none⟩) (Nat.le_refl _) _).setCell (p := ⟨w.heap.size, 1, none⟩) (Nat.le_refl _) _).setCell (p := ⟨w.heap.size, 2, none⟩) (Nat.le_refl _) _
        · have ca : (ta.toList == [48]) = false := by rw [CA.out]; exact decide_eq_false hn0
          have HC : Hid (true = (true && decide (n ≠ 0))) := by show _ = _; simp [hn0]
          clear h1 h2 hn0
          go_wp2
          simp only [bodyPost]
          refine ⟨trivial, _, ?_, ⟨_, _, _, _, rfl, hlast.out _ _ _ _ (.inl ⟨HSH.out, HC.out, rfl, rfl, rfl⟩)⟩, ?_⟩
          · simp only [results, Tryd.results86]
            go_simp
          · exact ((HB3.out.setCell (p := ⟨w.heap.size, 0, none⟩) (Nat.le_refl _) _).setCell (p := ⟨w.heap.size, 1, none⟩) (Nat.le_refl _) _).setCell (p := ⟨w.heap.size, 2, none⟩) (Nat.le_refl _) _
    · have HSH : Hid (short (n / g) (m / g) = false) := by
        show _ = _
        rw [EB.out] at h2
        simp [short, h2]
      have t1 : ¬ (60 : Int) < ta.size := by omega
      have t2 : (60 : Int) < tb.size := by omega
      clear h1 h2
      go_wp2
      simp only [bodyPost]
      refine ⟨trivial, _, ?_, ⟨_, _, _, _, rfl, hlast.out _ _ _ _ (.inr ⟨HSH.out, rfl, rfl, rfl, rfl⟩)⟩, ?_⟩
      · simp only [results, Tryd.results86]
        go_simp
      · exact ((HB3.out.setCell (p := ⟨w.heap.size, 0, none⟩) (Nat.le_refl _) _).setCell (p := ⟨w.heap.size, 1, none⟩) (Nat.le_refl _) _).setCell (p := ⟨w.heap.size, 2, none⟩) (Nat.le_refl _) _
  · have HSH : Hid (short (n / g) (m / g) = false) := by
      show _ = _
      rw [EA.out] at h1
      simp [short, h1]
    have t1 : (60 : Int) < ta.size := by omega
    clear h1
    go_wp2
    simp only [bodyPost]
    refine ⟨trivial, _, ?_, ⟨_, _, _, _, rfl, hlast.out _ _ _ _ (.inr ⟨HSH.out, rfl, rfl, rfl, rfl⟩)⟩, ?_⟩
    · simp only [results, Tryd.results86]
      go_simp
    · exact ((HB3.out.setCell (p := ⟨w.heap.size, 0, none⟩) (Nat.le_refl _) _).setCell (p := ⟨w.heap.size, 1, none⟩) (Nat.le_refl _) _).setCell (p := ⟨w.heap.size, 2, none⟩) (Nat.le_refl _) _

end Go.Proofs.YtaggfbffdbompaaDoor
