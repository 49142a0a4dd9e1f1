/-
  The contract of making a number in lowest terms.
-/
import Derived.Test.YtaggfbffdbompaaDoorDec
import Derived.Test.YtaggfbffdbompaaDoorGcd
namespace Go.Proofs.YtaggfbffdbompaaDoor
set_option maxRecDepth 100000
set_option linter.unusedVariables false
set_option linter.unusedSimpArgs false
open Go.RowKit
attribute [local go_sem ↓] Go.wp_at_zero Go.wp_at_succ

/-- A whole number's digits. -/
def decS (n : Nat) : ByteArray := ⟨(Lib.decDigits n).toArray⟩

theorem decS_list (n : Nat) : (decS n).data.toList = Lib.decDigits n := by show (Lib.decDigits n).toArray.toList = _; simp

theorem decS_dec (n : Nat) : Dm.isDec (decS n).data.toList n := by rw [decS_list]; exact Dm.decDigits_dec n

theorem dec_eq {s : ByteArray} {n : Nat} (h : Dm.isDec s.data.toList n) : s = decS n := by
  have h1 := Dm.isDec_unique _ _ n h (decS_dec n)
  have h2 : s.data = (decS n).data := Array.toList_inj.1 h1
  cases s
  cases hd : decS n
  rw [hd] at h2
  exact congrArg ByteArray.mk h2

/-- Both have at most 60 digits. -/
def short (a b : Nat) : Bool := decide ((decS a).size ≤ 60) && decide ((decS b).size ≤ 60)

/-- What is told of a sign, above and below: in lowest terms. -/
def numIs (neg : Bool) (n m : Nat) (c : Bool) (s1 s2 : ByteArray) (ok : Bool) : Prop :=
  (short (n / Nat.gcd n m) (m / Nat.gcd n m) = true ∧ c = (neg && decide (n ≠ 0)) ∧ s1 = decS (n / Nat.gcd n m) ∧ s2 = decS (m / Nat.gcd n m) ∧ ok = true) ∨
  (short (n / Nat.gcd n m) (m / Nat.gcd n m) = false ∧ c = false ∧ s1 = ⟨#[]⟩ ∧ s2 = ⟨#[]⟩ ∧ ok = false)

theorem numIs_unique {neg : Bool} {n m : Nat} {c c' : Bool} {s1 s2 s1' s2' : ByteArray} {ok ok' : Bool} (h : numIs neg n m c s1 s2 ok) (h' : numIs neg n m c' s1' s2' ok') : c' = c ∧ s1' = s1 ∧ s2' = s2 ∧ ok' = ok := by
  rcases h with ⟨a1, a2, a3, a4, a5⟩ | ⟨a1, a2, a3, a4, a5⟩ <;> rcases h' with ⟨b1, b2, b3, b4, b5⟩ | ⟨b1, b2, b3, b4, b5⟩
  · exact ⟨by rw [b2, a2], by rw [b3, a3], by rw [b4, a4], by rw [b5, a5]⟩
  · rw [a1] at b1; exact absurd b1 (by decide)
  · rw [a1] at b1; exact absurd b1 (by decide)
  · exact ⟨by rw [b2, a2], by rw [b3, a3], by rw [b4, a4], by rw [b5, a5]⟩

theorem gcd_quo (n m : Nat) (hm : m ≠ 0) : 0 < Nat.gcd n m ∧ (n / Nat.gcd n m = 0 ↔ n = 0) ∧ n / Nat.gcd n m ≤ n ∧ m / Nat.gcd n m ≤ m ∧ Nat.gcd n m ≤ m := by
  have hg : 0 < Nat.gcd n m := Nat.gcd_pos_of_pos_right _ (by omega)
  have hle : Nat.gcd n m ≤ m := Nat.le_of_dvd (by omega) (Nat.gcd_dvd_right n m)
  refine ⟨hg, ⟨fun h => ?_, fun h => by rw [h, Nat.zero_div]⟩, Nat.div_le_self _ _, Nat.div_le_self _ _, hle⟩
  have h1 := Nat.div_mul_cancel (Nat.gcd_dvd_left n m)
  rw [h, Nat.zero_mul] at h1
  exact h1.symm

theorem isN_len {w : World} {ao : Option Addr} {len cap n : Nat} (hn : isN w (.slice ao len cap) n) : len = 0 ↔ n = 0 := by
  obtain ⟨xs, h1, h2⟩ := hn
  have hlx : len = xs.length := by
    rcases rowN_shape h1 with ⟨e, rfl⟩ | ⟨g, cap', e, _⟩
    · cases e; rfl
    · cases e; rfl
  rw [hlx]
  constructor
  · intro h; rw [← h2.1, List.length_eq_zero_iff.1 h]; rfl
  · intro h; subst h; rw [Lm.isNat_zero xs h2]; rfl

/-- What making a number ends in. -/
def NumRet (neg : Bool) (n m : Nat) (e : Ending) : Prop :=
  ∃ c s1 s2 ok, e = .returned (.tuple #[.agg #[.bool c, .string s1, .string s2], .bool ok]) ∧ Hid (numIs neg n m c s1 s2 ok)

set_option maxHeartbeats 2000000 in
theorem numOf_any (neg : Bool) (ao : Option Addr) (len cap : Nat) (ao2 : Option Addr) (len2 cap2 : Nat) (n m : Nat) (w : World) (hn : isN w (.slice ao len cap) n) (hm : isN w (.slice ao2 len2 cap2) m) (hm0 : m ≠ 0) (fn : fits n 8000) (fm : fits m 8000) (htab : TB w) :
    Calls Tryd.prog 68 #[.bool neg, .slice ao len cap, .slice ao2 len2 cap2] w fun e w' => NumRet neg n m e ∧ Below w.heap.size w w' := by
  obtain ⟨hg0, hz, hle1, hle2, hle3⟩ := gcd_quo n m hm0
  obtain ⟨g, hg⟩ : ∃ g, g = Nat.gcd n m := ⟨_, rfl⟩
  have HG : Hid (g = Nat.gcd n m) := hg
  rw [← hg] at hg0 hz hle1 hle2 hle3
  have HZ : Hid (n / g = 0 ↔ n = 0) := hz
  have HN : Hid (isN w (.slice ao len cap) n) := hn
  have HM : Hid (isN w (.slice ao2 len2 cap2) m) := hm
  have HT : Hid (TB w) := htab
  have fg : fits g 8000 := fm.mono hle3 (Nat.le_refl _)
  have fa : fits (n / g) 10000 := fn.mono hle1 (by omega)
  have fb : fits (m / g) 10000 := fm.mono hle2 (by omega)
  clear hn hm htab hg hz hle1 hle2 hle3
  have hB0 : Below w.heap.size w (w.alloc (.cells #[.bool false, .string ⟨#[]⟩, .string ⟨#[]⟩] 25)) := (Below.refl _ _).alloc (Nat.le_refl _) _
  have x0 := boxAt_new w #[.bool false, .string ⟨#[]⟩, .string ⟨#[]⟩] 25
  have HB0 : Hid _ := hB0
  have X0 : Hid (boxAt _ _ _ _) := x0
  clear hB0 x0
  go_enter Tryd.func68, Tryd.ntmps68
  go_wp2_with fail
  refine (gcd_any _ _ n m _ (isN_below HN.out HB0.out) (isN_below HM.out HB0.out) fn fm).mono ?_
  rintro e w1 ⟨⟨v1, rfl, h1⟩, hb1⟩
  rw [← HG.out] at h1
  obtain ⟨a1, l1, c1, rfl⟩ := isN_slice h1
  have G1 : Hid (isN w1 (.slice a1 l1 c1) g) := h1
  have HB1 : Hid (Below w.heap.size w w1) := HB0.out.trans (hb1.mono HB0.out.size)
  have X1 : Hid (boxAt w1 _ _ _) := X0.out.on hb1
  clear h1 hb1 X0 HB0
  go_wp2_with fail
  refine (divide_any _ _ n g _ (isN_below HN.out HB1.out) G1.out hg0 fn fg).mono ?_
  rintro e w2 ⟨⟨v2, v2', rfl, h2, _⟩, hb2⟩
  obtain ⟨a2, l2, c2, rfl⟩ := isN_slice h2
  have hl2 := isN_len h2
  have A2 : Hid (isN w2 (.slice a2 l2 c2) (n / g)) := h2
  have G2 : Hid (isN w2 (.slice a1 l1 c1) g) := isN_below G1.out hb2
  have HB2 : Hid (Below w.heap.size w w2) := HB1.out.trans (hb2.mono HB1.out.size)
  have X2 : Hid (boxAt w2 _ _ _) := X1.out.on hb2
  have HL2 : Hid (l2 = 0 ↔ n = 0) := hl2.trans HZ.out
  clear h2 hb2 X1 HB1 G1 hl2
  go_wp2_with fail
  refine (divide_any _ _ m g _ (isN_below HM.out HB2.out) G2.out hg0 fm fg).mono ?_
  rintro e w3 ⟨⟨v3, v3', rfl, h3, _⟩, hb3⟩
  obtain ⟨a3, l3, c3, rfl⟩ := isN_slice h3
  have B3 : Hid (isN w3 (.slice a3 l3 c3) (m / g)) := h3
  have A3 : Hid (isN w3 (.slice a2 l2 c2) (n / g)) := isN_below A2.out hb3
  have HB3 : Hid (Below w.heap.size w w3) := HB2.out.trans (hb3.mono HB2.out.size)
  have X3 : Hid (boxAt w3 _ _ _) := X2.out.on hb3
  have T3 : Hid (TB w3) := HT.out.on HB3.out
  clear h3 hb3 X2 HB2 G2 A2 HN HM
  obtain ⟨sgn, hsgn⟩ : ∃ b, b = (neg && decide (n ≠ 0)) := ⟨_, rfl⟩
  have HS : Hid (sgn = (neg && decide (n ≠ 0))) := hsgn
  have hcase : (neg = false ∧ sgn = false) ∨ (neg = true ∧ sgn = false ∧ l2 = 0) ∨ (neg = true ∧ sgn = true ∧ 0 < l2) := by
    cases neg
    · exact .inl ⟨rfl, by rw [hsgn]; rfl⟩
    · by_cases h : n = 0
      · exact .inr (.inl ⟨rfl, by rw [hsgn, h]; rfl, HL2.out.2 h⟩)
      · refine .inr (.inr ⟨rfl, by rw [hsgn]; simp [h], ?_⟩)
        rcases Nat.eq_zero_or_pos l2 with h1 | h1
        · exact absurd (HL2.out.1 h1) h
        · exact h1
  clear hsgn HL2 HZ
  have hlast : Hid (∀ (c : Bool) (s1 s2 : ByteArray) (ok : Bool), ((short (n / g) (m / g) = true ∧ c = sgn ∧ s1 = decS (n / g) ∧ s2 = decS (m / g) ∧ ok = true) ∨ (short (n / g) (m / g) = false ∧ c = false ∧ s1 = ⟨#[]⟩ ∧ s2 = ⟨#[]⟩ ∧ ok = false)) → numIs neg n m c s1 s2 ok) := by
    intro c s1 s2 ok h
    rw [HG.out, HS.out] at h
    exact h
  clear HS HG HT fn fm fg
  rcases hcase with ⟨rfl, rfl⟩ | ⟨rfl, rfl, rfl⟩ | ⟨rfl, rfl, hlp⟩
  all_goals
    go_wp2_with fail
    refine (decimal_any _ _ _ A3.out fa T3.out).mono ?_
    rintro e w4 ⟨⟨s4, rfl, h4⟩, hb4⟩
    have e4 := dec_eq h4
    subst e4
    have B4 : Hid (isN w4 (.slice a3 l3 c3) (m / g)) := isN_below B3.out hb4
    have HB4 : Hid (Below w.heap.size w w4) := HB3.out.trans (hb4.mono HB3.out.size)
    have X4 : Hid (boxAt w4 _ _ _) := X3.out.on hb4
    have T4 : Hid (TB w4) := T3.out.on hb4
    clear h4 hb4 X3 HB3 B3 A3 T3
    go_wp2_with fail
    refine (decimal_any _ _ _ B4.out fb T4.out).mono ?_
    rintro e w5 ⟨⟨s5, rfl, h5⟩, hb5⟩
    have e5 := dec_eq h5
    subst e5
    have HB5 : Hid (Below w.heap.size w w5) := HB4.out.trans (hb5.mono HB4.out.size)
    have X5 : Hid (boxAt w5 _ _ _) := X4.out.on hb5
    clear h5 hb5 X4 HB4 B4 T4
    have q0 := X5.out.cell 0 rfl
    have q1 := X5.out.cell 1 rfl
    have q2 := X5.out.cell 2 rfl
    have f0 := X5.out.frozen 0
    have f1 := X5.out.frozen 1
    have f2 := X5.out.frozen 2
    have hlt := X5.out.lt
    have hsz := HB5.out.size
    have hfin := hlast
    by_cases h1 : (decS (n / g)).size ≤ 60
    · by_cases h2 : (decS (m / g)).size ≤ 60
      · have HSH : Hid (short (n / g) (m / g) = true) := by show _ = _; simp [short, h1, h2]
        go_wp2
        simp only [bodyPost]
        refine ⟨trivial, _, ?_, ⟨_, _, _, _, rfl, hlast.out _ _ _ _ (.inl ⟨HSH.out, rfl, rfl, rfl, rfl⟩)⟩, ?_⟩
        · simp only [results, Tryd.results68]
          go_simp
        · exact (((HB5.out.setCell (p := ⟨w.heap.size, 0, none⟩) (Nat.le_refl _) _).setCell (p := ⟨w.heap.size, 1, none⟩) (Nat.le_refl _) _).setCell (p := ⟨w.heap.size, 2, none⟩) (Nat.le_refl _) _).alloc (by simp only [World.size_setCell]; omega) _
      · have HSH : Hid (short (n / g) (m / g) = false) := by show _ = _; simp [short, h2]
        go_wp2
        simp only [bodyPost]
        refine ⟨trivial, _, ?_, ⟨_, _, _, _, rfl, hlast.out _ _ _ _ (.inr ⟨HSH.out, rfl, rfl, rfl, rfl⟩)⟩, ?_⟩
        · simp only [results, Tryd.results68]
          go_simp
        · exact (((HB5.out.setCell (p := ⟨w.heap.size, 0, none⟩) (Nat.le_refl _) _).setCell (p := ⟨w.heap.size, 1, none⟩) (Nat.le_refl _) _).setCell (p := ⟨w.heap.size, 2, none⟩) (Nat.le_refl _) _).alloc (by simp only [World.size_setCell]; omega) _
    · have HSH : Hid (short (n / g) (m / g) = false) := by show _ = _; simp [short, h1]
      go_wp2
      simp only [bodyPost]
      refine ⟨trivial, _, ?_, ⟨_, _, _, _, rfl, hlast.out _ _ _ _ (.inr ⟨HSH.out, rfl, rfl, rfl, rfl⟩)⟩, ?_⟩
      · simp only [results, Tryd.results68]
        go_simp
      · exact (((HB5.out.setCell (p := ⟨w.heap.size, 0, none⟩) (Nat.le_refl _) _).setCell (p := ⟨w.heap.size, 1, none⟩) (Nat.le_refl _) _).setCell (p := ⟨w.heap.size, 2, none⟩) (Nat.le_refl _) _).alloc (by simp only [World.size_setCell]; omega) _

end Go.Proofs.YtaggfbffdbompaaDoor
