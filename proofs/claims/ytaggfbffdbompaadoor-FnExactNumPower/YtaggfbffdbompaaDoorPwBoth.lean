/-
  The program's NumPower and the specification's are the same; the law.
-/
import Derived.Test.YtaggfbffdbompaaDoorPwS3
import Derived.Test.YtaggfbffdbompaaDoorPwI
import Derived.Test.YtaggfbffdbompaaDoorWLaw0
namespace Go.Proofs.YtaggfbffdbompaaDoor
set_option maxRecDepth 100000
set_option linter.unusedVariables false
set_option linter.unusedSimpArgs false
open Go.RowKit

theorem okN_swap {neg : Bool} {up dn : List UInt8} (h : okN neg up dn = true) (hz : up ≠ [48]) : okN neg dn up = true := by
  unfold okN at h ⊢
  rw [Nat.gcd_comm]
  simp only [Bool.and_eq_true, decide_eq_true_eq, Bool.not_eq_true', beq_iff_eq] at h ⊢
  obtain ⟨⟨⟨⟨⟨⟨h1, h2⟩, h3⟩, h4⟩, h5⟩, h6⟩, h7⟩ := h
  refine ⟨⟨⟨⟨⟨⟨h2, h1⟩, h4⟩, h3⟩, beq_eq_false_iff_ne.2 hz⟩, ?_⟩, h7⟩
  rw [h5, Bool.and_false]

theorem pw_sign (neg : Bool) (t : Nat) : ((neg && t % 2 == 1) != (false && t % 2 == 1)) = (neg && t % 2 == 1) := by
  cases neg <;> simp

theorem pw_sign2 (neg : Bool) (t : Nat) : ((false && t % 2 == 1) != (neg && t % 2 == 1)) = (neg && t % 2 == 1) := by
  cases neg <;> simp

theorem both_of {neg : Bool} {up dn : ByteArray} {k : Int} {b b2 : Bool} {u d t : Nat} (hcop : Nat.gcd u d = 1) (hd0 : d ≠ 0) (fu : fits u 7) (fd : fits d 7) (ht : t ≤ 1000) (hs : ((b && t % 2 == 1) != (b2 && t % 2 == 1)) = (neg && t % 2 == 1)) (HR : FaYes neg up dn k b b2 u d t)
    (hS : ∀ w : World, Ans 17 #[.agg #[.bool neg, .string up, .string dn], .int .i64 k] w (numC (neg && t % 2 == 1) (u ^ t) (d ^ t)) (numU (u ^ t) (d ^ t)) (numD (u ^ t) (d ^ t)) (numK (u ^ t) (d ^ t))) :
    Both 18 17 #[.agg #[.bool neg, .string up, .string dn], .int .i64 k] := by
  refine ⟨_, _, _, _, fun w ht' => ?_, hS⟩
  cases hb : pBig u d t
  · rw [← hs]
    exact iNumPower_yes neg up dn k b b2 u d t w HR ht fu fd ht'.tab hd0 hb
  · have hn : numB (u ^ t) (d ^ t) = false := by rw [numB_big hcop, hb]; rfl
    obtain ⟨e1, e2, e3, e4⟩ := num_no (neg := (neg && t % 2 == 1)) hn
    rw [e1, e2, e3, e4]
    exact iNumPower_big neg up dn k b b2 u d t w HR ht fu fd ht'.err hb

theorem bothNumPower (neg : Bool) (up dn : ByteArray) (k : Int) (hu : up.size ≤ maxLen) (hd : dn.size ≤ maxLen) : Both 18 17 #[.agg #[.bool neg, .string up, .string dn], .int .i64 k] := by
  cases h1 : okN neg up.data.toList dn.data.toList
  · exact ⟨_, _, _, _, fun w ht => iNumPower_err neg up dn k 1 w (factorOf_no neg up dn k hu hd h1) ht.err, fun w => sNumPower_no neg up dn k w hu hd h1⟩
  rcases Int.lt_or_le k (-1000) with hk | hk
  · exact ⟨_, _, _, _, fun w ht => iNumPower_err neg up dn k 1 w (factorOf_lo neg up dn k hk hu hd h1) ht.err, fun w => sNumPower_out neg up dn k w hu hd h1 (decide_eq_false (by omega)).symm⟩
  rcases Int.lt_or_le 1000 k with hk2 | hk2
  · exact ⟨_, _, _, _, fun w ht => iNumPower_err neg up dn k 1 w (factorOf_hi neg up dn k hk2 hu hd h1) ht.err, fun w => sNumPower_out neg up dn k w hu hd h1 (decide_eq_false (by omega)).symm⟩
  have hin : Hid (true = decide (-1000 ≤ k ∧ k ≤ 1000)) := (decide_eq_true ⟨hk, hk2⟩).symm
  obtain ⟨z1, z2, d1, d2, n1, m1, hc⟩ := okN_facts _ _ _ h1
  have s1 : up.size ≤ 60 := by have e : up.data.toList.length = up.size := Array.length_toList; omega
  have s2 : dn.size ≤ 60 := by have e : dn.data.toList.length = dn.size := Array.length_toList; omega
  have f1 := fits60d _ _ d1 z1
  have f2 := fits60d _ _ d2 z2
  have hd0 : Dm.val dn.data.toList ≠ 0 := isDec_n0 d2 n1
  rcases Int.lt_or_le k 0 with hk0 | hk0
  · cases e3 : (up.toList == [48])
    · have hne : Dm.val up.data.toList ≠ 0 := by
        rw [isDec_z _ _ d1] at e3; exact of_decide_eq_false e3
      have hup : up.data.toList ≠ [48] := by
        intro e; rw [ByteArray.toList_eq] at e3; rw [e] at e3; exact absurd e3 (by decide)
      obtain ⟨t, ht⟩ : ∃ t : Nat, -k = (t : Int) := ⟨(-k).toNat, by omega⟩
      refine both_of (b := false) (b2 := neg) (by rw [Nat.gcd_comm]; exact hc) hne f2 f1 (by omega) (pw_sign2 neg t) (by rw [← ht]; exact factorOf_neg neg up dn k hk0 hk _ _ hne s1 s2 d1 d2 hu hd h1) (fun w => ?_)
      exact sNumPower_neg neg up dn k w hu hd _ _ t _ _ _ _ ⟨rfl, rfl, rfl, rfl⟩ (by rw [Nat.gcd_comm]; exact hc) hne f2 f1 d2 d1 s1 s2 (okN_swap h1 hup) ht (by omega) h1 hin hk0 e3
    · have hz : Dm.val up.data.toList = 0 := by
        rw [isDec_z _ _ d1] at e3; exact of_decide_eq_true e3
      rw [hz] at d1
      exact ⟨_, _, _, _, fun w ht => iNumPower_err neg up dn k 2 w (factorOf_nought neg up dn k hk0 hk _ s1 s2 d1 d2 hu hd h1) ht.err, fun w => sNumPower_nought neg up dn k w hu hd h1 hin hk0 e3⟩
  · obtain ⟨t, ht⟩ : ∃ t : Nat, k = (t : Int) := ⟨k.toNat, by omega⟩
    refine both_of (b := neg) (b2 := false) hc hd0 f1 f2 (by omega) (pw_sign neg t) (by rw [← ht]; exact factorOf_pos neg up dn k hk0 hk2 _ _ s1 s2 d1 d2 hu hd h1) (fun w => ?_)
    exact sNumPower_pos neg up dn k w hu hd _ _ t _ _ _ _ ⟨rfl, rfl, rfl, rfl⟩ hc hd0 f1 f2 d1 d2 s1 s2 h1 ht (by omega) h1 hin hk0

end Go.Proofs.YtaggfbffdbompaaDoor
