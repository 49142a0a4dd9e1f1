/-
  The contract of the specification's NumOk.
-/
import Derived.Test.YtaggfbffdbompaaDoorSpec3
namespace Go.Proofs.YtaggfbffdbompaaDoor
set_option maxRecDepth 100000
open Go.RowKit

/-- What NumOk tells. -/
def okN (neg : Bool) (up dn : List UInt8) : Bool :=
  decide (up.length ≤ 60) && decide (dn.length ≤ 60) && okB up && okB dn && !(dn == [48]) && !(neg && up == [48]) && (Nat.gcd (Dm.val up) (Dm.val dn) == 1)

theorem l1DigitsOk_b (s : ByteArray) (w : World) (b : Bool) (hs : s.size ≤ maxLen) (h : okB s.data.toList = b) :
    Calls Tryd.prog 58 #[.string s] w fun e w' => e = .returned (.bool b) ∧ w' = w := by
  rw [← h]; exact l1DigitsOk_any s w hs

theorem isDec_one (s : ByteArray) (n : Nat) (h : Dm.isDec s.data.toList n) : (s.toList == [49]) = (n == 1) := by
  have H1 : Dm.isDec [49] 1 := by
    refine ⟨by simp, ?_, rfl, by simp⟩
    intro c hc; simp at hc; subst hc; exact ⟨by decide, by decide⟩
  rw [Bool.eq_iff_iff, beq_iff_eq, beq_iff_eq, ByteArray.toList_eq]
  constructor
  · intro e; rw [e] at h; exact Dm.isDec_inj _ _ _ h H1
  · intro e; subst e; exact Dm.isDec_unique _ _ 1 h H1

set_option maxHeartbeats 800000 in
theorem specNumOk_any (neg : Bool) (up dn : ByteArray) (w : World) (hu : up.size ≤ maxLen) (hd : dn.size ≤ maxLen) :
    Calls Tryd.prog 34 #[.agg #[.bool neg, .string up, .string dn]] w fun e w' => e = .returned (.bool (okN neg up.data.toList dn.data.toList)) ∧ Below w.heap.size w w' := by
  have lu : up.data.toList.length = up.size := by simp
  have ld : dn.data.toList.length = dn.size := by simp
  have hB : ∀ o, Below w.heap.size w (w.alloc o) := fun o => (Below.refl _ _).alloc (Nat.le_refl _) _
  by_cases c1 : 60 < up.size
  · have hv : okN neg up.data.toList dn.data.toList = false := by
      have : decide (up.data.toList.length ≤ 60) = false := by rw [lu]; simpa using c1
      simp only [okN, this, Bool.false_and]
    have t1 : (60 : Int) < up.size := by omega
    go_enter Tryd.func34, Tryd.ntmps34
    go_wp2
    go_ret
    exact ⟨ret_bool (by first | rfl | exact hv.symm), hB _⟩
  have t1 : ¬ (60 : Int) < up.size := by omega
  by_cases c2 : 60 < dn.size
  · have hv : okN neg up.data.toList dn.data.toList = false := by
      have : decide (dn.data.toList.length ≤ 60) = false := by rw [ld]; simpa using c2
      simp only [okN, this, Bool.false_and, Bool.and_false]
    have t2 : (60 : Int) < dn.size := by omega
    go_enter Tryd.func34, Tryd.ntmps34
    go_wp2
    go_ret
    exact ⟨ret_bool (by first | rfl | exact hv.symm), hB _⟩
  have t2 : ¬ (60 : Int) < dn.size := by omega
  by_cases c3 : okB up.data.toList = false
  · have hv : okN neg up.data.toList dn.data.toList = false := by simp only [okN, c3, Bool.false_and, Bool.and_false]
    have C3 : Hid (okB up.data.toList = false) := c3
    clear c3 c2 c1
    go_enter Tryd.func34, Tryd.ntmps34
    go_wp2_with fail
    refine (l1DigitsOk_b up _ _ hu C3.out).mono ?_
    rintro e w' ⟨rfl, rfl⟩
    go_wp2
    go_ret
    exact ⟨ret_bool (by first | rfl | exact hv.symm), hB _⟩
  have C3 : Hid (okB up.data.toList = true) := by show okB up.data.toList = true; simpa using c3
  by_cases c4 : okB dn.data.toList = false
  · have hv : okN neg up.data.toList dn.data.toList = false := by simp only [okN, c4, Bool.false_and, Bool.and_false]
    have C4 : Hid (okB dn.data.toList = false) := c4
    clear c4 c3 c2 c1
    go_enter Tryd.func34, Tryd.ntmps34
    go_wp2_with fail
    refine (l1DigitsOk_b up _ _ hu C3.out).mono ?_
    rintro e w' ⟨rfl, rfl⟩
    go_wp2_with fail
    refine (l1DigitsOk_b dn _ _ hd C4.out).mono ?_
    rintro e w' ⟨rfl, rfl⟩
    go_wp2
    go_ret
    exact ⟨ret_bool (by first | rfl | exact hv.symm), hB _⟩
  have C4 : Hid (okB dn.data.toList = true) := by show okB dn.data.toList = true; simpa using c4
  have hbu : (up.toList == [48]) = (up.data.toList == [48]) := by rw [ByteArray.toList_eq]
  have hbd : (dn.toList == [48]) = (dn.data.toList == [48]) := by rw [ByteArray.toList_eq]
  by_cases c5 : (dn.toList == [48]) = true
  · have hv : okN neg up.data.toList dn.data.toList = false := by
      rw [hbd] at c5
      simp only [okN, c5, Bool.not_true, Bool.false_and, Bool.and_false]
    clear c4 c3 c2 c1 hbu hbd
    go_enter Tryd.func34, Tryd.ntmps34
    go_wp2_with fail
    refine (l1DigitsOk_b up _ _ hu C3.out).mono ?_
    rintro e w' ⟨rfl, rfl⟩
    go_wp2_with fail
    refine (l1DigitsOk_b dn _ _ hd C4.out).mono ?_
    rintro e w' ⟨rfl, rfl⟩
    go_wp2
    go_ret
    exact ⟨ret_bool (by first | rfl | exact hv.symm), hB _⟩
  have c5' : (dn.toList == [48]) = false := by simpa using c5
  by_cases c6 : neg = true ∧ (up.toList == [48]) = true
  · obtain ⟨rfl, c6⟩ := c6
    have hv : okN true up.data.toList dn.data.toList = false := by
      rw [hbu] at c6
      simp only [okN, c6, Bool.and_self, Bool.not_true, Bool.false_and, Bool.and_false]
    clear c5 c4 c3 c2 c1 hbu hbd
    go_enter Tryd.func34, Tryd.ntmps34
    go_wp2_with fail
    refine (l1DigitsOk_b up _ _ hu C3.out).mono ?_
    rintro e w' ⟨rfl, rfl⟩
    go_wp2_with fail
    refine (l1DigitsOk_b dn _ _ hd C4.out).mono ?_
    rintro e w' ⟨rfl, rfl⟩
    go_wp2
    go_ret
    exact ⟨ret_bool (by first | rfl | exact hv.symm), hB _⟩
  have hxu := (okB_iff _).1 C3.out
  have hxd := (okB_iff _).1 C4.out
  have HU : Hid (Dm.isDec up.data.toList (Dm.val up.data.toList)) := hxu
  have HD : Hid (Dm.isDec dn.data.toList (Dm.val dn.data.toList)) := hxd
  have hv : Hid (okN neg up.data.toList dn.data.toList = (Nat.gcd (Dm.val up.data.toList) (Dm.val dn.data.toList) == 1)) := by
    show okN neg up.data.toList dn.data.toList = _
    have e1 : decide (up.data.toList.length ≤ 60) = true := by rw [lu]; simpa using c1
    have e2 : decide (dn.data.toList.length ≤ 60) = true := by rw [ld]; simpa using c2
    have e3 : (dn.data.toList == [48]) = false := by rw [← hbd]; exact c5'
    have e4 : (neg && up.data.toList == [48]) = false := by
      rw [← hbu]
      cases neg
      · rfl
      · rw [Bool.true_and]; simpa using c6
    simp only [okN, e1, e2, C3.out, C4.out, e3, e4, Bool.not_false, Bool.and_self, Bool.true_and]
  have b1 : up.size ≤ 90000 := by omega
  have b2 : dn.size ≤ 90000 := by omega
  clear hxu hxd c5 c4 c3 c2 c1 hbu hbd lu ld
  cases neg
  · clear c6
    go_enter Tryd.func34, Tryd.ntmps34
    go_wp2_with fail
    refine (l1DigitsOk_b up _ _ hu C3.out).mono ?_
    rintro e w' ⟨rfl, rfl⟩
    go_wp2_with fail
    refine (l1DigitsOk_b dn _ _ hd C4.out).mono ?_
    rintro e w' ⟨rfl, rfl⟩
    go_wp2_with fail
    refine (l1Gcd_any up dn _ _ _ b1 b2 HU.out HD.out).mono ?_
    rintro e w1 ⟨⟨t, rfl, ht⟩, hb1⟩
    have hr := isDec_one t _ ht
    have HR : Hid ((t.toList == [49]) = (Nat.gcd (Dm.val up.data.toList) (Dm.val dn.data.toList) == 1)) := hr
    clear hr ht
    go_wp2
    go_ret
    exact ⟨ret_bool (by rw [hv.out, ← HR.out]), (hB _).trans (hb1.mono (by simp))⟩
  · have c6' : (up.toList == [48]) = false := by simpa using c6
    clear c6
    go_enter Tryd.func34, Tryd.ntmps34
    go_wp2_with fail
    refine (l1DigitsOk_b up _ _ hu C3.out).mono ?_
    rintro e w' ⟨rfl, rfl⟩
    go_wp2_with fail
    refine (l1DigitsOk_b dn _ _ hd C4.out).mono ?_
    rintro e w' ⟨rfl, rfl⟩
    go_wp2_with fail
    refine (l1Gcd_any up dn _ _ _ b1 b2 HU.out HD.out).mono ?_
    rintro e w1 ⟨⟨t, rfl, ht⟩, hb1⟩
    have hr := isDec_one t _ ht
    have HR : Hid ((t.toList == [49]) = (Nat.gcd (Dm.val up.data.toList) (Dm.val dn.data.toList) == 1)) := hr
    clear hr ht
    go_wp2
    go_ret
    exact ⟨ret_bool (by rw [hv.out, ← HR.out]), (hB _).trans (hb1.mono (by simp))⟩

end Go.Proofs.YtaggfbffdbompaaDoor
