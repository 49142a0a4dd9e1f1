/-
  The law: the program's ExpAlpha and the specification's answer alike, and leave what was handed in as it was.
-/
import Derived.Test.YtooeapjlfmknfaaTrI6
import Derived.Test.YtooeapjlfmknfaaTrSz
import Derived.Test.YtooeapjlfmknfaaTrTo
import Derived.Test.YtooeapjlfmknfaaTrEq
import Derived.Test.YtooeapjlfmknfaaTrSp3
namespace Go.Proofs.Ytooeapjlfmknfaa.Tr
set_option maxRecDepth 100000
set_option linter.unusedVariables false
set_option linter.unusedSimpArgs false
open Go.RowKit Go.Deep
attribute [local go_sem ↓] Go.wp_at_zero Go.wp_at_succ

set_option maxHeartbeats 4000000 in
theorem lawExpAlpha (xs ys : List T) (ax : Option Addr) (cx : Nat) (ay : Option Addr) (cy : Nat) (w : World) (hL : Lies w 0 (.slice ax xs.length cx) xs) (hL2 : Lies w 0 (.slice ay ys.length cy) ys) (hs : Sane xs) (hs2 : Sane ys) :
    Calls Try.prog 3 #[.slice ax xs.length cx, .slice ay ys.length cy] w fun e w' => e = .returned (.bool true) ∧ Below w.heap.size w w' := by
  have HL : Hid (Lies w 0 (.slice ax xs.length cx) xs) := hL
  have HL2 : Hid (Lies w 0 (.slice ay ys.length cy) ys) := hL2
  have HS : Hid (Sane xs) := hs
  have HS2 : Hid (Sane ys) := hs2
  clear hL hL2 hs hs2
  go_enter Try.func3, Try.ntmps3
  go_wp2_with fail
  refine (szExpCoreS_any xs HS.out ax cx 1048576 _ 0 HL.out (by omega) (by omega)).mono ?_
  rintro e w1 ⟨rfl, hb1⟩
  have HB1 : Hid (Below w.heap.size w w1) := hb1
  clear hb1
  by_cases h1 : (1048576 : Int) < wts xs
  · have e2 : szR 1048576 (wts xs) = -1 := by unfold szR; rw [if_neg (by omega)]
    rw [e2]
    go_wp2
    go_ret
    exact ⟨rfl, HB1.out⟩
  rw [szR_pos (by omega)]
  go_wp2_with fail
  refine (szExpCoreS_any ys HS2.out ay cy (1048576 - wts xs) _ 0 (Lies.on HL2.out (Stays.below HB1.out 0)) (by omega) (by omega)).mono ?_
  rintro e w2 ⟨rfl, hb2⟩
  have HB2 : Hid (Below w.heap.size w w2) := bel_go HB1.out hb2
  clear hb2 HB1
  by_cases h2 : (1048576 : Int) - wts xs < wts ys
  · have e2 : szR (1048576 - wts xs) (wts ys) = -1 := by unfold szR; rw [if_neg (by omega)]
    rw [e2]
    go_wp2
    go_ret
    exact ⟨rfl, HB2.out⟩
  rw [szR_pos (by omega)]
  have wx : wts xs ≤ 1048576 := by omega
  have wy : wts ys ≤ 1048576 := by omega
  have hpos : ¬ ((1048576 : Int) - wts xs - wts ys < 0) := by omega
  have WX : Hid (wts xs ≤ 1048576) := wx
  have WY : Hid (wts ys ≤ 1048576) := wy
  clear wx wy h1 h2
  go_wp2_with fail
  refine (toExpCoreS_any _ xs (Nat.lt_succ_self _) ax cx _ 0 (Lies.on HL.out (Stays.below HB2.out 0)) WX.out).mono ?_
  rintro e w3 ⟨⟨a3, c3, rfl, hl3⟩, hb3⟩
  have HB3 : Hid (Below w.heap.size w w3) := bel_go HB2.out hb3
  have HA3 : Hid (Lies w3 0 (.slice a3 xs.length c3) xs) := hl3.mono (Nat.zero_le _)
  clear hl3 hb3 HB2
  go_wp2_with fail
  refine (toExpCoreS_any _ ys (Nat.lt_succ_self _) ay cy _ 0 (Lies.on HL2.out (Stays.below HB3.out 0)) WY.out).mono ?_
  rintro e w4 ⟨⟨a4, c4, rfl, hl4⟩, hb4⟩
  have HB4 : Hid (Below w.heap.size w w4) := bel_go HB3.out hb4
  have HA4 : Hid (Lies w4 0 (.slice a3 xs.length c3) xs) := Lies.on HA3.out (Stays.below hb4 0)
  have HY4 : Hid (Lies w4 0 (.slice a4 ys.length c4) ys) := hl4.mono (Nat.zero_le _)
  clear hl4 hb4 HB3 HA3
  go_wp2_with fail
  refine (sExpAlpha_any xs ys a3 c3 a4 c4 _ 0 0 HA4.out HY4.out WX.out).mono ?_
  rintro e w5 ⟨rfl, hb5⟩
  obtain ⟨R, hR⟩ : ∃ R, alphaTop xs ys = R := ⟨_, rfl⟩
  have HR : Hid (alphaTop xs ys = R) := hR
  rw [hR]
  have HB5 : Hid (Below w.heap.size w w5) := bel_go HB4.out hb5
  clear hb5 HB4 HA4 HY4 hR
  go_wp2_with fail
  refine (toExpCoreS_any _ xs (Nat.lt_succ_self _) ax cx _ 0 (Lies.on HL.out (Stays.below HB5.out 0)) WX.out).mono ?_
  rintro e w6 ⟨⟨a6, c6, rfl, hl6⟩, hb6⟩
  have HB6 : Hid (Below w.heap.size w w6) := bel_go HB5.out hb6
  have HA6 : Hid (Lies w6 0 (.slice a6 xs.length c6) xs) := hl6.mono (Nat.zero_le _)
  clear hl6 hb6 HB5
  go_wp2_with fail
  refine (toExpCoreS_any _ ys (Nat.lt_succ_self _) ay cy _ 0 (Lies.on HL2.out (Stays.below HB6.out 0)) WY.out).mono ?_
  rintro e w7 ⟨⟨a7, c7, rfl, hl7⟩, hb7⟩
  have HB7 : Hid (Below w.heap.size w w7) := bel_go HB6.out hb7
  have HA7 : Hid (Lies w7 0 (.slice a6 xs.length c6) xs) := Lies.on HA6.out (Stays.below hb7 0)
  have HY7 : Hid (Lies w7 0 (.slice a7 ys.length c7) ys) := hl7.mono (Nat.zero_le _)
  clear hl7 hb7 HB6 HA6
  go_wp2_with fail
  refine (iExpAlpha_any xs ys a6 c6 a7 c7 _ HA7.out HY7.out WX.out WY.out).mono ?_
  rintro e w8 ⟨rfl, hb8⟩
  rw [HR.out]
  have HB8 : Hid (Below w.heap.size w w8) := bel_go HB7.out hb8
  have HA8 : Hid (Lies w8 0 (.slice a6 xs.length c6) xs) := Lies.on HA7.out (Stays.below hb8 0)
  have HY8 : Hid (Lies w8 0 (.slice a7 ys.length c7) ys) := Lies.on HY7.out (Stays.below hb8 0)
  clear hb8 HB7 HA7 HY7 HR
  have hRR : (R != R) = false := bne_self_eq_false R
  go_wp2_with fail
  refine (toExpCoreS_any _ xs (Nat.lt_succ_self _) ax cx _ 0 (Lies.on HL.out (Stays.below HB8.out 0)) WX.out).mono ?_
  rintro e w9 ⟨⟨a9, c9, rfl, hl9⟩, hb9⟩
  have HB9 : Hid (Below w.heap.size w w9) := bel_go HB8.out hb9
  have HA9 : Hid (Lies w9 0 (.slice a6 xs.length c6) xs) := Lies.on HA8.out (Stays.below hb9 0)
  have HY9 : Hid (Lies w9 0 (.slice a7 ys.length c7) ys) := Lies.on HY8.out (Stays.below hb9 0)
  have HC9 : Hid (Lies w9 0 (.slice a9 xs.length c9) xs) := hl9.mono (Nat.zero_le _)
  clear hl9 hb9 HB8 HA8 HY8
  go_wp2_with fail
  refine (eqExpCoreS_any _ xs (Nat.lt_succ_self _) a6 c6 a9 c9 _ 0 0 HA9.out HC9.out WX.out).mono ?_
  rintro e w10 ⟨rfl, hb10⟩
  have HB10 : Hid (Below w.heap.size w w10) := bel_go HB9.out hb10
  have HY10 : Hid (Lies w10 0 (.slice a7 ys.length c7) ys) := Lies.on HY9.out (Stays.below hb10 0)
  clear hb10 HB9 HA9 HY9 HC9
  go_wp2_with fail
  refine (toExpCoreS_any _ ys (Nat.lt_succ_self _) ay cy _ 0 (Lies.on HL2.out (Stays.below HB10.out 0)) WY.out).mono ?_
  rintro e w11 ⟨⟨a11, c11, rfl, hl11⟩, hb11⟩
  have HB11 : Hid (Below w.heap.size w w11) := bel_go HB10.out hb11
  have HY11 : Hid (Lies w11 0 (.slice a7 ys.length c7) ys) := Lies.on HY10.out (Stays.below hb11 0)
  have HC11 : Hid (Lies w11 0 (.slice a11 ys.length c11) ys) := hl11.mono (Nat.zero_le _)
  clear hl11 hb11 HB10 HY10
  go_wp2_with fail
  refine (eqExpCoreS_any _ ys (Nat.lt_succ_self _) a7 c7 a11 c11 _ 0 0 HY11.out HC11.out WY.out).mono ?_
  rintro e w12 ⟨rfl, hb12⟩
  have HB12 : Hid (Below w.heap.size w w12) := bel_go HB11.out hb12
  clear hb12 HB11 HY11 HC11
  go_wp2
  go_ret
  exact ⟨rfl, HB12.out⟩

end Go.Proofs.Ytooeapjlfmknfaa.Tr
