/-
  The law: the program's NumPrint and the specification's answer alike.
-/
import Derived.Test.YtbgbbhenakjbgagPr6
import Derived.Test.YtbgbbhenakjbgagLaw0
namespace Go.Proofs.Ytbgbbhenakjbgag
set_option maxRecDepth 100000
set_option linter.unusedVariables false
set_option linter.unusedSimpArgs false
open Go.RowKit
attribute [local go_sem ↓] Go.wp_at_zero Go.wp_at_succ

set_option maxHeartbeats 1600000 in
theorem specPrint_no1 (neg : Bool) (up dn : ByteArray) (r : Int) (w : World) (hu : up.size ≤ maxLen) (hd : dn.size ≤ maxLen) (h1 : Hid (okN neg up.data.toList dn.data.toList = false)) :
    Calls Try.prog 17 #[.agg #[.bool neg, .string up, .string dn], .int .i64 r] w fun e w' => e = .returned (.string ⟨#[]⟩) ∧ Below w.heap.size w w' := by
  have hB0 : Below w.heap.size w (w.alloc (.cells #[Value.bool neg, Value.string up, Value.string dn] 34)) := (Below.refl _ _).alloc (Nat.le_refl _) _
  have HB0 : Hid _ := hB0
  clear hB0
  go_enter Try.func17, Try.ntmps17
  go_wp2_with fail
  refine (specNumOk_p _ up dn _ _ hu hd h1.out).mono ?_
  rintro e w1 ⟨rfl, hb1⟩
  have HB1 : Hid (Below w.heap.size w w1) := HB0.out.trans (hb1.mono HB0.out.size)
  clear hb1
  go_wp2
  go_ret
  exact ⟨rfl, HB1.out⟩

set_option maxHeartbeats 1600000 in
theorem specPrint_no2 (neg : Bool) (up dn : ByteArray) (r : Int) (w : World) (hu : up.size ≤ maxLen) (hd : dn.size ≤ maxLen) (h1 : Hid (okN neg up.data.toList dn.data.toList = true)) (h2 : Hid (rx r = false)) :
    Calls Try.prog 17 #[.agg #[.bool neg, .string up, .string dn], .int .i64 r] w fun e w' => e = .returned (.string ⟨#[]⟩) ∧ Below w.heap.size w w' := by
  have hB0 : Below w.heap.size w (w.alloc (.cells #[Value.bool neg, Value.string up, Value.string dn] 34)) := (Below.refl _ _).alloc (Nat.le_refl _) _
  have HB0 : Hid _ := hB0
  clear hB0
  go_enter Try.func17, Try.ntmps17
  go_wp2_with fail
  refine (specNumOk_p _ up dn _ _ hu hd h1.out).mono ?_
  rintro e w1 ⟨rfl, hb1⟩
  have HB1 : Hid (Below w.heap.size w w1) := HB0.out.trans (hb1.mono HB0.out.size)
  clear hb1
  go_wp2_with fail
  refine (l2Radix_b r _ _ h2.out).mono ?_
  rintro e w1 ⟨rfl, rfl⟩
  go_wp2
  go_ret
  exact ⟨rfl, HB1.out⟩

set_option maxHeartbeats 1600000 in
theorem implPrint_no1 (neg : Bool) (up dn : ByteArray) (r : Int) (w : World) (h2 : Hid (rx r = false)) :
    Calls Try.prog 19 #[.agg #[.bool neg, .string up, .string dn], .int .i64 r] w fun e w' => e = .returned (.string ⟨#[]⟩) ∧ Below w.heap.size w w' := by
  have hB0 : Below w.heap.size w (w.alloc (.cells #[Value.bool neg, Value.string up, Value.string dn] 34)) := (Below.refl _ _).alloc (Nat.le_refl _) _
  have HB0 : Hid _ := hB0
  clear hB0
  go_enter Try.func19, Try.ntmps19
  go_wp2_with fail
  refine (isKnown_b r _ _ h2.out).mono ?_
  rintro e w1 ⟨rfl, rfl⟩
  go_wp2
  go_ret
  exact ⟨rfl, HB0.out⟩

set_option maxHeartbeats 1600000 in
theorem implPrint_no2 (neg : Bool) (up dn : ByteArray) (r : Int) (w : World) (hu : up.size ≤ maxLen) (hd : dn.size ≤ maxLen) (h1 : Hid (okN neg up.data.toList dn.data.toList = false)) (h2 : Hid (rx r = true)) :
    Calls Try.prog 19 #[.agg #[.bool neg, .string up, .string dn], .int .i64 r] w fun e w' => e = .returned (.string ⟨#[]⟩) ∧ Below w.heap.size w w' := by
  have hB0 : Below w.heap.size w (w.alloc (.cells #[Value.bool neg, Value.string up, Value.string dn] 34)) := (Below.refl _ _).alloc (Nat.le_refl _) _
  have x0 := boxAt_new w #[Value.bool neg, Value.string up, Value.string dn] 34
  have HB0 : Hid _ := hB0
  have c00 := x0.cell 0 rfl
  have c01 := x0.cell 1 rfl
  have c02 := x0.cell 2 rfl
  clear hB0 x0
  go_enter Try.func19, Try.ntmps19
  go_wp2_with fail
  refine (isKnown_b r _ _ h2.out).mono ?_
  rintro e w1 ⟨rfl, rfl⟩
  go_wp2_with fail
  refine (implNumOk_p _ up dn _ _ hu hd h1.out).mono ?_
  rintro e w1 ⟨rfl, hb1⟩
  have HB1 : Hid (Below w.heap.size w w1) := HB0.out.trans (hb1.mono HB0.out.size)
  clear hb1
  go_wp2
  go_ret
  exact ⟨rfl, HB1.out⟩

theorem str_eq {t : ByteArray} {l : List UInt8} (h : t.data.toList = l) : t = ⟨l.toArray⟩ := by
  cases t with
  | mk d => subst h; simp

theorem bothPrint (neg : Bool) (up dn : ByteArray) (r : Int) (hu : up.size ≤ maxLen) (hd : dn.size ≤ maxLen) :
    ∃ S : ByteArray, (∀ w : World, Calls Try.prog 17 #[.agg #[.bool neg, .string up, .string dn], .int .i64 r] w fun e w' => e = .returned (.string S) ∧ Below w.heap.size w w') ∧
      (∀ w : World, Calls Try.prog 19 #[.agg #[.bool neg, .string up, .string dn], .int .i64 r] w fun e w' => e = .returned (.string S) ∧ Below w.heap.size w w') := by
  cases h1 : okN neg up.data.toList dn.data.toList
  · refine ⟨_, fun w => specPrint_no1 neg up dn r w hu hd h1, fun w => ?_⟩
    cases h2 : rx r
    · exact implPrint_no1 neg up dn r w h2
    · exact implPrint_no2 neg up dn r w hu hd h1 h2
  cases h2 : rx r
  · exact ⟨_, fun w => specPrint_no2 neg up dn r w hu hd h1 h2, fun w => implPrint_no1 neg up dn r w h2⟩
  obtain ⟨k, rfl, hk⟩ := rx_nat r h2
  refine ⟨⟨(prn neg (Dm.val up.data.toList) (Dm.val dn.data.toList) k).toArray⟩, fun w => ?_, fun w => ?_⟩
  · refine (specPrint_yes neg up dn k w hu hd h1 h2 hk.1).mono fun e w' h => ?_
    obtain ⟨⟨t, h3, h4⟩, h5⟩ := h
    rw [← str_eq h4]; exact ⟨h3, h5⟩
  · refine (implPrint_yes neg up dn k w hu hd h1 h2 hk).mono fun e w' h => ?_
    obtain ⟨⟨t, h3, h4⟩, h5⟩ := h
    rw [← str_eq h4]; exact ⟨h3, h5⟩

set_option maxHeartbeats 1600000 in
theorem lawPrint (neg : Bool) (up dn : ByteArray) (r : Int) (w : World) (hu : up.size ≤ maxLen) (hd : dn.size ≤ maxLen) :
    Calls Try.prog 5 #[.agg #[.bool neg, .string up, .string dn], .int .i64 r] w fun e w' => e = .returned (.bool true) ∧ Below w.heap.size w w' := by
  obtain ⟨S, hS, hI⟩ := bothPrint neg up dn r hu hd
  have HS : Hid _ := hS
  have HI : Hid _ := hI
  have x0 := boxAt_new w #[Value.bool neg, Value.string up, Value.string dn] 31
  have hB0 : Below w.heap.size w (w.alloc (.cells #[Value.bool neg, Value.string up, Value.string dn] 31)) := (Below.refl _ _).alloc (Nat.le_refl _) _
  have X0 : Hid (boxAt _ _ _ _) := x0
  have HB0 : Hid _ := hB0
  clear hS hI x0 hB0
  go_enter Try.func5, Try.ntmps5
  go_wp2_with fail
  refine (szNum_c neg up dn 1048576 _ (by omega) (by omega) hu hd).mono ?_
  rintro e w1 ⟨⟨z, rfl, hzl, _⟩, hb1⟩
  have HB1 : Hid (Below w.heap.size w w1) := HB0.out.trans (hb1.mono HB0.out.size)
  have X1 : Hid (boxAt w1 _ _ _) := X0.out.on hb1
  clear hb1 X0 HB0
  by_cases h0 : z < 0
  · go_wp2
    go_ret
    exact ⟨rfl, HB1.out⟩
  have k0 := X1.out.cell 0 rfl
  have k1 := X1.out.cell 1 rfl
  have k2 := X1.out.cell 2 rfl
  go_wp2_with fail
  refine (toNum_c neg up dn _).mono ?_
  rintro e w2 ⟨rfl, hb2⟩
  have HB2 : Hid (Below w.heap.size w w2) := HB1.out.trans (hb2.mono HB1.out.size)
  have X2 : Hid (boxAt w2 _ _ _) := X1.out.on hb2
  clear hb2 X1 HB1 k0 k1 k2
  go_wp2_with fail
  refine (HS.out _).mono ?_
  rintro e w3 ⟨rfl, hb3⟩
  have HB3 : Hid (Below w.heap.size w w3) := HB2.out.trans (hb3.mono HB2.out.size)
  have X3 : Hid (boxAt w3 _ _ _) := X2.out.on hb3
  clear hb3 X2 HB2
  have k0 := X3.out.cell 0 rfl
  have k1 := X3.out.cell 1 rfl
  have k2 := X3.out.cell 2 rfl
  go_wp2_with fail
  refine (toNum_c neg up dn _).mono ?_
  rintro e w4 ⟨rfl, hb4⟩
  have HB4 : Hid (Below w.heap.size w w4) := HB3.out.trans (hb4.mono HB3.out.size)
  clear hb4 X3 HB3 k0 k1 k2
  go_wp2_with fail
  refine (HI.out _).mono ?_
  rintro e w5 ⟨rfl, hb5⟩
  have HB5 : Hid (Below w.heap.size w w5) := HB4.out.trans (hb5.mono HB4.out.size)
  clear hb5
  go_wp2
  go_ret
  exact ⟨rfl, HB5.out⟩

end Go.Proofs.Ytbgbbhenakjbgag
