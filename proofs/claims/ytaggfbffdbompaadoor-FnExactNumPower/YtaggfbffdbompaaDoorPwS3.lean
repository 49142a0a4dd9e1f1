/-
  The contract of the specification's NumPower below nought.
-/
import Derived.Test.YtaggfbffdbompaaDoorPwS2
namespace Go.Proofs.YtaggfbffdbompaaDoor
set_option maxRecDepth 100000
set_option linter.unusedVariables false
set_option linter.unusedSimpArgs false
open Go.RowKit
attribute [local go_sem ↓] Go.wp_at_zero Go.wp_at_succ

set_option maxHeartbeats 800000 in
theorem sNumPower_neg (neg : Bool) (up dn : ByteArray) (k : Int) (w : World) (hu : up.size ≤ maxLen) (hd : dn.size ≤ maxLen) (u d t : Nat) (C : Bool) (U D : ByteArray) (K : Int) (HP : Hid (C = numC (neg && t % 2 == 1) (u ^ t) (d ^ t) ∧ U = numU (u ^ t) (d ^ t) ∧ D = numD (u ^ t) (d ^ t) ∧ K = numK (u ^ t) (d ^ t))) (HCOP : Hid (Nat.gcd u d = 1)) (HD0 : Hid (d ≠ 0)) (FU : Hid (fits u 7)) (FD : Hid (fits d 7)) (D1 : Hid (Dm.isDec dn.data.toList u)) (D2 : Hid (Dm.isDec up.data.toList d)) (s1 : up.size ≤ 60) (s2 : dn.size ≤ 60) (HX : Hid (okN neg dn.data.toList up.data.toList = true)) (hK : -k = (t : Int)) (ht : t ≤ 1000) (H1 : Hid (okN neg up.data.toList dn.data.toList = true)) (HK : Hid (true = decide (-1000 ≤ k ∧ k ≤ 1000))) (hk : k < 0) (hz : (up.toList == [48]) = false) : Ans 17 #[.agg #[.bool neg, .string up, .string dn], .int .i64 k] w C U D K := by
  unfold Ans
  have hw : IntKind.i64.wrap (-k) = (t : Int) := by rw [IntKind.wrap_i64]; omega
  go_enter Tryd.func17, Tryd.ntmps17
  go_wp2_with fail
  obtain ⟨V, hV, hBV, x0, x1⟩ := boxes2 w #[Value.bool neg, Value.string up, Value.string dn] #[Value.bool false, Value.string ⟨#[]⟩, Value.string ⟨#[]⟩] 25 25
  rw [← hV]
  have HBV : Hid (Below w.heap.size w V) := hBV
  have Z0 : Hid (boxAt V _ _ _) := x0
  have Z1 : Hid (boxAt V _ _ _) := x1
  clear hV hBV x0 x1
  refine (specNumOk_c neg up dn _ _ hu hd H1.out).mono ?_
  rintro e w3 ⟨rfl, hb3⟩
  have HB3 : Hid (Below w.heap.size w w3) := HBV.out.trans (hb3.mono HBV.out.size)
  have U0 : Hid (boxAt w3 _ _ _) := Z0.out.on hb3
  have U2 : Hid (boxAt w3 _ _ _) := Z1.out.on hb3
  clear hb3 Z1 Z0 HBV
  go_wp2_with fail
  refine (l1In_any k true _ HK.out).mono ?_
  rintro e w' ⟨rfl, rfl⟩
  have k0 := U0.out.cell 0 rfl
  have k1 := U0.out.cell 1 rfl
  have k2 := U0.out.cell 2 rfl
  have hl1 := U0.out.lt
  go_wp2
  obtain ⟨W, hW, hBW, x0, x1⟩ := boxes2 w' #[Value.bool neg, Value.string dn, Value.string up] #[Value.bool false, Value.string ⟨#[49]⟩, Value.string ⟨#[49]⟩] 25 25
  have hS0 : SpInv w w'.heap.size neg dn up u d 0 W := by
    obtain ⟨z0, z1, z2, z3⟩ := sp_zero u d neg
    exact ⟨U2.out.on hBW, x0, by rw [z1, z2, z3]; exact x1, z0, HB3.out.trans (hBW.mono HB3.out.size), U2.out.lt⟩
  have HS0 : Hid _ := hS0
  obtain ⟨xb, hxb⟩ : ∃ xb, xb = w'.heap.size := ⟨_, rfl⟩
  rw [← hW]
  rw [← hxb] at HS0 ⊢
  clear hW hBW x0 x1 hS0 k0 k1 k2 hl1 hxb U0 U2
  go_loopw [8] (fun a wr => ∃ i : Nat, i ≤ t ∧ a = .int .i64 i ∧ SpInv w xb neg dn up u d i wr)
    (fun a _ => t - (intOf a).toNat)
  case atStart => exact ⟨0, Nat.zero_le _, rfl, HS0.out⟩
  case round =>
    obtain ⟨i, hi, rfl, hI⟩ := hrel
    have HI : Hid _ := hI
    clear hI
    have r0 := HI.out.res.cell 0 rfl
    have r1 := HI.out.res.cell 1 rfl
    have r2 := HI.out.res.cell 2 rfl
    have fr0 := HI.out.res.frozen 0
    have fr1 := HI.out.res.frozen 1
    have fr2 := HI.out.res.frozen 2
    have y0 := HI.out.x.cell 0 rfl
    have y1 := HI.out.x.cell 1 rfl
    have y2 := HI.out.x.cell 2 rfl
    have o0 := HI.out.out.cell 0 rfl
    have o1 := HI.out.out.cell 1 rfl
    have o2 := HI.out.out.cell 2 rfl
    by_cases hlt : i < t
    · have hlt2 : (i : Int) < t := by omega
      have HM : Hid _ := sp_mul HCOP.out HD0.out HI.out.ok FU.out FD.out D1.out D2.out s2 s1 HX.out
      cases hb2 : numB (u ^ (i + 1)) (d ^ (i + 1))
      · have HN : Hid _ := numB_no HCOP.out (show i + 1 ≤ t by omega) hb2
        have hz3 : numK (u ^ (i + 1)) (d ^ (i + 1)) = 3 := (num_no (neg := false) hb2).2.2.2
        have HZ3 : Hid _ := hz3
        clear hz3
        go_wp2_with fail
        refine (sp_yes HM 3 HZ3.out _).mono ?_
        rintro e w5 ⟨⟨c1, c2, c3, rfl, hc1, hc2, hc3⟩, hb5⟩
        have HB5 : Hid _ := hb5
        have XR : Hid (boxAt w5 _ _ _) := HI.out.res.on hb5
        have HBL : Hid (Below w.heap.size w w5) := HI.out.bel.trans (hb5.mono HI.out.bel.size)
        clear hb5 r0 r1 r2 fr0 fr1 fr2 y0 y1 y2 o0 o1 o2 hb2 HZ3
        have r0 := XR.out.cell 0 rfl
        have r1 := XR.out.cell 1 rfl
        have r2 := XR.out.cell 2 rfl
        have fr0 := XR.out.frozen 0
        have fr1 := XR.out.frozen 1
        have fr2 := XR.out.frozen 2
        have hlr := XR.out.lt
        go_wp2
        simp only [bodyPost]
        obtain ⟨rfl, rfl, rfl, rfl⟩ := pw_codeN HP.out HN.out
        have e1 : w.heap.size ≤ w.heap.size + 1 := by omega
        refine ⟨trivial, _, ?_, rfl, ?_⟩
        · simp only [results, Tryd.results17]
          go_simp
        · with_reducible refine belA (belS (belS (belS HBL.out ?_) ?_) ?_) <;> exact e1
      · have hz0 : numK (u ^ (i + 1)) (d ^ (i + 1)) = 0 := num_yes hb2
        have HZ0 : Hid _ := hz0
        have HB2 : Hid (numB (u ^ (i + 1)) (d ^ (i + 1)) = true) := hb2
        clear hz0
        go_wp2_with fail
        refine (sp_yes HM 0 HZ0.out _).mono ?_
        rintro e w5 ⟨⟨c1, c2, c3, rfl, hc1, hc2, hc3⟩, hb5⟩
        have XR : Hid (boxAt w5 _ _ _) := HI.out.res.on hb5
        have XX : Hid (boxAt w5 _ _ _) := HI.out.x.on hb5
        have XO : Hid (boxAt w5 _ _ _) := HI.out.out.on hb5
        have HBL : Hid (Below w.heap.size w w5) := HI.out.bel.trans (hb5.mono HI.out.bel.size)
        clear hb5 r0 r1 r2 fr0 fr1 fr2 y0 y1 y2 o0 o1 o2 hb2 HZ0
        have r0 := XO.out.cell 0 rfl
        have r1 := XO.out.cell 1 rfl
        have r2 := XO.out.cell 2 rfl
        have fr0 := XO.out.frozen 0
        have fr1 := XO.out.frozen 1
        have fr2 := XO.out.frozen 2
        have hlr := XO.out.lt
        go_wp2
        go_roundw
        case rel =>
          have hxl := HI.out.lt
          refine ⟨i + 1, by omega, by go_num, ?_⟩
          rw [hc1.out, hc2.out, hc3.out]
          exact ⟨(((XR.out.set (by omega)).set (by omega)).set (by omega)).alloc _, (((XX.out.set (by omega)).set (by omega)).set (by omega)).alloc _, (box_set (box_set (box_set XO.out 0 _) 1 _) 2 _).alloc _, HB2.out,
            belA (belS (belS (belS HBL.out (by show _ ≤ xb + 1; omega)) (by show _ ≤ xb + 1; omega)) (by show _ ≤ xb + 1; omega)), hxl⟩
        case measure => simp [intOf]; omega
    · obtain rfl : i = t := by omega
      have hlt2 : ¬ (i : Int) < i := by omega
      have hlr := HI.out.res.lt
      go_wp2
      simp only [bodyPost]
      obtain ⟨e1, e2, e3, e4⟩ := pw_code HP.out HI.out.ok
      have e0 : w.heap.size ≤ w.heap.size + 1 := by omega
      refine ⟨trivial, .tuple #[.agg #[.bool (spC neg u d i), .string (spU u d i), .string (spD u d i)], .int .i64 0], ?_, by rw [← e1, ← e2, ← e3, ← e4], ?_⟩
      · simp only [results, Tryd.results17]
        go_simp
      · with_reducible refine belS (belS (belS HI.out.bel ?_) ?_) ?_ <;> exact e0

end Go.Proofs.YtaggfbffdbompaaDoor
