/-
  The contract of the specification's NumParse.
-/
import Derived.Test.YtgckhkddjckfaagDoorPa4
namespace Go.Proofs.YtgckhkddjckfaagDoor
set_option maxRecDepth 100000
set_option linter.unusedVariables false
set_option linter.unusedSimpArgs false
open Go.RowKit
attribute [local go_sem ↓] Go.wp_at_zero Go.wp_at_succ

/-- What stands behind a sign: digits over digits, or with a point, or digits alone. -/
def pBody (r : Nat) (l : List UInt8) : Option (Nat × Nat) :=
  if 0 ≤ Lib.indexByte l 47 then ovr r (l.take (Lib.indexByte l 47).toNat) (l.drop ((Lib.indexByte l 47).toNat + 1))
  else if 0 ≤ Lib.indexByte l 46 ∧ r = 10 then pnt (l.take (Lib.indexByte l 46).toNat) (l.drop ((Lib.indexByte l 46).toNat + 1))
  else if okR r l then some (rv r l, 1) else none

theorem find_lt (s : ByteArray) (c : UInt8) (h : 0 ≤ Lib.indexByte s.data.toList c) : ∃ i : Nat, Lib.indexByte s.data.toList c = (i : Int) ∧ i < s.size := by
  obtain ⟨i, hi⟩ : ∃ i : Nat, Lib.indexByte s.data.toList c = (i : Int) := ⟨(Lib.indexByte s.data.toList c).toNat, by omega⟩
  refine ⟨i, hi, ?_⟩
  have h1 := (Lib.indexByte_some hi).1
  have h2 := (List.getElem?_eq_some_iff.1 h1).1
  simpa using h2

theorem find_no (l : List UInt8) (c : UInt8) (h : ¬ 0 ≤ Lib.indexByte l c) : Lib.indexByte l c = -1 := by
  have := Lib.indexByte_ge l c
  omega

theorem pBody_over (r : Nat) (l : List UInt8) (i : Nat) (h : Lib.indexByte l 47 = (i : Int)) : pBody r l = ovr r (l.take i) (l.drop (i + 1)) := by
  unfold pBody; rw [if_pos (by omega), h]; rfl

theorem pBody_point (l : List UInt8) (i : Nat) (h0 : ¬ 0 ≤ Lib.indexByte l 47) (h : Lib.indexByte l 46 = (i : Int)) : pBody 10 l = pnt (l.take i) (l.drop (i + 1)) := by
  unfold pBody; rw [if_neg h0, if_pos ⟨by omega, rfl⟩, h]; rfl

theorem pBody_plain (r : Nat) (l : List UInt8) (h0 : ¬ 0 ≤ Lib.indexByte l 47) (h : ¬ (0 ≤ Lib.indexByte l 46 ∧ r = 10)) : pBody r l = if okR r l then some (rv r l, 1) else none := by
  unfold pBody; rw [if_neg h0, if_neg h]

theorem rx_known (r : Int) (h : rx r = true) : ∃ R : Nat, r = (R : Int) ∧ 2 ≤ R ∧ R ≤ 16 := by
  unfold rx at h
  simp only [Bool.or_eq_true, beq_iff_eq] at h
  rcases h with ((h | h) | h) | h
  · exact ⟨2, by omega, by omega, by omega⟩
  · exact ⟨8, by omega, by omega, by omega⟩
  · exact ⟨10, by omega, by omega, by omega⟩
  · exact ⟨16, by omega, by omega, by omega⟩

/-- A new box. -/

theorem boxN (w : World) (cs : Array Value) (t : Nat) : ∃ V, V = w.alloc (Obj.cells cs t) ∧ Below w.heap.size w V ∧ boxAt V w.heap.size cs t :=
  ⟨_, rfl, (Below.refl _ _).alloc (Nat.le_refl _) _, boxAt_new _ _ _⟩

set_option maxHeartbeats 800000 in
theorem sParse_no (text : ByteArray) (r : Int) (w : World) (h : rx r = false) :
    Calls Tryd.prog 4 #[.string text, .int .i64 r] w fun e w' => e = .returned (.tuple #[.agg #[.bool false, .string ⟨#[]⟩, .string ⟨#[]⟩], .bool false]) ∧ Below w.heap.size w w' := by
  go_enter Tryd.func4, Tryd.ntmps4
  go_wp2_with fail
  obtain ⟨V, hV, hBV, x0⟩ := boxN w #[Value.bool false, Value.string ⟨#[]⟩, Value.string ⟨#[]⟩] 23
  rw [← hV]
  have HBV : Hid (Below w.heap.size w V) := hBV
  have X0 : Hid (boxAt V _ _ _) := x0
  clear hV hBV x0
  refine (l2Radix_any _ _).mono ?_
  rintro e w1 ⟨rfl, rfl⟩
  rw [h]
  have q0 := X0.out.cell 0 rfl
  have f0 := X0.out.frozen 0
  have q1 := X0.out.cell 1 rfl
  have f1 := X0.out.frozen 1
  have q2 := X0.out.cell 2 rfl
  have f2 := X0.out.frozen 2
  have hlt := X0.out.lt
  go_wp2
  simp only [bodyPost]
  refine ⟨trivial, _, ?_, rfl, ?_⟩
  · simp only [results, Tryd.results4]
    go_simp
  · (repeat' first | (with_reducible exact HBV.out) | (with_reducible refine belA3 ?_) | (with_reducible refine belS3 ?_ ?_) | (dsimp only; omega))

set_option maxHeartbeats 800000 in
theorem sParse_long (text : ByteArray) (r : Int) (w : World) (h : rx r = true) (hz : (240 : Int) < (text.size : Int)) :
    Calls Tryd.prog 4 #[.string text, .int .i64 r] w fun e w' => e = .returned (.tuple #[.agg #[.bool false, .string ⟨#[]⟩, .string ⟨#[]⟩], .bool false]) ∧ Below w.heap.size w w' := by
  go_enter Tryd.func4, Tryd.ntmps4
  go_wp2_with fail
  obtain ⟨V, hV, hBV, x0⟩ := boxN w #[Value.bool false, Value.string ⟨#[]⟩, Value.string ⟨#[]⟩] 23
  rw [← hV]
  have HBV : Hid (Below w.heap.size w V) := hBV
  have X0 : Hid (boxAt V _ _ _) := x0
  clear hV hBV x0
  refine (l2Radix_any _ _).mono ?_
  rintro e w1 ⟨rfl, rfl⟩
  rw [h]
  have q0 := X0.out.cell 0 rfl
  have f0 := X0.out.frozen 0
  have q1 := X0.out.cell 1 rfl
  have f1 := X0.out.frozen 1
  have q2 := X0.out.cell 2 rfl
  have f2 := X0.out.frozen 2
  have hlt := X0.out.lt
  go_wp2
  simp only [bodyPost]
  refine ⟨trivial, _, ?_, rfl, ?_⟩
  · simp only [results, Tryd.results4]
    go_simp
  · (repeat' first | (with_reducible exact HBV.out) | (with_reducible refine belA3 ?_) | (with_reducible refine belS3 ?_ ?_) | (dsimp only; omega))

set_option maxHeartbeats 1000000 in
theorem sParse_empty (text : ByteArray) (r : Int) (R : Nat) (w : World) (h : rx r = true) (hr : r = (R : Int)) (hr1 : 2 ≤ R) (hr2 : R ≤ 16) (hz : ¬ (240 : Int) < (text.size : Int)) (h0 : text.size = 0) :
    Calls Tryd.prog 4 #[.string text, .int .i64 r] w fun e w' => e = pAns false (pBody R (text).data.toList) ∧ Below w.heap.size w w' := by
  subst hr
  have hSz : text.size ≤ 240 := by omega
  obtain ⟨C, U, D, B, hA⟩ : ∃ C U D B, pAns false (pBody R text.data.toList) = .returned (.tuple #[.agg #[.bool C, .string U, .string D], .bool B]) := ⟨_, _, _, _, rfl⟩
  rw [hA]
  have HA : Hid (pAns false (pBody R text.data.toList) = .returned (.tuple #[.agg #[.bool C, .string U, .string D], .bool B])) := hA
  have g0 : ¬ (0 : Int) < (text.size : Int) := by omega
  clear hA
  go_enter Tryd.func4, Tryd.ntmps4
  go_wp2_with fail
  obtain ⟨V, hV, hBV, x0⟩ := boxN w #[Value.bool false, Value.string ⟨#[]⟩, Value.string ⟨#[]⟩] 23
  rw [← hV]
  have HBV : Hid (Below w.heap.size w V) := hBV
  have X0 : Hid (boxAt V _ _ _) := x0
  clear hV hBV x0
  refine (l2Radix_any _ _).mono ?_
  rintro e w1 ⟨rfl, rfl⟩
  rw [h]
  go_wp2_with fail
  refine (l2Find_any text 47 _ (by omega)).mono ?_
  rintro e w1 ⟨rfl, rfl⟩
  by_cases hc : 0 ≤ Lib.indexByte text.data.toList 47
  · obtain ⟨i, hi, hil⟩ := find_lt text 47 hc
    omega
  have hm := find_no _ _ hc
  rw [hm]
  go_wp2_with fail
  refine (l2Find_any text 46 _ (by omega)).mono ?_
  rintro e w1 ⟨rfl, rfl⟩
  by_cases hd : 0 ≤ Lib.indexByte text.data.toList 46 ∧ R = 10
  · obtain ⟨i, hi, hil⟩ := find_lt text 46 hd.1
    omega
  have HE : Hid (pAns false (if okR R text.data.toList then some (rv R text.data.toList, 1) else none) = .returned (.tuple #[.agg #[.bool C, .string U, .string D], .bool B])) := by
    show _ = _; rw [← HA.out, pBody_plain R _ (by omega) hd]
  obtain ⟨x, hx⟩ : ∃ x, x = Lib.indexByte text.data.toList 46 := ⟨_, rfl⟩
  rw [← hx] at hd ⊢
  clear hc hm HA hx
  have H1 : Hid (Dm.isDec (ByteArray.mk #[49]).data.toList 1) := by
    refine ⟨by simp, ?_, rfl, by simp⟩
    intro c hc; simp at hc; subst hc; exact ⟨by decide, by decide⟩
  by_cases hx0 : 0 ≤ x
  · have hR : ¬ (R : Int) = 10 := by intro e; exact hd ⟨hx0, by omega⟩
    have hR2 : ((R : Int) == 10) = false := beq_eq_false_iff_ne.2 hR
    clear hd
    go_wp2_with fail
    refine (l2Nat_any R text _ hr1 hr2 (by omega)).mono ?_
    rintro e w2 ⟨⟨t, ok, rfl, hk, hdd⟩, hb2⟩
    have HB2 : Hid (Below w.heap.size w w2) := HBV.out.trans (hb2.mono HBV.out.size)
    have X2 : Hid (boxAt w2 _ _ _) := X0.out.on hb2
    clear hb2 X0 HBV
    cases ok
    · have hz0 : Hid (C = false ∧ U = ⟨#[]⟩ ∧ D = ⟨#[]⟩ ∧ B = false) := by
        have e := HE.out
        rw [← hk.out] at e
        have e := e.symm
        injection e with e1
        injection e1 with e2
        simp at e2
        exact ⟨e2.1.1, e2.1.2.1, e2.1.2.2, e2.2⟩
      obtain ⟨hC, hU, hD, hB⟩ := hz0.out
      clear hz0 HE hk hdd
      subst hC hU hD hB
      have q0 := X2.out.cell 0 rfl
      have f0 := X2.out.frozen 0
      have q1 := X2.out.cell 1 rfl
      have f1 := X2.out.frozen 1
      have q2 := X2.out.cell 2 rfl
      have f2 := X2.out.frozen 2
      have hlt := X2.out.lt
      go_wp2
      simp only [bodyPost]
      refine ⟨trivial, _, ?_, rfl, ?_⟩
      · simp only [results, Tryd.results4]
        go_simp
      · (repeat' first | (with_reducible exact HB2.out) | (with_reducible refine belA3 ?_) | (with_reducible refine belS3 ?_ ?_) | (dsimp only; omega))
    · have k1 := hk.out.symm
      have F1 := rv_fits R text hr1 hr2 (by omega) k1
      have HO : Hid (pAns false (some (rv R text.data.toList, 1)) = .returned (.tuple #[.agg #[.bool C, .string U, .string D], .bool B])) := by
        show _ = _
        rw [← HE.out]; simp only [k1, if_true]
      have G1 : Hid (Dm.isDec t.data.toList (rv R text.data.toList)) := hdd.out rfl
      have F2 : fits 1 8000 := pow_fits 0 (by omega)
      clear HE hk hdd k1
      go_wp2_with fail
      refine (l2Make_o false t ⟨#[49]⟩ _ 1 _ G1.out H1.out F1 F2).mono ?_
      rintro e w3 ⟨he, hb3⟩
      rw [HO.out] at he
      subst he
      have HB3 : Hid (Below w.heap.size w w3) := HB2.out.trans (hb3.mono HB2.out.size)
      have X3 : Hid (boxAt w3 _ _ _) := X2.out.on hb3
      clear hb3 X2 HB2 HO G1 F1 F2
      have q0 := X3.out.cell 0 rfl
      have f0 := X3.out.frozen 0
      have q1 := X3.out.cell 1 rfl
      have f1 := X3.out.frozen 1
      have q2 := X3.out.cell 2 rfl
      have f2 := X3.out.frozen 2
      have hlt := X3.out.lt
      go_wp2
      simp only [bodyPost]
      refine ⟨trivial, _, ?_, rfl, ?_⟩
      · simp only [results, Tryd.results4]
        go_simp
      · (repeat' first | (with_reducible exact HB3.out) | (with_reducible refine belA3 ?_) | (with_reducible refine belS3 ?_ ?_) | (dsimp only; omega))
  · clear hd
    go_wp2_with fail
    refine (l2Nat_any R text _ hr1 hr2 (by omega)).mono ?_
    rintro e w2 ⟨⟨t, ok, rfl, hk, hdd⟩, hb2⟩
    have HB2 : Hid (Below w.heap.size w w2) := HBV.out.trans (hb2.mono HBV.out.size)
    have X2 : Hid (boxAt w2 _ _ _) := X0.out.on hb2
    clear hb2 X0 HBV
    cases ok
    · have hz0 : Hid (C = false ∧ U = ⟨#[]⟩ ∧ D = ⟨#[]⟩ ∧ B = false) := by
        have e := HE.out
        rw [← hk.out] at e
        have e := e.symm
        injection e with e1
        injection e1 with e2
        simp at e2
        exact ⟨e2.1.1, e2.1.2.1, e2.1.2.2, e2.2⟩
      obtain ⟨hC, hU, hD, hB⟩ := hz0.out
      clear hz0 HE hk hdd
      subst hC hU hD hB
      have q0 := X2.out.cell 0 rfl
      have f0 := X2.out.frozen 0
      have q1 := X2.out.cell 1 rfl
      have f1 := X2.out.frozen 1
      have q2 := X2.out.cell 2 rfl
      have f2 := X2.out.frozen 2
      have hlt := X2.out.lt
      go_wp2
      simp only [bodyPost]
      refine ⟨trivial, _, ?_, rfl, ?_⟩
      · simp only [results, Tryd.results4]
        go_simp
      · (repeat' first | (with_reducible exact HB2.out) | (with_reducible refine belA3 ?_) | (with_reducible refine belS3 ?_ ?_) | (dsimp only; omega))
    · have k1 := hk.out.symm
      have F1 := rv_fits R text hr1 hr2 (by omega) k1
      have HO : Hid (pAns false (some (rv R text.data.toList, 1)) = .returned (.tuple #[.agg #[.bool C, .string U, .string D], .bool B])) := by
        show _ = _
        rw [← HE.out]; simp only [k1, if_true]
      have G1 : Hid (Dm.isDec t.data.toList (rv R text.data.toList)) := hdd.out rfl
      have F2 : fits 1 8000 := pow_fits 0 (by omega)
      clear HE hk hdd k1
      go_wp2_with fail
      refine (l2Make_o false t ⟨#[49]⟩ _ 1 _ G1.out H1.out F1 F2).mono ?_
      rintro e w3 ⟨he, hb3⟩
      rw [HO.out] at he
      subst he
      have HB3 : Hid (Below w.heap.size w w3) := HB2.out.trans (hb3.mono HB2.out.size)
      have X3 : Hid (boxAt w3 _ _ _) := X2.out.on hb3
      clear hb3 X2 HB2 HO G1 F1 F2
      have q0 := X3.out.cell 0 rfl
      have f0 := X3.out.frozen 0
      have q1 := X3.out.cell 1 rfl
      have f1 := X3.out.frozen 1
      have q2 := X3.out.cell 2 rfl
      have f2 := X3.out.frozen 2
      have hlt := X3.out.lt
      go_wp2
      simp only [bodyPost]
      refine ⟨trivial, _, ?_, rfl, ?_⟩
      · simp only [results, Tryd.results4]
        go_simp
      · (repeat' first | (with_reducible exact HB3.out) | (with_reducible refine belA3 ?_) | (with_reducible refine belS3 ?_ ?_) | (dsimp only; omega))

set_option maxHeartbeats 1000000 in
theorem sParse_minus (text : ByteArray) (r : Int) (R : Nat) (w : World) (h : rx r = true) (hr : r = (R : Int)) (hr1 : 2 ≤ R) (hr2 : R ≤ 16) (hz : ¬ (240 : Int) < (text.size : Int)) (h0 : 0 < text.size) (h1 : (text[0]'h0).toNat = 45) :
    Calls Tryd.prog 4 #[.string text, .int .i64 r] w fun e w' => e = pAns true (pBody R (text.extract 1 text.size).data.toList) ∧ Below w.heap.size w w' := by
  subst hr
  obtain ⟨S, hS⟩ : ∃ S : ByteArray, S = text.extract 1 text.size := ⟨_, rfl⟩
  have hSz : S.size ≤ 240 := by
    have := ext_size text 1 text.size
    rw [hS]; omega
  have HS : Hid (S = text.extract 1 text.size) := hS
  rw [← hS]
  obtain ⟨C, U, D, B, hA⟩ : ∃ C U D B, pAns true (pBody R S.data.toList) = .returned (.tuple #[.agg #[.bool C, .string U, .string D], .bool B]) := ⟨_, _, _, _, rfl⟩
  rw [hA]
  have HA : Hid (pAns true (pBody R S.data.toList) = .returned (.tuple #[.agg #[.bool C, .string U, .string D], .bool B])) := hA
  have g0 : (0 : Int) < (text.size : Int) := by omega
  have g1 : (((text[0]'h0).toNat : Int) == 45) = true := by rw [h1]; rfl
  have g2 : (1 : Int) ≤ (text.size : Int) := by omega
  clear hS hA
  go_enter Tryd.func4, Tryd.ntmps4
  go_wp2_with fail
  obtain ⟨V, hV, hBV, x0⟩ := boxN w #[Value.bool false, Value.string ⟨#[]⟩, Value.string ⟨#[]⟩] 23
  rw [← hV]
  have HBV : Hid (Below w.heap.size w V) := hBV
  have X0 : Hid (boxAt V _ _ _) := x0
  clear hV hBV x0
  refine (l2Radix_any _ _).mono ?_
  rintro e w1 ⟨rfl, rfl⟩
  rw [h]
  go_wp2_with fail
  rw [← HS.out]
  refine (l2Find_any S 47 _ (by omega)).mono ?_
  rintro e w1 ⟨rfl, rfl⟩
  by_cases hc : 0 ≤ Lib.indexByte S.data.toList 47
  · obtain ⟨i, hi, hil⟩ := find_lt S 47 hc
    rw [hi]
    have hin : (0 : Int) ≤ (i : Int) := by omega
    have HE : Hid (pAns true (ovr R (S.data.toList.take i) (S.data.toList.drop (i + 1))) = .returned (.tuple #[.agg #[.bool C, .string U, .string D], .bool B])) := by
      show _ = _; rw [← HA.out, pBody_over R _ i hi]
    clear hc hi HA
    go_wp2_with fail
    refine (l2Over_any true S i R _ hil (by omega) hr1 hr2).mono ?_
    rintro e w3 ⟨he, hb3⟩
    rw [HE.out] at he
    subst he
    have HB3 : Hid (Below w.heap.size w w3) := HBV.out.trans (hb3.mono HBV.out.size)
    have X3 : Hid (boxAt w3 _ _ _) := X0.out.on hb3
    clear hb3 X0 HBV HE
    have q0 := X3.out.cell 0 rfl
    have f0 := X3.out.frozen 0
    have q1 := X3.out.cell 1 rfl
    have f1 := X3.out.frozen 1
    have q2 := X3.out.cell 2 rfl
    have f2 := X3.out.frozen 2
    have hlt := X3.out.lt
    go_wp2
    simp only [bodyPost]
    refine ⟨trivial, _, ?_, rfl, ?_⟩
    · simp only [results, Tryd.results4]
      go_simp
    · (repeat' first | (with_reducible exact HB3.out) | (with_reducible refine belA3 ?_) | (with_reducible refine belS3 ?_ ?_) | (dsimp only; omega))
  have hm := find_no _ _ hc
  rw [hm]
  go_wp2_with fail
  refine (l2Find_any S 46 _ (by omega)).mono ?_
  rintro e w1 ⟨rfl, rfl⟩
  by_cases hd : 0 ≤ Lib.indexByte S.data.toList 46 ∧ R = 10
  · obtain ⟨hd1, rfl⟩ := hd
    obtain ⟨i, hi, hil⟩ := find_lt S 46 hd1
    rw [hi]
    have hin : (0 : Int) ≤ (i : Int) := by omega
    have HE : Hid (pAns true (pnt (S.data.toList.take i) (S.data.toList.drop (i + 1))) = .returned (.tuple #[.agg #[.bool C, .string U, .string D], .bool B])) := by
      show _ = _; rw [← HA.out, pBody_point _ i (by omega) hi]
    clear hc hm hi hd1 HA
    go_wp2_with fail
    refine (l2Point_any true S i _ hil (by omega)).mono ?_
    rintro e w3 ⟨he, hb3⟩
    rw [HE.out] at he
    subst he
    have HB3 : Hid (Below w.heap.size w w3) := HBV.out.trans (hb3.mono HBV.out.size)
    have X3 : Hid (boxAt w3 _ _ _) := X0.out.on hb3
    clear hb3 X0 HBV HE
    have q0 := X3.out.cell 0 rfl
    have f0 := X3.out.frozen 0
    have q1 := X3.out.cell 1 rfl
    have f1 := X3.out.frozen 1
    have q2 := X3.out.cell 2 rfl
    have f2 := X3.out.frozen 2
    have hlt := X3.out.lt
    go_wp2
    simp only [bodyPost]
    refine ⟨trivial, _, ?_, rfl, ?_⟩
    · simp only [results, Tryd.results4]
      go_simp
    · (repeat' first | (with_reducible exact HB3.out) | (with_reducible refine belA3 ?_) | (with_reducible refine belS3 ?_ ?_) | (dsimp only; omega))
  have HE : Hid (pAns true (if okR R S.data.toList then some (rv R S.data.toList, 1) else none) = .returned (.tuple #[.agg #[.bool C, .string U, .string D], .bool B])) := by
    show _ = _; rw [← HA.out, pBody_plain R _ (by omega) hd]
  obtain ⟨x, hx⟩ : ∃ x, x = Lib.indexByte S.data.toList 46 := ⟨_, rfl⟩
  rw [← hx] at hd ⊢
  clear hc hm HA hx
  have H1 : Hid (Dm.isDec (ByteArray.mk #[49]).data.toList 1) := by
    refine ⟨by simp, ?_, rfl, by simp⟩
    intro c hc; simp at hc; subst hc; exact ⟨by decide, by decide⟩
  by_cases hx0 : 0 ≤ x
  · have hR : ¬ (R : Int) = 10 := by intro e; exact hd ⟨hx0, by omega⟩
    have hR2 : ((R : Int) == 10) = false := beq_eq_false_iff_ne.2 hR
    clear hd
    go_wp2_with fail
    refine (l2Nat_any R S _ hr1 hr2 (by omega)).mono ?_
    rintro e w2 ⟨⟨t, ok, rfl, hk, hdd⟩, hb2⟩
    have HB2 : Hid (Below w.heap.size w w2) := HBV.out.trans (hb2.mono HBV.out.size)
    have X2 : Hid (boxAt w2 _ _ _) := X0.out.on hb2
    clear hb2 X0 HBV
    cases ok
    · have hz0 : Hid (C = false ∧ U = ⟨#[]⟩ ∧ D = ⟨#[]⟩ ∧ B = false) := by
        have e := HE.out
        rw [← hk.out] at e
        have e := e.symm
        injection e with e1
        injection e1 with e2
        simp at e2
        exact ⟨e2.1.1, e2.1.2.1, e2.1.2.2, e2.2⟩
      obtain ⟨hC, hU, hD, hB⟩ := hz0.out
      clear hz0 HE hk hdd
      subst hC hU hD hB
      have q0 := X2.out.cell 0 rfl
      have f0 := X2.out.frozen 0
      have q1 := X2.out.cell 1 rfl
      have f1 := X2.out.frozen 1
      have q2 := X2.out.cell 2 rfl
      have f2 := X2.out.frozen 2
      have hlt := X2.out.lt
      go_wp2
      simp only [bodyPost]
      refine ⟨trivial, _, ?_, rfl, ?_⟩
      · simp only [results, Tryd.results4]
        go_simp
      · (repeat' first | (with_reducible exact HB2.out) | (with_reducible refine belA3 ?_) | (with_reducible refine belS3 ?_ ?_) | (dsimp only; omega))
    · have k1 := hk.out.symm
      have F1 := rv_fits R S hr1 hr2 (by omega) k1
      have HO : Hid (pAns true (some (rv R S.data.toList, 1)) = .returned (.tuple #[.agg #[.bool C, .string U, .string D], .bool B])) := by
        show _ = _
        rw [← HE.out]; simp only [k1, if_true]
      have G1 : Hid (Dm.isDec t.data.toList (rv R S.data.toList)) := hdd.out rfl
      have F2 : fits 1 8000 := pow_fits 0 (by omega)
      clear HE hk hdd k1
      go_wp2_with fail
      refine (l2Make_o true t ⟨#[49]⟩ _ 1 _ G1.out H1.out F1 F2).mono ?_
      rintro e w3 ⟨he, hb3⟩
      rw [HO.out] at he
      subst he
      have HB3 : Hid (Below w.heap.size w w3) := HB2.out.trans (hb3.mono HB2.out.size)
      have X3 : Hid (boxAt w3 _ _ _) := X2.out.on hb3
      clear hb3 X2 HB2 HO G1 F1 F2
      have q0 := X3.out.cell 0 rfl
      have f0 := X3.out.frozen 0
      have q1 := X3.out.cell 1 rfl
      have f1 := X3.out.frozen 1
      have q2 := X3.out.cell 2 rfl
      have f2 := X3.out.frozen 2
      have hlt := X3.out.lt
      go_wp2
      simp only [bodyPost]
      refine ⟨trivial, _, ?_, rfl, ?_⟩
      · simp only [results, Tryd.results4]
        go_simp
      · (repeat' first | (with_reducible exact HB3.out) | (with_reducible refine belA3 ?_) | (with_reducible refine belS3 ?_ ?_) | (dsimp only; omega))
  · clear hd
    go_wp2_with fail
    refine (l2Nat_any R S _ hr1 hr2 (by omega)).mono ?_
    rintro e w2 ⟨⟨t, ok, rfl, hk, hdd⟩, hb2⟩
    have HB2 : Hid (Below w.heap.size w w2) := HBV.out.trans (hb2.mono HBV.out.size)
    have X2 : Hid (boxAt w2 _ _ _) := X0.out.on hb2
    clear hb2 X0 HBV
    cases ok
    · have hz0 : Hid (C = false ∧ U = ⟨#[]⟩ ∧ D = ⟨#[]⟩ ∧ B = false) := by
        have e := HE.out
        rw [← hk.out] at e
        have e := e.symm
        injection e with e1
        injection e1 with e2
        simp at e2
        exact ⟨e2.1.1, e2.1.2.1, e2.1.2.2, e2.2⟩
      obtain ⟨hC, hU, hD, hB⟩ := hz0.out
      clear hz0 HE hk hdd
      subst hC hU hD hB
      have q0 := X2.out.cell 0 rfl
      have f0 := X2.out.frozen 0
      have q1 := X2.out.cell 1 rfl
      have f1 := X2.out.frozen 1
      have q2 := X2.out.cell 2 rfl
      have f2 := X2.out.frozen 2
      have hlt := X2.out.lt
      go_wp2
      simp only [bodyPost]
      refine ⟨trivial, _, ?_, rfl, ?_⟩
      · simp only [results, Tryd.results4]
        go_simp
      · (repeat' first | (with_reducible exact HB2.out) | (with_reducible refine belA3 ?_) | (with_reducible refine belS3 ?_ ?_) | (dsimp only; omega))
    · have k1 := hk.out.symm
      have F1 := rv_fits R S hr1 hr2 (by omega) k1
      have HO : Hid (pAns true (some (rv R S.data.toList, 1)) = .returned (.tuple #[.agg #[.bool C, .string U, .string D], .bool B])) := by
        show _ = _
        rw [← HE.out]; simp only [k1, if_true]
      have G1 : Hid (Dm.isDec t.data.toList (rv R S.data.toList)) := hdd.out rfl
      have F2 : fits 1 8000 := pow_fits 0 (by omega)
      clear HE hk hdd k1
      go_wp2_with fail
      refine (l2Make_o true t ⟨#[49]⟩ _ 1 _ G1.out H1.out F1 F2).mono ?_
      rintro e w3 ⟨he, hb3⟩
      rw [HO.out] at he
      subst he
      have HB3 : Hid (Below w.heap.size w w3) := HB2.out.trans (hb3.mono HB2.out.size)
      have X3 : Hid (boxAt w3 _ _ _) := X2.out.on hb3
      clear hb3 X2 HB2 HO G1 F1 F2
      have q0 := X3.out.cell 0 rfl
      have f0 := X3.out.frozen 0
      have q1 := X3.out.cell 1 rfl
      have f1 := X3.out.frozen 1
      have q2 := X3.out.cell 2 rfl
      have f2 := X3.out.frozen 2
      have hlt := X3.out.lt
      go_wp2
      simp only [bodyPost]
      refine ⟨trivial, _, ?_, rfl, ?_⟩
      · simp only [results, Tryd.results4]
        go_simp
      · (repeat' first | (with_reducible exact HB3.out) | (with_reducible refine belA3 ?_) | (with_reducible refine belS3 ?_ ?_) | (dsimp only; omega))

set_option maxHeartbeats 1000000 in
theorem sParse_plus (text : ByteArray) (r : Int) (R : Nat) (w : World) (h : rx r = true) (hr : r = (R : Int)) (hr1 : 2 ≤ R) (hr2 : R ≤ 16) (hz : ¬ (240 : Int) < (text.size : Int)) (h0 : 0 < text.size) (h1 : (text[0]'h0).toNat = 43) :
    Calls Tryd.prog 4 #[.string text, .int .i64 r] w fun e w' => e = pAns false (pBody R (text.extract 1 text.size).data.toList) ∧ Below w.heap.size w w' := by
  subst hr
  obtain ⟨S, hS⟩ : ∃ S : ByteArray, S = text.extract 1 text.size := ⟨_, rfl⟩
  have hSz : S.size ≤ 240 := by
    have := ext_size text 1 text.size
    rw [hS]; omega
  have HS : Hid (S = text.extract 1 text.size) := hS
  rw [← hS]
  obtain ⟨C, U, D, B, hA⟩ : ∃ C U D B, pAns false (pBody R S.data.toList) = .returned (.tuple #[.agg #[.bool C, .string U, .string D], .bool B]) := ⟨_, _, _, _, rfl⟩
  rw [hA]
  have HA : Hid (pAns false (pBody R S.data.toList) = .returned (.tuple #[.agg #[.bool C, .string U, .string D], .bool B])) := hA
  have g0 : (0 : Int) < (text.size : Int) := by omega
  have g1 : (((text[0]'h0).toNat : Int) == 45) = false := by rw [h1]; rfl
  have g3 : (((text[0]'h0).toNat : Int) == 43) = true := by rw [h1]; rfl
  have g2 : (1 : Int) ≤ (text.size : Int) := by omega
  clear hS hA
  go_enter Tryd.func4, Tryd.ntmps4
  go_wp2_with fail
  obtain ⟨V, hV, hBV, x0⟩ := boxN w #[Value.bool false, Value.string ⟨#[]⟩, Value.string ⟨#[]⟩] 23
  rw [← hV]
  have HBV : Hid (Below w.heap.size w V) := hBV
  have X0 : Hid (boxAt V _ _ _) := x0
  clear hV hBV x0
  refine (l2Radix_any _ _).mono ?_
  rintro e w1 ⟨rfl, rfl⟩
  rw [h]
  go_wp2_with fail
  rw [← HS.out]
  refine (l2Find_any S 47 _ (by omega)).mono ?_
  rintro e w1 ⟨rfl, rfl⟩
  by_cases hc : 0 ≤ Lib.indexByte S.data.toList 47
  · obtain ⟨i, hi, hil⟩ := find_lt S 47 hc
    rw [hi]
    have hin : (0 : Int) ≤ (i : Int) := by omega
    have HE : Hid (pAns false (ovr R (S.data.toList.take i) (S.data.toList.drop (i + 1))) = .returned (.tuple #[.agg #[.bool C, .string U, .string D], .bool B])) := by
      show _ = _; rw [← HA.out, pBody_over R _ i hi]
    clear hc hi HA
    go_wp2_with fail
    refine (l2Over_any false S i R _ hil (by omega) hr1 hr2).mono ?_
    rintro e w3 ⟨he, hb3⟩
    rw [HE.out] at he
    subst he
    have HB3 : Hid (Below w.heap.size w w3) := HBV.out.trans (hb3.mono HBV.out.size)
    have X3 : Hid (boxAt w3 _ _ _) := X0.out.on hb3
    clear hb3 X0 HBV HE
    have q0 := X3.out.cell 0 rfl
    have f0 := X3.out.frozen 0
    have q1 := X3.out.cell 1 rfl
    have f1 := X3.out.frozen 1
    have q2 := X3.out.cell 2 rfl
    have f2 := X3.out.frozen 2
    have hlt := X3.out.lt
    go_wp2
    simp only [bodyPost]
    refine ⟨trivial, _, ?_, rfl, ?_⟩
    · simp only [results, Tryd.results4]
      go_simp
    · (repeat' first | (with_reducible exact HB3.out) | (with_reducible refine belA3 ?_) | (with_reducible refine belS3 ?_ ?_) | (dsimp only; omega))
  have hm := find_no _ _ hc
  rw [hm]
  go_wp2_with fail
  refine (l2Find_any S 46 _ (by omega)).mono ?_
  rintro e w1 ⟨rfl, rfl⟩
  by_cases hd : 0 ≤ Lib.indexByte S.data.toList 46 ∧ R = 10
  · obtain ⟨hd1, rfl⟩ := hd
    obtain ⟨i, hi, hil⟩ := find_lt S 46 hd1
    rw [hi]
    have hin : (0 : Int) ≤ (i : Int) := by omega
    have HE : Hid (pAns false (pnt (S.data.toList.take i) (S.data.toList.drop (i + 1))) = .returned (.tuple #[.agg #[.bool C, .string U, .string D], .bool B])) := by
      show _ = _; rw [← HA.out, pBody_point _ i (by omega) hi]
    clear hc hm hi hd1 HA
    go_wp2_with fail
    refine (l2Point_any false S i _ hil (by omega)).mono ?_
    rintro e w3 ⟨he, hb3⟩
    rw [HE.out] at he
    subst he
    have HB3 : Hid (Below w.heap.size w w3) := HBV.out.trans (hb3.mono HBV.out.size)
    have X3 : Hid (boxAt w3 _ _ _) := X0.out.on hb3
    clear hb3 X0 HBV HE
    have q0 := X3.out.cell 0 rfl
    have f0 := X3.out.frozen 0
    have q1 := X3.out.cell 1 rfl
    have f1 := X3.out.frozen 1
    have q2 := X3.out.cell 2 rfl
    have f2 := X3.out.frozen 2
    have hlt := X3.out.lt
    go_wp2
    simp only [bodyPost]
    refine ⟨trivial, _, ?_, rfl, ?_⟩
    · simp only [results, Tryd.results4]
      go_simp
    · (repeat' first | (with_reducible exact HB3.out) | (with_reducible refine belA3 ?_) | (with_reducible refine belS3 ?_ ?_) | (dsimp only; omega))
  have HE : Hid (pAns false (if okR R S.data.toList then some (rv R S.data.toList, 1) else none) = .returned (.tuple #[.agg #[.bool C, .string U, .string D], .bool B])) := by
    show _ = _; rw [← HA.out, pBody_plain R _ (by omega) hd]
  obtain ⟨x, hx⟩ : ∃ x, x = Lib.indexByte S.data.toList 46 := ⟨_, rfl⟩
  rw [← hx] at hd ⊢
  clear hc hm HA hx
  have H1 : Hid (Dm.isDec (ByteArray.mk #[49]).data.toList 1) := by
    refine ⟨by simp, ?_, rfl, by simp⟩
    intro c hc; simp at hc; subst hc; exact ⟨by decide, by decide⟩
  by_cases hx0 : 0 ≤ x
  · have hR : ¬ (R : Int) = 10 := by intro e; exact hd ⟨hx0, by omega⟩
    have hR2 : ((R : Int) == 10) = false := beq_eq_false_iff_ne.2 hR
    clear hd
    go_wp2_with fail
    refine (l2Nat_any R S _ hr1 hr2 (by omega)).mono ?_
    rintro e w2 ⟨⟨t, ok, rfl, hk, hdd⟩, hb2⟩
    have HB2 : Hid (Below w.heap.size w w2) := HBV.out.trans (hb2.mono HBV.out.size)
    have X2 : Hid (boxAt w2 _ _ _) := X0.out.on hb2
    clear hb2 X0 HBV
    cases ok
    · have hz0 : Hid (C = false ∧ U = ⟨#[]⟩ ∧ D = ⟨#[]⟩ ∧ B = false) := by
        have e := HE.out
        rw [← hk.out] at e
        have e := e.symm
        injection e with e1
        injection e1 with e2
        simp at e2
        exact ⟨e2.1.1, e2.1.2.1, e2.1.2.2, e2.2⟩
      obtain ⟨hC, hU, hD, hB⟩ := hz0.out
      clear hz0 HE hk hdd
      subst hC hU hD hB
      have q0 := X2.out.cell 0 rfl
      have f0 := X2.out.frozen 0
      have q1 := X2.out.cell 1 rfl
      have f1 := X2.out.frozen 1
      have q2 := X2.out.cell 2 rfl
      have f2 := X2.out.frozen 2
      have hlt := X2.out.lt
      go_wp2
      simp only [bodyPost]
      refine ⟨trivial, _, ?_, rfl, ?_⟩
      · simp only [results, Tryd.results4]
        go_simp
      · (repeat' first | (with_reducible exact HB2.out) | (with_reducible refine belA3 ?_) | (with_reducible refine belS3 ?_ ?_) | (dsimp only; omega))
    · have k1 := hk.out.symm
      have F1 := rv_fits R S hr1 hr2 (by omega) k1
      have HO : Hid (pAns false (some (rv R S.data.toList, 1)) = .returned (.tuple #[.agg #[.bool C, .string U, .string D], .bool B])) := by
        show _ = _
        rw [← HE.out]; simp only [k1, if_true]
      have G1 : Hid (Dm.isDec t.data.toList (rv R S.data.toList)) := hdd.out rfl
      have F2 : fits 1 8000 := pow_fits 0 (by omega)
      clear HE hk hdd k1
      go_wp2_with fail
      refine (l2Make_o false t ⟨#[49]⟩ _ 1 _ G1.out H1.out F1 F2).mono ?_
      rintro e w3 ⟨he, hb3⟩
      rw [HO.out] at he
      subst he
      have HB3 : Hid (Below w.heap.size w w3) := HB2.out.trans (hb3.mono HB2.out.size)
      have X3 : Hid (boxAt w3 _ _ _) := X2.out.on hb3
      clear hb3 X2 HB2 HO G1 F1 F2
      have q0 := X3.out.cell 0 rfl
      have f0 := X3.out.frozen 0
      have q1 := X3.out.cell 1 rfl
      have f1 := X3.out.frozen 1
      have q2 := X3.out.cell 2 rfl
      have f2 := X3.out.frozen 2
      have hlt := X3.out.lt
      go_wp2
      simp only [bodyPost]
      refine ⟨trivial, _, ?_, rfl, ?_⟩
      · simp only [results, Tryd.results4]
        go_simp
      · (repeat' first | (with_reducible exact HB3.out) | (with_reducible refine belA3 ?_) | (with_reducible refine belS3 ?_ ?_) | (dsimp only; omega))
  · clear hd
    go_wp2_with fail
    refine (l2Nat_any R S _ hr1 hr2 (by omega)).mono ?_
    rintro e w2 ⟨⟨t, ok, rfl, hk, hdd⟩, hb2⟩
    have HB2 : Hid (Below w.heap.size w w2) := HBV.out.trans (hb2.mono HBV.out.size)
    have X2 : Hid (boxAt w2 _ _ _) := X0.out.on hb2
    clear hb2 X0 HBV
    cases ok
    · have hz0 : Hid (C = false ∧ U = ⟨#[]⟩ ∧ D = ⟨#[]⟩ ∧ B = false) := by
        have e := HE.out
        rw [← hk.out] at e
        have e := e.symm
        injection e with e1
        injection e1 with e2
        simp at e2
        exact ⟨e2.1.1, e2.1.2.1, e2.1.2.2, e2.2⟩
      obtain ⟨hC, hU, hD, hB⟩ := hz0.out
      clear hz0 HE hk hdd
      subst hC hU hD hB
      have q0 := X2.out.cell 0 rfl
      have f0 := X2.out.frozen 0
      have q1 := X2.out.cell 1 rfl
      have f1 := X2.out.frozen 1
      have q2 := X2.out.cell 2 rfl
      have f2 := X2.out.frozen 2
      have hlt := X2.out.lt
      go_wp2
      simp only [bodyPost]
      refine ⟨trivial, _, ?_, rfl, ?_⟩
      · simp only [results, Tryd.results4]
        go_simp
      · (repeat' first | (with_reducible exact HB2.out) | (with_reducible refine belA3 ?_) | (with_reducible refine belS3 ?_ ?_) | (dsimp only; omega))
    · have k1 := hk.out.symm
      have F1 := rv_fits R S hr1 hr2 (by omega) k1
      have HO : Hid (pAns false (some (rv R S.data.toList, 1)) = .returned (.tuple #[.agg #[.bool C, .string U, .string D], .bool B])) := by
        show _ = _
        rw [← HE.out]; simp only [k1, if_true]
      have G1 : Hid (Dm.isDec t.data.toList (rv R S.data.toList)) := hdd.out rfl
      have F2 : fits 1 8000 := pow_fits 0 (by omega)
      clear HE hk hdd k1
      go_wp2_with fail
      refine (l2Make_o false t ⟨#[49]⟩ _ 1 _ G1.out H1.out F1 F2).mono ?_
      rintro e w3 ⟨he, hb3⟩
      rw [HO.out] at he
      subst he
      have HB3 : Hid (Below w.heap.size w w3) := HB2.out.trans (hb3.mono HB2.out.size)
      have X3 : Hid (boxAt w3 _ _ _) := X2.out.on hb3
      clear hb3 X2 HB2 HO G1 F1 F2
      have q0 := X3.out.cell 0 rfl
      have f0 := X3.out.frozen 0
      have q1 := X3.out.cell 1 rfl
      have f1 := X3.out.frozen 1
      have q2 := X3.out.cell 2 rfl
      have f2 := X3.out.frozen 2
      have hlt := X3.out.lt
      go_wp2
      simp only [bodyPost]
      refine ⟨trivial, _, ?_, rfl, ?_⟩
      · simp only [results, Tryd.results4]
        go_simp
      · (repeat' first | (with_reducible exact HB3.out) | (with_reducible refine belA3 ?_) | (with_reducible refine belS3 ?_ ?_) | (dsimp only; omega))

set_option maxHeartbeats 1000000 in
theorem sParse_bare (text : ByteArray) (r : Int) (R : Nat) (w : World) (h : rx r = true) (hr : r = (R : Int)) (hr1 : 2 ≤ R) (hr2 : R ≤ 16) (hz : ¬ (240 : Int) < (text.size : Int)) (h0 : 0 < text.size) (h1 : (text[0]'h0).toNat ≠ 45) (h2 : (text[0]'h0).toNat ≠ 43) :
    Calls Tryd.prog 4 #[.string text, .int .i64 r] w fun e w' => e = pAns false (pBody R (text).data.toList) ∧ Below w.heap.size w w' := by
  subst hr
  have hSz : text.size ≤ 240 := by omega
  obtain ⟨C, U, D, B, hA⟩ : ∃ C U D B, pAns false (pBody R text.data.toList) = .returned (.tuple #[.agg #[.bool C, .string U, .string D], .bool B]) := ⟨_, _, _, _, rfl⟩
  rw [hA]
  have HA : Hid (pAns false (pBody R text.data.toList) = .returned (.tuple #[.agg #[.bool C, .string U, .string D], .bool B])) := hA
  have g0 : (0 : Int) < (text.size : Int) := by omega
  have g1 : (((text[0]'h0).toNat : Int) == 45) = false := beq_eq_false_iff_ne.2 (by omega)
  have g3 : (((text[0]'h0).toNat : Int) == 43) = false := beq_eq_false_iff_ne.2 (by omega)
  clear hA
  go_enter Tryd.func4, Tryd.ntmps4
  go_wp2_with fail
  obtain ⟨V, hV, hBV, x0⟩ := boxN w #[Value.bool false, Value.string ⟨#[]⟩, Value.string ⟨#[]⟩] 23
  rw [← hV]
  have HBV : Hid (Below w.heap.size w V) := hBV
  have X0 : Hid (boxAt V _ _ _) := x0
  clear hV hBV x0
  refine (l2Radix_any _ _).mono ?_
  rintro e w1 ⟨rfl, rfl⟩
  rw [h]
  go_wp2_with fail
  refine (l2Find_any text 47 _ (by omega)).mono ?_
  rintro e w1 ⟨rfl, rfl⟩
  by_cases hc : 0 ≤ Lib.indexByte text.data.toList 47
  · obtain ⟨i, hi, hil⟩ := find_lt text 47 hc
    rw [hi]
    have hin : (0 : Int) ≤ (i : Int) := by omega
    have HE : Hid (pAns false (ovr R (text.data.toList.take i) (text.data.toList.drop (i + 1))) = .returned (.tuple #[.agg #[.bool C, .string U, .string D], .bool B])) := by
      show _ = _; rw [← HA.out, pBody_over R _ i hi]
    clear hc hi HA
    go_wp2_with fail
    refine (l2Over_any false text i R _ hil (by omega) hr1 hr2).mono ?_
    rintro e w3 ⟨he, hb3⟩
    rw [HE.out] at he
    subst he
    have HB3 : Hid (Below w.heap.size w w3) := HBV.out.trans (hb3.mono HBV.out.size)
    have X3 : Hid (boxAt w3 _ _ _) := X0.out.on hb3
    clear hb3 X0 HBV HE
    have q0 := X3.out.cell 0 rfl
    have f0 := X3.out.frozen 0
    have q1 := X3.out.cell 1 rfl
    have f1 := X3.out.frozen 1
    have q2 := X3.out.cell 2 rfl
    have f2 := X3.out.frozen 2
    have hlt := X3.out.lt
    go_wp2
    simp only [bodyPost]
    refine ⟨trivial, _, ?_, rfl, ?_⟩
    · simp only [results, Tryd.results4]
      go_simp
    · (repeat' first | (with_reducible exact HB3.out) | (with_reducible refine belA3 ?_) | (with_reducible refine belS3 ?_ ?_) | (dsimp only; omega))
  have hm := find_no _ _ hc
  rw [hm]
  go_wp2_with fail
  refine (l2Find_any text 46 _ (by omega)).mono ?_
  rintro e w1 ⟨rfl, rfl⟩
  by_cases hd : 0 ≤ Lib.indexByte text.data.toList 46 ∧ R = 10
  · obtain ⟨hd1, rfl⟩ := hd
    obtain ⟨i, hi, hil⟩ := find_lt text 46 hd1
    rw [hi]
    have hin : (0 : Int) ≤ (i : Int) := by omega
    have HE : Hid (pAns false (pnt (text.data.toList.take i) (text.data.toList.drop (i + 1))) = .returned (.tuple #[.agg #[.bool C, .string U, .string D], .bool B])) := by
      show _ = _; rw [← HA.out, pBody_point _ i (by omega) hi]
    clear hc hm hi hd1 HA
    go_wp2_with fail
    refine (l2Point_any false text i _ hil (by omega)).mono ?_
    rintro e w3 ⟨he, hb3⟩
    rw [HE.out] at he
    subst he
    have HB3 : Hid (Below w.heap.size w w3) := HBV.out.trans (hb3.mono HBV.out.size)
    have X3 : Hid (boxAt w3 _ _ _) := X0.out.on hb3
    clear hb3 X0 HBV HE
    have q0 := X3.out.cell 0 rfl
    have f0 := X3.out.frozen 0
    have q1 := X3.out.cell 1 rfl
    have f1 := X3.out.frozen 1
    have q2 := X3.out.cell 2 rfl
    have f2 := X3.out.frozen 2
    have hlt := X3.out.lt
    go_wp2
    simp only [bodyPost]
    refine ⟨trivial, _, ?_, rfl, ?_⟩
    · simp only [results, Tryd.results4]
      go_simp
    · (repeat' first | (with_reducible exact HB3.out) | (with_reducible refine belA3 ?_) | (with_reducible refine belS3 ?_ ?_) | (dsimp only; omega))
  have HE : Hid (pAns false (if okR R text.data.toList then some (rv R text.data.toList, 1) else none) = .returned (.tuple #[.agg #[.bool C, .string U, .string D], .bool B])) := by
    show _ = _; rw [← HA.out, pBody_plain R _ (by omega) hd]
  obtain ⟨x, hx⟩ : ∃ x, x = Lib.indexByte text.data.toList 46 := ⟨_, rfl⟩
  rw [← hx] at hd ⊢
  clear hc hm HA hx
  have H1 : Hid (Dm.isDec (ByteArray.mk #[49]).data.toList 1) := by
    refine ⟨by simp, ?_, rfl, by simp⟩
    intro c hc; simp at hc; subst hc; exact ⟨by decide, by decide⟩
  by_cases hx0 : 0 ≤ x
  · have hR : ¬ (R : Int) = 10 := by intro e; exact hd ⟨hx0, by omega⟩
    have hR2 : ((R : Int) == 10) = false := beq_eq_false_iff_ne.2 hR
    clear hd
    go_wp2_with fail
    refine (l2Nat_any R text _ hr1 hr2 (by omega)).mono ?_
    rintro e w2 ⟨⟨t, ok, rfl, hk, hdd⟩, hb2⟩
    have HB2 : Hid (Below w.heap.size w w2) := HBV.out.trans (hb2.mono HBV.out.size)
    have X2 : Hid (boxAt w2 _ _ _) := X0.out.on hb2
    clear hb2 X0 HBV
    cases ok
    · have hz0 : Hid (C = false ∧ U = ⟨#[]⟩ ∧ D = ⟨#[]⟩ ∧ B = false) := by
        have e := HE.out
        rw [← hk.out] at e
        have e := e.symm
        injection e with e1
        injection e1 with e2
        simp at e2
        exact ⟨e2.1.1, e2.1.2.1, e2.1.2.2, e2.2⟩
      obtain ⟨hC, hU, hD, hB⟩ := hz0.out
      clear hz0 HE hk hdd
      subst hC hU hD hB
      have q0 := X2.out.cell 0 rfl
      have f0 := X2.out.frozen 0
      have q1 := X2.out.cell 1 rfl
      have f1 := X2.out.frozen 1
      have q2 := X2.out.cell 2 rfl
      have f2 := X2.out.frozen 2
      have hlt := X2.out.lt
      go_wp2
      simp only [bodyPost]
      refine ⟨trivial, _, ?_, rfl, ?_⟩
      · simp only [results, Tryd.results4]
        go_simp
      · (repeat' first | (with_reducible exact HB2.out) | (with_reducible refine belA3 ?_) | (with_reducible refine belS3 ?_ ?_) | (dsimp only; omega))
    · have k1 := hk.out.symm
      have F1 := rv_fits R text hr1 hr2 (by omega) k1
      have HO : Hid (pAns false (some (rv R text.data.toList, 1)) = .returned (.tuple #[.agg #[.bool C, .string U, .string D], .bool B])) := by
        show _ = _
        rw [← HE.out]; simp only [k1, if_true]
      have G1 : Hid (Dm.isDec t.data.toList (rv R text.data.toList)) := hdd.out rfl
      have F2 : fits 1 8000 := pow_fits 0 (by omega)
      clear HE hk hdd k1
      go_wp2_with fail
      refine (l2Make_o false t ⟨#[49]⟩ _ 1 _ G1.out H1.out F1 F2).mono ?_
      rintro e w3 ⟨he, hb3⟩
      rw [HO.out] at he
      subst he
      have HB3 : Hid (Below w.heap.size w w3) := HB2.out.trans (hb3.mono HB2.out.size)
      have X3 : Hid (boxAt w3 _ _ _) := X2.out.on hb3
      clear hb3 X2 HB2 HO G1 F1 F2
      have q0 := X3.out.cell 0 rfl
      have f0 := X3.out.frozen 0
      have q1 := X3.out.cell 1 rfl
      have f1 := X3.out.frozen 1
      have q2 := X3.out.cell 2 rfl
      have f2 := X3.out.frozen 2
      have hlt := X3.out.lt
      go_wp2
      simp only [bodyPost]
      refine ⟨trivial, _, ?_, rfl, ?_⟩
      · simp only [results, Tryd.results4]
        go_simp
      · (repeat' first | (with_reducible exact HB3.out) | (with_reducible refine belA3 ?_) | (with_reducible refine belS3 ?_ ?_) | (dsimp only; omega))
  · clear hd
    go_wp2_with fail
    refine (l2Nat_any R text _ hr1 hr2 (by omega)).mono ?_
    rintro e w2 ⟨⟨t, ok, rfl, hk, hdd⟩, hb2⟩
    have HB2 : Hid (Below w.heap.size w w2) := HBV.out.trans (hb2.mono HBV.out.size)
    have X2 : Hid (boxAt w2 _ _ _) := X0.out.on hb2
    clear hb2 X0 HBV
    cases ok
    · have hz0 : Hid (C = false ∧ U = ⟨#[]⟩ ∧ D = ⟨#[]⟩ ∧ B = false) := by
        have e := HE.out
        rw [← hk.out] at e
        have e := e.symm
        injection e with e1
        injection e1 with e2
        simp at e2
        exact ⟨e2.1.1, e2.1.2.1, e2.1.2.2, e2.2⟩
      obtain ⟨hC, hU, hD, hB⟩ := hz0.out
      clear hz0 HE hk hdd
      subst hC hU hD hB
      have q0 := X2.out.cell 0 rfl
      have f0 := X2.out.frozen 0
      have q1 := X2.out.cell 1 rfl
      have f1 := X2.out.frozen 1
      have q2 := X2.out.cell 2 rfl
      have f2 := X2.out.frozen 2
      have hlt := X2.out.lt
      go_wp2
      simp only [bodyPost]
      refine ⟨trivial, _, ?_, rfl, ?_⟩
      · simp only [results, Tryd.results4]
        go_simp
      · (repeat' first | (with_reducible exact HB2.out) | (with_reducible refine belA3 ?_) | (with_reducible refine belS3 ?_ ?_) | (dsimp only; omega))
    · have k1 := hk.out.symm
      have F1 := rv_fits R text hr1 hr2 (by omega) k1
      have HO : Hid (pAns false (some (rv R text.data.toList, 1)) = .returned (.tuple #[.agg #[.bool C, .string U, .string D], .bool B])) := by
        show _ = _
        rw [← HE.out]; simp only [k1, if_true]
      have G1 : Hid (Dm.isDec t.data.toList (rv R text.data.toList)) := hdd.out rfl
      have F2 : fits 1 8000 := pow_fits 0 (by omega)
      clear HE hk hdd k1
      go_wp2_with fail
      refine (l2Make_o false t ⟨#[49]⟩ _ 1 _ G1.out H1.out F1 F2).mono ?_
      rintro e w3 ⟨he, hb3⟩
      rw [HO.out] at he
      subst he
      have HB3 : Hid (Below w.heap.size w w3) := HB2.out.trans (hb3.mono HB2.out.size)
      have X3 : Hid (boxAt w3 _ _ _) := X2.out.on hb3
      clear hb3 X2 HB2 HO G1 F1 F2
      have q0 := X3.out.cell 0 rfl
      have f0 := X3.out.frozen 0
      have q1 := X3.out.cell 1 rfl
      have f1 := X3.out.frozen 1
      have q2 := X3.out.cell 2 rfl
      have f2 := X3.out.frozen 2
      have hlt := X3.out.lt
      go_wp2
      simp only [bodyPost]
      refine ⟨trivial, _, ?_, rfl, ?_⟩
      · simp only [results, Tryd.results4]
        go_simp
      · (repeat' first | (with_reducible exact HB3.out) | (with_reducible refine belA3 ?_) | (with_reducible refine belS3 ?_ ?_) | (dsimp only; omega))

end Go.Proofs.YtgckhkddjckfaagDoor
