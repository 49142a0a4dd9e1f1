/-
  The contract of the program's NumParse; the program's and the specification's are the same.
-/
import Derived.Test.YtgckhkddjckfaagDoorPa8
import Derived.Test.YtgckhkddjckfaagDoorPa5
namespace Go.Proofs.YtgckhkddjckfaagDoor
set_option maxRecDepth 100000
set_option linter.unusedVariables false
set_option linter.unusedSimpArgs false
open Go.RowKit Go.Lib
attribute [local go_sem ↓] Go.wp_at_zero Go.wp_at_succ

theorem ba_ext (a b : ByteArray) (h : a.data.toList = b.data.toList) : a = b := by
  apply ByteArray.ext; exact Array.toList_inj.1 h

theorem ratio_any (r : Nat) (s : ByteArray) (w : World) (hr : 2 ≤ r) (hr2 : r ≤ 16) (hs : s.size ≤ 300) :
    Calls Tryd.prog 15 #[.int .i64 r, .string s] w fun e w' => RatRet (pBody r s.data.toList) e w' ∧ Below w.heap.size w w' := by
  by_cases hc : 0 ≤ Lib.indexByte s.data.toList 47
  · obtain ⟨i, hi, hil⟩ := find_lt s 47 hc
    rw [pBody_over r _ i hi]
    exact ratio_over r s i w hr hr2 hs hi hil
  have hm := find_no _ _ hc
  by_cases h10 : r = 10
  · subst h10
    by_cases hd : 0 ≤ Lib.indexByte s.data.toList 46
    · obtain ⟨i, hi, hil⟩ := find_lt s 46 hd
      rw [pBody_point _ i hc hi]
      exact ratio_point s i w hs hm hi hil
    · rw [pBody_plain 10 _ hc (fun h => hd h.1)]
      exact ratio_ten s w hs hm (find_no _ _ hd)
  · rw [pBody_plain r _ hc (fun h => h10 h.2)]
    exact ratio_other r s w hr hr2 hs hm h10

set_option maxHeartbeats 800000 in
theorem cutSign_minus (text S : ByteArray) (w : World) (h : Lib.hasPrefix text.data.toList [45] = true) (hS : S = ⟨(Lib.trimPrefix text.data.toList [45]).toArray⟩) :
    Calls Tryd.prog 14 #[.string text] w fun e w' => e = .returned (.tuple #[.bool true, .string S]) ∧ w' = w := by
  have HS : Hid (S = ⟨(Lib.trimPrefix text.data.toList [45]).toArray⟩) := hS
  clear hS
  go_enter Tryd.func14, Tryd.ntmps14
  go_wp2_with fail
  refine (Tryd.strings_CutPrefix text ⟨#[45]⟩ _).mono ?_
  rintro e w1 ⟨he, rfl⟩
  have he2 : e = .returned (.tuple #[.string S, .bool true]) := by rw [he, HS.out, ← h]
  subst he2
  clear he
  go_wp2
  simp only [bodyPost]
  refine ⟨trivial, _, ?_, rfl, by first | rfl | trivial⟩
  simp [results, Tryd.results14, go_sem]

set_option maxHeartbeats 800000 in
theorem cutSign_other (text S : ByteArray) (w : World) (h : Lib.hasPrefix text.data.toList [45] = false) (hS : S = ⟨(Lib.trimPrefix text.data.toList [43]).toArray⟩) :
    Calls Tryd.prog 14 #[.string text] w fun e w' => e = .returned (.tuple #[.bool false, .string S]) ∧ w' = w := by
  have HS : Hid (S = ⟨(Lib.trimPrefix text.data.toList [43]).toArray⟩) := hS
  obtain ⟨Q, hQ⟩ : ∃ Q : ByteArray, Q = ⟨(Lib.trimPrefix text.data.toList [45]).toArray⟩ := ⟨_, rfl⟩
  have HQ : Hid (Q = ⟨(Lib.trimPrefix text.data.toList [45]).toArray⟩) := hQ
  clear hS hQ
  go_enter Tryd.func14, Tryd.ntmps14
  go_wp2_with fail
  refine (Tryd.strings_CutPrefix text ⟨#[45]⟩ _).mono ?_
  rintro e w1 ⟨he, rfl⟩
  have he2 : e = .returned (.tuple #[.string Q, .bool false]) := by rw [he, HQ.out, ← h]
  subst he2
  clear he
  go_wp2_with fail
  refine (Tryd.strings_TrimPrefix text ⟨#[43]⟩ _).mono ?_
  rintro e w2 ⟨he, rfl⟩
  have he3 : e = .returned (.string S) := by rw [he, HS.out]
  subst he3
  clear he
  go_wp2
  simp only [bodyPost]
  refine ⟨trivial, _, ?_, rfl, by first | rfl | trivial⟩
  simp [results, Tryd.results14, go_sem]

set_option maxHeartbeats 800000 in
theorem iParse_no (text : ByteArray) (r : Int) (w : World) (h : rx r = false) :
    Calls Tryd.prog 5 #[.string text, .int .i64 r] w fun e w' => e = .returned (.tuple #[.agg #[.bool false, .string ⟨#[]⟩, .string ⟨#[]⟩], .bool false]) ∧ Below w.heap.size w w' := by
  go_enter Tryd.func5, Tryd.ntmps5
  go_wp2_with fail
  obtain ⟨V, hV, hBV, x0⟩ := boxN w #[Value.bool false, Value.string ⟨#[]⟩, Value.string ⟨#[]⟩] 23
  rw [← hV]
  have HBV : Hid (Below w.heap.size w V) := hBV
  have X0 : Hid (boxAt V _ _ _) := x0
  clear hV hBV x0
  refine (isKnown_any _ _).mono ?_
  rintro e w1 ⟨rfl, rfl⟩
  rw [h]
  have q0 := X0.out.cell 0 rfl
  have f0 := X0.out.frozen 0
  have q1 := X0.out.cell 1 rfl
  have f1 := X0.out.frozen 1
  have q2 := X0.out.cell 2 rfl
  have f2 := X0.out.frozen 2
  have hlt := X0.out.lt
  go_wp2
  simp only [bodyPost]
  refine ⟨trivial, _, ?_, rfl, ?_⟩
  · simp only [results, Tryd.results5]
    go_simp
  · (repeat' first | (with_reducible exact HBV.out) | (with_reducible refine belA3 ?_) | (with_reducible refine belS3 ?_ ?_) | (dsimp only; omega))

set_option maxHeartbeats 800000 in
theorem iParse_long (text : ByteArray) (r : Int) (w : World) (h : rx r = true) (hz : (240 : Int) < (text.size : Int)) :
    Calls Tryd.prog 5 #[.string text, .int .i64 r] w fun e w' => e = .returned (.tuple #[.agg #[.bool false, .string ⟨#[]⟩, .string ⟨#[]⟩], .bool false]) ∧ Below w.heap.size w w' := by
  go_enter Tryd.func5, Tryd.ntmps5
  go_wp2_with fail
  obtain ⟨V, hV, hBV, x0⟩ := boxN w #[Value.bool false, Value.string ⟨#[]⟩, Value.string ⟨#[]⟩] 23
  rw [← hV]
  have HBV : Hid (Below w.heap.size w V) := hBV
  have X0 : Hid (boxAt V _ _ _) := x0
  clear hV hBV x0
  refine (isKnown_any _ _).mono ?_
  rintro e w1 ⟨rfl, rfl⟩
  rw [h]
  have q0 := X0.out.cell 0 rfl
  have f0 := X0.out.frozen 0
  have q1 := X0.out.cell 1 rfl
  have f1 := X0.out.frozen 1
  have q2 := X0.out.cell 2 rfl
  have f2 := X0.out.frozen 2
  have hlt := X0.out.lt
  go_wp2
  simp only [bodyPost]
  refine ⟨trivial, _, ?_, rfl, ?_⟩
  · simp only [results, Tryd.results5]
    go_simp
  · (repeat' first | (with_reducible exact HBV.out) | (with_reducible refine belA3 ?_) | (with_reducible refine belS3 ?_ ?_) | (dsimp only; omega))

/-- Cutting off the sign. -/
def CutTo (text : ByteArray) (neg : Bool) (S : ByteArray) : Prop :=
  ∀ w : World, Calls Tryd.prog 14 #[.string text] w fun e w' => e = .returned (.tuple #[.bool neg, .string S]) ∧ w' = w

set_option maxHeartbeats 1600000 in
theorem iParse_yes (text : ByteArray) (R : Nat) (neg : Bool) (S : ByteArray) (w : World) (h : rx (R : Int) = true) (hr1 : 2 ≤ R) (hr2 : R ≤ 16) (hz : ¬ (240 : Int) < (text.size : Int)) (HC : Hid (CutTo text neg S)) (hS : S.size ≤ 240) (htab : TB w) :
    Calls Tryd.prog 5 #[.string text, .int .i64 R] w fun e w' => e = pAns neg (pBody R S.data.toList) ∧ Below w.heap.size w w' := by
  have HT : Hid (TB w) := htab
  obtain ⟨C, U, D, B, hA⟩ : ∃ C U D B, pAns neg (pBody R S.data.toList) = .returned (.tuple #[.agg #[.bool C, .string U, .string D], .bool B]) := ⟨_, _, _, _, rfl⟩
  rw [hA]
  have HA : Hid (pAns neg (pBody R S.data.toList) = .returned (.tuple #[.agg #[.bool C, .string U, .string D], .bool B])) := hA
  clear hA htab
  go_enter Tryd.func5, Tryd.ntmps5
  go_wp2_with fail
  obtain ⟨V, hV, hBV, x0⟩ := boxN w #[Value.bool false, Value.string ⟨#[]⟩, Value.string ⟨#[]⟩] 23
  rw [← hV]
  have HBV : Hid (Below w.heap.size w V) := hBV
  have X0 : Hid (boxAt V _ _ _) := x0
  clear hV hBV x0
  refine (isKnown_any _ _).mono ?_
  rintro e w1 ⟨rfl, rfl⟩
  rw [h]
  go_wp2_with fail
  refine (HC.out _).mono ?_
  rintro e w1 ⟨rfl, rfl⟩
  go_wp2_with fail
  refine (ratio_any R S _ hr1 hr2 (by omega)).mono ?_
  rintro e w2 ⟨⟨a1, l1, c1, a2, l2, c2, ok, rfl, hno, hyes⟩, hb2⟩
  have HB2 : Hid (Below w.heap.size w w2) := HBV.out.trans (hb2.mono HBV.out.size)
  have X2 : Hid (boxAt w2 _ _ _) := X0.out.on hb2
  clear hb2 X0 HBV
  cases ok
  · have hz0 : Hid (C = false ∧ U = ⟨#[]⟩ ∧ D = ⟨#[]⟩ ∧ B = false) := by
      have e := HA.out
      rw [hno.out rfl, pAns_none] at e
      have e := e.symm
      injection e with e1
      injection e1 with e2
      simp at e2
      exact ⟨e2.1.1, e2.1.2.1, e2.1.2.2, e2.2⟩
    obtain ⟨hC, hU, hD, hB⟩ := hz0.out
    clear hz0 HA hno hyes
    subst hC hU hD hB
    have q0 := X2.out.cell 0 rfl
    have f0 := X2.out.frozen 0
    have q1 := X2.out.cell 1 rfl
    have f1 := X2.out.frozen 1
    have q2 := X2.out.cell 2 rfl
    have f2 := X2.out.frozen 2
    have hlt := X2.out.lt
    go_wp2
    simp only [bodyPost]
    refine ⟨trivial, _, ?_, rfl, ?_⟩
    · simp only [results, Tryd.results5]
      go_simp
    · (repeat' first | (with_reducible exact HB2.out) | (with_reducible refine belA3 ?_) | (with_reducible refine belS3 ?_ ?_) | (dsimp only; omega))
  · obtain ⟨n, m, ho, hn1, hn2, f1, f2⟩ := hyes.out rfl
    have hl := isN_len hn2
    rw [ho] at HA
    have N1 : Hid (isN w2 (.slice a1 l1 c1) n) := hn1
    have N2 : Hid (isN w2 (.slice a2 l2 c2) m) := hn2
    clear hno hyes ho hn1 hn2
    by_cases hm : m = 0
    · have hl0 : l2 = 0 := hl.2 hm
      have hz0 : Hid (C = false ∧ U = ⟨#[]⟩ ∧ D = ⟨#[]⟩ ∧ B = false) := by
        have e := HA.out
        rw [hm, pAns_zero] at e
        have e := e.symm
        injection e with e1
        injection e1 with e2
        simp at e2
        exact ⟨e2.1.1, e2.1.2.1, e2.1.2.2, e2.2⟩
      obtain ⟨hC, hU, hD, hB⟩ := hz0.out
      clear hz0 HA hl N1 N2
      subst hC hU hD hB hl0
      have q0 := X2.out.cell 0 rfl
      have f0 := X2.out.frozen 0
      have q1 := X2.out.cell 1 rfl
      have f1 := X2.out.frozen 1
      have q2 := X2.out.cell 2 rfl
      have f2 := X2.out.frozen 2
      have hlt := X2.out.lt
      go_wp2
      simp only [bodyPost]
      refine ⟨trivial, _, ?_, rfl, ?_⟩
      · simp only [results, Tryd.results5]
        go_simp
      · (repeat' first | (with_reducible exact HB2.out) | (with_reducible refine belA3 ?_) | (with_reducible refine belS3 ?_ ?_) | (dsimp only; omega))
    · have hl0 : ¬ l2 = 0 := fun e => hm (hl.1 e)
      have hl1 : ((l2 : Int) == 0) = false := beq_eq_false_iff_ne.2 (by omega)
      have hl2 : ¬ (l2 : Int) = 0 := by omega
      have e := HA.out
      rw [pAns_pos neg n m hm] at e
      have HE : Hid (Ending.returned (.tuple #[.agg #[.bool (numC neg n m), .string (numU n m), .string (numD n m)], .bool (numB n m)]) = .returned (.tuple #[.agg #[.bool C, .string U, .string D], .bool B])) := e
      clear e HA hl
      go_wp2_with fail
      refine (numOf_c neg a1 l1 c1 a2 l2 c2 n m _ N1.out N2.out hm f1 f2 (HT.out.on HB2.out)).mono ?_
      rintro e w3 ⟨he, hb3⟩
      rw [HE.out] at he
      subst he
      have HB3 : Hid (Below w.heap.size w w3) := HB2.out.trans (hb3.mono HB2.out.size)
      have X3 : Hid (boxAt w3 _ _ _) := X2.out.on hb3
      clear hb3 X2 HB2 HE N1 N2 f1 f2
      have q0 := X3.out.cell 0 rfl
      have f0 := X3.out.frozen 0
      have q1 := X3.out.cell 1 rfl
      have f1 := X3.out.frozen 1
      have q2 := X3.out.cell 2 rfl
      have f2 := X3.out.frozen 2
      have hlt := X3.out.lt
      go_wp2
      simp only [bodyPost]
      refine ⟨trivial, _, ?_, rfl, ?_⟩
      · simp only [results, Tryd.results5]
        go_simp
      · (repeat' first | (with_reducible exact HB3.out) | (with_reducible refine belA3 ?_) | (with_reducible refine belS3 ?_ ?_) | (dsimp only; omega))

/-- One answer of a call. -/
def AnsB (f : Nat) (args : Array Value) (w : World) (C : Bool) (U D : ByteArray) (B : Bool) : Prop :=
  Calls Tryd.prog f args w fun e w' => e = .returned (.tuple #[.agg #[.bool C, .string U, .string D], .bool B]) ∧ Below w.heap.size w w'

theorem bothParse (text : ByteArray) (r : Int) : ∃ C U D B, (∀ w : World, TB w → AnsB 5 #[.string text, .int .i64 r] w C U D B) ∧ (∀ w : World, AnsB 4 #[.string text, .int .i64 r] w C U D B) := by
  cases h : rx r
  · exact ⟨_, _, _, _, fun w _ => iParse_no text r w h, fun w => sParse_no text r w h⟩
  by_cases hz : (240 : Int) < (text.size : Int)
  · exact ⟨_, _, _, _, fun w _ => iParse_long text r w h hz, fun w => sParse_long text r w h hz⟩
  obtain ⟨R, rfl, hr1, hr2⟩ := rx_known r h
  have hlz : text.data.toList.length = text.size := by simp
  by_cases h0 : text.size = 0
  · have hl : text.data.toList = [] := by rw [← List.length_eq_zero_iff]; omega
    have hC : CutTo text false text := fun w => cutSign_other text text w (by rw [hl]; rfl) (ba_ext _ _ (by rw [hl]; rfl))
    exact ⟨_, _, _, _, fun w ht => iParse_yes text R false text w h hr1 hr2 hz hC (by omega) ht, fun w => sParse_empty text R R w h rfl hr1 hr2 hz h0⟩
  have h0 : 0 < text.size := by omega
  have hhd : text.data.toList = (text[0]'h0) :: text.data.toList.drop 1 := by
    have := get_drop_head text 0 h0
    rwa [List.drop_zero] at this
  by_cases h1 : (text[0]'h0).toNat = 45
  · have hc : (text[0]'h0) = 45 := UInt8.toNat_inj.1 h1
    have hp : Lib.hasPrefix text.data.toList [45] = true := by rw [hhd, hc]; simp [Lib.hasPrefix]
    have hC : CutTo text true (text.extract 1 text.size) := fun w => cutSign_minus text _ w hp (ba_ext _ _ (by
      rw [ext_drop]; unfold Lib.trimPrefix; rw [if_pos hp]; simp))
    exact ⟨_, _, _, _, fun w ht => iParse_yes text R true _ w h hr1 hr2 hz hC (by have := ext_size text 1 text.size; omega) ht, fun w => sParse_minus text R R w h rfl hr1 hr2 hz h0 h1⟩
  have hc45 : ((45 : UInt8) == (text[0]'h0)) = false := by
    rw [beq_eq_false_iff_ne]; intro e; exact h1 (by rw [← e]; rfl)
  have hp : Lib.hasPrefix text.data.toList [45] = false := by
    rw [hhd]
    show (((45 : UInt8) == (text[0]'h0)) && List.isPrefixOf [] _) = false
    rw [hc45]; rfl
  by_cases h2 : (text[0]'h0).toNat = 43
  · have hc : (text[0]'h0) = 43 := UInt8.toNat_inj.1 h2
    have hp2 : Lib.hasPrefix text.data.toList [43] = true := by rw [hhd, hc]; simp [Lib.hasPrefix]
    have hC : CutTo text false (text.extract 1 text.size) := fun w => cutSign_other text _ w hp (ba_ext _ _ (by
      rw [ext_drop]; unfold Lib.trimPrefix; rw [if_pos hp2]; simp))
    exact ⟨_, _, _, _, fun w ht => iParse_yes text R false _ w h hr1 hr2 hz hC (by have := ext_size text 1 text.size; omega) ht, fun w => sParse_plus text R R w h rfl hr1 hr2 hz h0 h2⟩
  · have hp2 : ¬ Lib.hasPrefix text.data.toList [43] = true := by
      rw [hhd]; simp [Lib.hasPrefix]; intro e; exact h2 (by rw [← e]; rfl)
    have hC : CutTo text false text := fun w => cutSign_other text _ w hp (ba_ext _ _ (by
      unfold Lib.trimPrefix; rw [if_neg hp2]))
    exact ⟨_, _, _, _, fun w ht => iParse_yes text R false text w h hr1 hr2 hz hC (by omega) ht, fun w => sParse_bare text R R w h rfl hr1 hr2 hz h0 h1 h2⟩

end Go.Proofs.YtgckhkddjckfaagDoor
