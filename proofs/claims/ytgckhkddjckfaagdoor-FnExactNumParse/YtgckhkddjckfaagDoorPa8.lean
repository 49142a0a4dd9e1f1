/-
  Contracts of the program's cutting of texts, and of its reading of what is above and below.
-/
import Derived.Test.YtgckhkddjckfaagDoorPa7
import Derived.Test.YtgckhkddjckfaagDoorShelf
import Derived.Test.YtgckhkddjckfaagDoorWRoot1
import Derived.Test.YtgckhkddjckfaagDoorPa5
namespace Go.Proofs.YtgckhkddjckfaagDoor
set_option maxRecDepth 100000
set_option linter.unusedVariables false
set_option linter.unusedSimpArgs false
open Go.RowKit Go.Lib
attribute [local go_sem ↓] Go.wp_at_zero Go.wp_at_succ

set_option maxHeartbeats 1000000 in
theorem cut_yes (s : ByteArray) (c : UInt8) (i : Nat) (w : World) (h : Lib.indexByte s.data.toList c = (i : Int)) (hi : i < s.size) (hs : s.size ≤ 300) :
    Calls Tryd.prog 38 #[.string s, .string ⟨#[c]⟩] w fun e w' => e = .returned (.tuple #[.string (s.extract 0 i), .string (s.extract (i + 1) s.size), .bool true]) ∧ Below w.heap.size w w' := by
  have h0 : (0 : Int) ≤ (i : Int) := by omega
  have h1 : (i : Int) ≤ (s.size : Int) := by omega
  have h2 : (i : Int) + 1 ≤ (s.size : Int) := by omega
  have h3 : (0 : Int) ≤ (i : Int) + 1 := by omega
  have h4 : ((i : Int) + 1).toNat = i + 1 := by omega
  have h5 : IntKind.i64.wrap ((i : Int) + 1) = (i : Int) + 1 := by rw [IntKind.wrap_i64]; omega
  have h6 : (ByteArray.mk #[c]).size = 1 := rfl
  go_enter Tryd.func38, Tryd.ntmps38
  go_wp2_with fail
  refine (Tryd.stringslite_Index_one s c _).mono ?_
  rintro e w1 ⟨rfl, rfl⟩
  rw [h]
  go_wp2_with fail
  refine Go.wp_mono (Q := fun e a' w' => match e with | .normal => (∃ us : Array Value, a' = { tmps := us, defers := [] } ∧ us[4]? = some (.string (s.extract 0 i)) ∧ us[5]? = some (.string (s.extract (i + 1) s.size)) ∧ us[6]? = some (.bool true)) ∧ Below w1.heap.size w1 w' | _ => False) ?_ ?_
  · go_region
    all_goals exact ⟨⟨_, rfl, rfl, rfl, rfl⟩, (Below.refl _ _).drew⟩
  · intro e a' w' hq
    cases e
    case normal =>
      obtain ⟨⟨us, rfl, hu4, hu5, hu6⟩, hb⟩ := hq
      go_wp2
      simp only [bodyPost]
      refine ⟨trivial, _, ?_, rfl, hb⟩
      simp only [results, Tryd.results38]
      go_simp
    all_goals exact hq.elim

set_option maxHeartbeats 1000000 in
theorem cut_no (s : ByteArray) (c : UInt8) (w : World) (h : Lib.indexByte s.data.toList c = -1) :
    Calls Tryd.prog 38 #[.string s, .string ⟨#[c]⟩] w fun e w' => e = .returned (.tuple #[.string s, .string ⟨#[]⟩, .bool false]) ∧ Below w.heap.size w w' := by
  go_enter Tryd.func38, Tryd.ntmps38
  go_wp2_with fail
  refine (Tryd.stringslite_Index_one s c _).mono ?_
  rintro e w1 ⟨rfl, rfl⟩
  rw [h]
  go_wp2
  simp only [bodyPost]
  refine ⟨trivial, _, ?_, rfl, Below.refl _ _⟩
  simp [results, Tryd.results38, go_sem]

set_option maxHeartbeats 1000000 in
theorem scut_yes (s : ByteArray) (c : UInt8) (i : Nat) (w : World) (h : Lib.indexByte s.data.toList c = (i : Int)) (hi : i < s.size) (hs : s.size ≤ 300) :
    Calls Tryd.prog 25 #[.string s, .string ⟨#[c]⟩] w fun e w' => e = .returned (.tuple #[.string (s.extract 0 i), .string (s.extract (i + 1) s.size), .bool true]) ∧ Below w.heap.size w w' := by
  go_enter Tryd.func25, Tryd.ntmps25
  go_wp2_with fail
  refine (cut_yes s c i _ h hi hs).mono ?_
  rintro e w1 ⟨rfl, hb1⟩
  have HB1 : Hid (Below w.heap.size w w1) := hb1
  clear hb1
  go_wp2
  simp only [bodyPost]
  refine ⟨trivial, _, ?_, rfl, HB1.out⟩
  simp [results, Tryd.results25, go_sem]

set_option maxHeartbeats 1000000 in
theorem scut_no (s : ByteArray) (c : UInt8) (w : World) (h : Lib.indexByte s.data.toList c = -1) :
    Calls Tryd.prog 25 #[.string s, .string ⟨#[c]⟩] w fun e w' => e = .returned (.tuple #[.string s, .string ⟨#[]⟩, .bool false]) ∧ Below w.heap.size w w' := by
  go_enter Tryd.func25, Tryd.ntmps25
  go_wp2_with fail
  refine (cut_no s c _ h).mono ?_
  rintro e w1 ⟨rfl, hb1⟩
  have HB1 : Hid (Below w.heap.size w w1) := hb1
  clear hb1
  go_wp2
  simp only [bodyPost]
  refine ⟨trivial, _, ?_, rfl, HB1.out⟩
  simp [results, Tryd.results25, go_sem]

/-- Digits alone. -/
def pln (r : Nat) (l : List UInt8) : Option (Nat × Nat) := if okR r l then some (rv r l, 1) else none

/-- What reading what is above and below tells. -/
def RatRet (o : Option (Nat × Nat)) (e : Ending) (w' : World) : Prop :=
  ∃ (a1 : Option Addr) (l1 c1 : Nat) (a2 : Option Addr) (l2 c2 : Nat) (ok : Bool), e = .returned (.tuple #[.slice a1 l1 c1, .slice a2 l2 c2, .bool ok]) ∧
    Hid (ok = false → o = none) ∧ Hid (ok = true → ∃ n m, o = some (n, m) ∧ isN w' (.slice a1 l1 c1) n ∧ isN w' (.slice a2 l2 c2) m ∧ fits n 8000 ∧ fits m 8000)

set_option maxHeartbeats 1600000 in
theorem ratio_over (r : Nat) (s : ByteArray) (i : Nat) (w : World) (hr : 2 ≤ r) (hr2 : r ≤ 16) (hs : s.size ≤ 300) (h : Lib.indexByte s.data.toList 47 = (i : Int)) (hi : i < s.size) :
    Calls Tryd.prog 15 #[.int .i64 r, .string s] w fun e w' => RatRet (ovr r (s.data.toList.take i) (s.data.toList.drop (i + 1))) e w' ∧ Below w.heap.size w w' := by
  have z1 := ext_size s 0 i
  have z2 := ext_size s (i + 1) s.size
  have HT1 : Hid ((s.extract 0 i).data.toList = s.data.toList.take i) := ext_take s i
  have HT2 : Hid ((s.extract (i + 1) s.size).data.toList = s.data.toList.drop (i + 1)) := ext_drop s (i + 1)
  go_enter Tryd.func15, Tryd.ntmps15
  go_wp2_with fail
  refine (scut_yes s 47 i _ h hi hs).mono ?_
  rintro e w1 ⟨rfl, hb1⟩
  have HB1 : Hid (Below w.heap.size w w1) := hb1
  obtain ⟨A, hA⟩ : ∃ A, A = s.extract 0 i := ⟨_, rfl⟩
  obtain ⟨Bb, hB⟩ : ∃ Bb, Bb = s.extract (i + 1) s.size := ⟨_, rfl⟩
  rw [← hA] at HT1 z1 ⊢
  rw [← hB] at HT2 z2 ⊢
  clear hb1 h hA hB
  go_wp2_with fail
  refine (read_any r A _ hr hr2 (by omega)).mono ?_
  rintro e w2 ⟨⟨a1, l1, c1, ok1, rfl, hk1, hn1⟩, hb2⟩
  have HB2 : Hid (Below w.heap.size w w2) := HB1.out.trans (hb2.mono HB1.out.size)
  clear hb2 HB1
  go_wp2_with fail
  refine (read_any r Bb _ hr hr2 (by omega)).mono ?_
  rintro e w3 ⟨⟨a2, l2, c2, ok2, rfl, hk2, hn2⟩, hb3⟩
  have HB3 : Hid (Below w.heap.size w w3) := HB2.out.trans (hb3.mono HB2.out.size)
  have HN1 : Hid (ok1 = true → isN w3 (.slice a1 l1 c1) (rv r A.data.toList)) := fun e => isN_below (hn1.out e) hb3
  have HR : Hid (RatRet (ovr r (s.data.toList.take i) (s.data.toList.drop (i + 1))) (.returned (.tuple #[.slice a1 l1 c1, .slice a2 l2 c2, .bool (ok1 && ok2)])) w3) := by
    refine ⟨a1, l1, c1, a2, l2, c2, _, rfl, ?_, ?_⟩
    · intro e
      rw [← HT1.out, ← HT2.out]
      unfold ovr
      rw [← hk1.out, ← hk2.out, e]; rfl
    · intro e
      have e12 := e
      rw [Bool.and_eq_true] at e
      refine ⟨rv r A.data.toList, rv r Bb.data.toList, ?_, HN1.out e.1, hn2.out e.2, ?_, ?_⟩
      · rw [← HT1.out, ← HT2.out]
        unfold ovr
        rw [← hk1.out, ← hk2.out, e12]; rfl
      · exact rv_fits r A hr hr2 (by omega) (by rw [← hk1.out]; exact e.1)
      · exact rv_fits r Bb hr hr2 (by omega) (by rw [← hk2.out]; exact e.2)
  clear hb3 HB2 hk1 hn1 hk2 hn2 HN1 HT1 HT2
  cases ok1
  all_goals
    go_wp2
    simp only [bodyPost]
    refine ⟨trivial, _, ?_, HR.out, HB3.out⟩
    simp [results, Tryd.results15, go_sem]

set_option maxHeartbeats 1600000 in
theorem ratio_point (s : ByteArray) (i : Nat) (w : World) (hs : s.size ≤ 300) (h : Lib.indexByte s.data.toList 47 = -1) (h46 : Lib.indexByte s.data.toList 46 = (i : Int)) (hi : i < s.size) :
    Calls Tryd.prog 15 #[.int .i64 10, .string s] w fun e w' => RatRet (pnt (s.data.toList.take i) (s.data.toList.drop (i + 1))) e w' ∧ Below w.heap.size w w' := by
  obtain ⟨S, hS⟩ : ∃ S : ByteArray, S = s.extract 0 i ++ s.extract (i + 1) s.size := ⟨_, rfl⟩
  have hd : S.data.toList = s.data.toList.take i ++ s.data.toList.drop (i + 1) := by rw [hS, app_data, ext_take, ext_drop]
  obtain ⟨k, hk⟩ : ∃ k, k = s.size - (i + 1) := ⟨_, rfl⟩
  have hk2 : k ≤ 300 := by omega
  have hSz : S.size ≤ 300 := by
    have e : S.data.toList.length = S.size := Array.length_toList
    have e2 : s.data.toList.length = s.size := Array.length_toList
    rw [hd, List.length_append, List.length_take, List.length_drop] at e; omega
  have hzm : (s.extract 0 i ++ s.extract (i + 1) s.size).size ≤ maxLen := by rw [← hS]; unfold maxLen; omega
  have HO : Hid (pnt (s.data.toList.take i) (s.data.toList.drop (i + 1)) = if okR 10 S.data.toList then some (rv 10 S.data.toList, 10 ^ k) else none) := by
    show _ = _
    have e3 : (s.data.toList.drop (i + 1)).length = k := by rw [hk, List.length_drop]; simp
    unfold pnt; rw [← hd, e3]
  have HS : Hid (S = s.extract 0 i ++ s.extract (i + 1) s.size) := hS
  have hkz : ((s.size - (i + 1) : Nat) : Int) = (k : Int) := by rw [hk]
  clear hS hd hk
  go_enter Tryd.func15, Tryd.ntmps15
  go_wp2_with fail
  refine (scut_no s 47 _ h).mono ?_
  rintro e w1 ⟨rfl, hb1⟩
  have HB1 : Hid (Below w.heap.size w w1) := hb1
  clear hb1
  go_wp2_with fail
  refine (scut_yes s 46 i _ h46 hi hs).mono ?_
  rintro e w2 ⟨rfl, hb2⟩
  have HB2 : Hid (Below w.heap.size w w2) := HB1.out.trans (hb2.mono HB1.out.size)
  clear hb2 HB1
  have HB1 := HB2
  go_wp2_with fail
  rw [← HS.out]
  refine (read_any 10 S _ (by omega) (by omega) hSz).mono ?_
  rintro e w3 ⟨⟨a1, l1, c1, ok1, rfl, hk1, hn1⟩, hb3⟩
  have HB3 : Hid (Below w.heap.size w w3) := HB1.out.trans (hb3.mono HB1.out.size)
  clear hb3 HB1
  go_wp2_with fail
  (try rw [hkz])
  refine (natOfTens_any k _ (by omega)).mono ?_
  rintro e w4 ⟨⟨v4, rfl, h4⟩, hb4⟩
  obtain ⟨a4, l4, c4, rfl⟩ := isN_slice h4
  have HB4 : Hid (Below w.heap.size w w4) := HB3.out.trans (hb4.mono HB3.out.size)
  have HR : Hid (RatRet (pnt (s.data.toList.take i) (s.data.toList.drop (i + 1))) (.returned (.tuple #[.slice a1 l1 c1, .slice a4 l4 c4, .bool ok1])) w4) := by
    refine ⟨a1, l1, c1, a4, l4, c4, _, rfl, ?_, ?_⟩
    · intro e
      rw [HO.out, ← hk1.out, e]; rfl
    · intro e
      refine ⟨rv 10 S.data.toList, 10 ^ k, ?_, isN_below (hn1.out e) hb4, h4, ?_, pow_fits k (by omega)⟩
      · rw [HO.out, ← hk1.out, e]; rfl
      · exact rv_fits 10 S (by omega) (by omega) hSz (by rw [← hk1.out]; exact e)
  clear hb4 HB3 hk1 hn1 h4 HO
  go_wp2
  simp only [bodyPost]
  refine ⟨trivial, _, ?_, HR.out, HB4.out⟩
  simp [results, Tryd.results15, go_sem]

set_option maxHeartbeats 1600000 in
theorem ratio_ten (s : ByteArray) (w : World) (hs : s.size ≤ 300) (h : Lib.indexByte s.data.toList 47 = -1) (h46 : Lib.indexByte s.data.toList 46 = -1) :
    Calls Tryd.prog 15 #[.int .i64 10, .string s] w fun e w' => RatRet (pln 10 s.data.toList) e w' ∧ Below w.heap.size w w' := by
  obtain ⟨S, hS⟩ : ∃ S : ByteArray, S = s ++ (⟨#[]⟩ : ByteArray) := ⟨_, rfl⟩
  have hd : S.data.toList = s.data.toList := by rw [hS, app_data]; simp
  have hSz : S.size ≤ 300 := by
    have e : S.data.toList.length = S.size := Array.length_toList
    have e2 : s.data.toList.length = s.size := Array.length_toList
    rw [hd] at e; omega
  have hzm : (s ++ (⟨#[]⟩ : ByteArray)).size ≤ maxLen := by rw [← hS]; unfold maxLen; omega
  have HO : Hid (pln 10 s.data.toList = if okR 10 S.data.toList then some (rv 10 S.data.toList, 10 ^ 0) else none) := by
    show _ = _
    unfold pln
    rw [hd, Nat.pow_zero]
  have HS : Hid (S = s ++ (⟨#[]⟩ : ByteArray)) := hS
  have hz0 : (ByteArray.mk #[]).size = 0 := rfl
  clear hS hd
  go_enter Tryd.func15, Tryd.ntmps15
  go_wp2_with fail
  refine (scut_no s 47 _ h).mono ?_
  rintro e w1 ⟨rfl, hb1⟩
  have HB1 : Hid (Below w.heap.size w w1) := hb1
  clear hb1
  go_wp2_with fail
  refine (scut_no s 46 _ h46).mono ?_
  rintro e w2 ⟨rfl, hb2⟩
  have HB2 : Hid (Below w.heap.size w w2) := HB1.out.trans (hb2.mono HB1.out.size)
  clear hb2 HB1
  have HB1 := HB2
  go_wp2_with fail
  rw [← HS.out]
  refine (read_any 10 S _ (by omega) (by omega) hSz).mono ?_
  rintro e w3 ⟨⟨a1, l1, c1, ok1, rfl, hk1, hn1⟩, hb3⟩
  have HB3 : Hid (Below w.heap.size w w3) := HB1.out.trans (hb3.mono HB1.out.size)
  clear hb3 HB1
  go_wp2_with fail
  refine (natOfTens_any 0 _ (by omega)).mono ?_
  rintro e w4 ⟨⟨v4, rfl, h4⟩, hb4⟩
  obtain ⟨a4, l4, c4, rfl⟩ := isN_slice h4
  have HB4 : Hid (Below w.heap.size w w4) := HB3.out.trans (hb4.mono HB3.out.size)
  have HR : Hid (RatRet (pln 10 s.data.toList) (.returned (.tuple #[.slice a1 l1 c1, .slice a4 l4 c4, .bool ok1])) w4) := by
    refine ⟨a1, l1, c1, a4, l4, c4, _, rfl, ?_, ?_⟩
    · intro e
      rw [HO.out, ← hk1.out, e]; rfl
    · intro e
      refine ⟨rv 10 S.data.toList, 10 ^ 0, ?_, isN_below (hn1.out e) hb4, h4, ?_, pow_fits 0 (by omega)⟩
      · rw [HO.out, ← hk1.out, e]; rfl
      · exact rv_fits 10 S (by omega) (by omega) hSz (by rw [← hk1.out]; exact e)
  clear hb4 HB3 hk1 hn1 h4 HO
  go_wp2
  simp only [bodyPost]
  refine ⟨trivial, _, ?_, HR.out, HB4.out⟩
  simp [results, Tryd.results15, go_sem]

set_option maxHeartbeats 1600000 in
theorem ratio_other (r : Nat) (s : ByteArray) (w : World) (hr : 2 ≤ r) (hr2 : r ≤ 16) (hs : s.size ≤ 300) (h : Lib.indexByte s.data.toList 47 = -1) (h10 : r ≠ 10) :
    Calls Tryd.prog 15 #[.int .i64 r, .string s] w fun e w' => RatRet (pln r s.data.toList) e w' ∧ Below w.heap.size w w' := by
  obtain ⟨S, hS⟩ : ∃ S : ByteArray, S = s ++ (⟨#[]⟩ : ByteArray) := ⟨_, rfl⟩
  have hd : S.data.toList = s.data.toList := by rw [hS, app_data]; simp
  have hSz : S.size ≤ 300 := by
    have e : S.data.toList.length = S.size := Array.length_toList
    have e2 : s.data.toList.length = s.size := Array.length_toList
    rw [hd] at e; omega
  have hzm : (s ++ (⟨#[]⟩ : ByteArray)).size ≤ maxLen := by rw [← hS]; unfold maxLen; omega
  have HO : Hid (pln r s.data.toList = if okR r S.data.toList then some (rv r S.data.toList, 10 ^ 0) else none) := by
    show _ = _
    unfold pln
    rw [hd, Nat.pow_zero]
  have HS : Hid (S = s ++ (⟨#[]⟩ : ByteArray)) := hS
  have hz0 : (ByteArray.mk #[]).size = 0 := rfl
  clear hS hd
  go_enter Tryd.func15, Tryd.ntmps15
  go_wp2_with fail
  refine (scut_no s 47 _ h).mono ?_
  rintro e w1 ⟨rfl, hb1⟩
  have HB1 : Hid (Below w.heap.size w w1) := hb1
  clear hb1
  have hr10 : ((r : Int) == 10) = false := beq_eq_false_iff_ne.2 (by omega)
  have hr11 : ¬ (r : Int) = 10 := by omega
  go_wp2_with fail
  rw [← HS.out]
  refine (read_any r S _ (by omega) (by omega) hSz).mono ?_
  rintro e w3 ⟨⟨a1, l1, c1, ok1, rfl, hk1, hn1⟩, hb3⟩
  have HB3 : Hid (Below w.heap.size w w3) := HB1.out.trans (hb3.mono HB1.out.size)
  clear hb3 HB1
  go_wp2_with fail
  refine (natOfTens_any 0 _ (by omega)).mono ?_
  rintro e w4 ⟨⟨v4, rfl, h4⟩, hb4⟩
  obtain ⟨a4, l4, c4, rfl⟩ := isN_slice h4
  have HB4 : Hid (Below w.heap.size w w4) := HB3.out.trans (hb4.mono HB3.out.size)
  have HR : Hid (RatRet (pln r s.data.toList) (.returned (.tuple #[.slice a1 l1 c1, .slice a4 l4 c4, .bool ok1])) w4) := by
    refine ⟨a1, l1, c1, a4, l4, c4, _, rfl, ?_, ?_⟩
    · intro e
      rw [HO.out, ← hk1.out, e]; rfl
    · intro e
      refine ⟨rv r S.data.toList, 10 ^ 0, ?_, isN_below (hn1.out e) hb4, h4, ?_, pow_fits 0 (by omega)⟩
      · rw [HO.out, ← hk1.out, e]; rfl
      · exact rv_fits r S (by omega) (by omega) hSz (by rw [← hk1.out]; exact e)
  clear hb4 HB3 hk1 hn1 h4 HO
  go_wp2
  simp only [bodyPost]
  refine ⟨trivial, _, ?_, HR.out, HB4.out⟩
  simp [results, Tryd.results15, go_sem]

end Go.Proofs.YtgckhkddjckfaagDoor
