/-
  The contract of the specification's reading of digits with a point among them.
-/
import Derived.Test.YtgckhkddjckfaagDoorPa3
namespace Go.Proofs.YtgckhkddjckfaagDoor
set_option maxRecDepth 100000
set_option linter.unusedVariables false
set_option linter.unusedSimpArgs false
open Go.RowKit
attribute [local go_sem ↓] Go.wp_at_zero Go.wp_at_succ

theorem isDec_ten (l : List UInt8) (n : Nat) (h : Dm.isDec l n) (hn : n ≠ 0) : Dm.isDec (l ++ [48]) (n * 10) := by
  have h48 : Dm.isDig 48 := ⟨by decide, by decide⟩
  refine ⟨by simp, ?_, ?_, ?_⟩
  · intro c hc
    rcases List.mem_append.1 hc with h1 | h1
    · exact h.2.1 c h1
    · rw [List.mem_singleton] at h1; subst h1; exact h48
  · rw [Dm.val_snoc, h.2.2.1]; rfl
  · intro _ hh
    rcases Nat.lt_or_ge 1 l.length with h1 | h1
    · have h2 := h.2.2.2 h1
      cases l with
      | nil => exact h.1 rfl
      | cons c l' => exact h2 (by simpa using hh)
    · have h2 : l.length = 1 := by
        have := List.length_pos_iff.2 h.1; omega
      obtain ⟨c, rfl⟩ := List.length_eq_one_iff.1 h2
      simp at hh
      subst hh
      have h3 := h.2.2.1
      simp [Dm.val] at h3
      exact hn h3.symm

theorem app0_data (t : ByteArray) : (t ++ (⟨#[48]⟩ : ByteArray)).data.toList = t.data.toList ++ [48] := by simp

theorem app0_size (t : ByteArray) : (t ++ (⟨#[48]⟩ : ByteArray)).size = t.size + 1 := by
  rw [ByteArray.size_append]; rfl

theorem pow_fits (k : Nat) (hk : k ≤ 300) : fits (10 ^ k) 8000 := fits_ten _ (k + 1) 8000 (Nat.pow_lt_pow_right (by omega) (by omega)) (by omega)

set_option maxHeartbeats 2000000 in
theorem l2Point_any (neg : Bool) (s : ByteArray) (i : Nat) (w : World) (hi : i < s.size) (hs : s.size ≤ 300) :
    Calls Tryd.prog 10 #[.bool neg, .string s, .int .i64 i] w fun e w' => e = pAns neg (pnt (s.data.toList.take i) (s.data.toList.drop (i + 1))) ∧ Below w.heap.size w w' := by
  obtain ⟨C, U, D, B, hA⟩ : ∃ C U D B, pAns neg (pnt (s.data.toList.take i) (s.data.toList.drop (i + 1))) = .returned (.tuple #[.agg #[.bool C, .string U, .string D], .bool B]) := ⟨_, _, _, _, rfl⟩
  rw [hA]
  have HA : Hid (pAns neg (pnt (s.data.toList.take i) (s.data.toList.drop (i + 1))) = .returned (.tuple #[.agg #[.bool C, .string U, .string D], .bool B])) := hA
  have h0 : (0 : Int) ≤ (i : Int) := by omega
  have h1 : (i : Int) ≤ (s.size : Int) := by omega
  have h2 : (i : Int) + 1 ≤ (s.size : Int) := by omega
  have h3 : (0 : Int) ≤ (i : Int) + 1 := by omega
  have h4 : ((i : Int) + 1).toNat = i + 1 := by omega
  have h5 : IntKind.i64.wrap ((i : Int) + 1) = (i : Int) + 1 := by rw [IntKind.wrap_i64]; omega
  obtain ⟨S, hS⟩ : ∃ S : ByteArray, S = s.extract 0 i ++ s.extract (i + 1) s.size := ⟨_, rfl⟩
  have hd : S.data.toList = s.data.toList.take i ++ s.data.toList.drop (i + 1) := by rw [hS, app_data, ext_take, ext_drop]
  have hz : S.size ≤ 300 := by
    have e : S.data.toList.length = S.size := Array.length_toList
    have e2 : s.data.toList.length = s.size := Array.length_toList
    rw [hd, List.length_append, List.length_take, List.length_drop] at e; omega
  have hzm : (s.extract 0 i ++ s.extract (i + 1) s.size).size ≤ maxLen := by rw [← hS]; unfold maxLen; omega
  have HD : Hid (S.data.toList = s.data.toList.take i ++ s.data.toList.drop (i + 1)) := hd
  have HS : Hid (S = s.extract 0 i ++ s.extract (i + 1) s.size) := hS
  have H1 : Hid (Dm.isDec (ByteArray.mk #[49]).data.toList 1) := by
    refine ⟨by simp, ?_, rfl, by simp⟩
    intro c hc; simp at hc; subst hc; exact ⟨by decide, by decide⟩
  clear hA hd hS
  go_enter Tryd.func10, Tryd.ntmps10
  go_wp2_with fail
  obtain ⟨V, hV, hBV, x0⟩ : ∃ V, V = w.alloc (Obj.cells #[Value.bool false, Value.string ⟨#[]⟩, Value.string ⟨#[]⟩] 23) ∧ Below w.heap.size w V ∧ boxAt V w.heap.size #[Value.bool false, Value.string ⟨#[]⟩, Value.string ⟨#[]⟩] 23 := ⟨_, rfl, (Below.refl _ _).alloc (Nat.le_refl _) _, boxAt_new _ _ _⟩
  rw [← hV]
  have HBV : Hid (Below w.heap.size w V) := hBV
  have X0 : Hid (boxAt V _ _ _) := x0
  clear hV hBV x0
  go_region_with (go_at_call 11; rw [← HS.out]; refine (l2Nat_any 10 S _ (by omega) (by omega) hz).mono ?_; rintro e w1 ⟨⟨t1, ok1, rfl, hk1, hd1⟩, hb1⟩; rw [HD.out] at hk1 hd1; have HK1 : Hid (ok1 = _) := hk1.out; have HD1 : Hid (ok1 = true → Dm.isDec t1.data.toList _) := hd1.out; have HB1 : Hid (Below w.heap.size w w1) := HBV.out.drew.trans (hb1.mono HBV.out.size); have X1 : Hid (boxAt w1 _ _ _) := X0.out.drew.on hb1; clear hk1 hd1 hb1)
  have hno : ok1 = false → Hid (C = false ∧ U = ⟨#[]⟩ ∧ D = ⟨#[]⟩ ∧ B = false) := by
    intro h
    rw [HK1.out] at h
    have e0 : pAns neg (pnt (s.data.toList.take i) (s.data.toList.drop (i + 1))) = .returned (.tuple #[.agg #[.bool false, .string ⟨#[]⟩, .string ⟨#[]⟩], .bool false]) := by
      simp only [pnt, h]; rfl
    have e := HA.out.symm.trans e0
    injection e with e1
    injection e1 with e2
    simp at e2
    exact ⟨e2.1.1, e2.1.2.1, e2.1.2.2, e2.2⟩
  have HNO : Hid (ok1 = false → Hid (C = false ∧ U = ⟨#[]⟩ ∧ D = ⟨#[]⟩ ∧ B = false)) := hno
  clear hno
  cases ok1
  · obtain ⟨hC, hU, hD, hB⟩ := (HNO.out rfl).out
    clear HNO HA
    subst hC hU hD hB
    have X3 := X1
    have HB3 := HB1
    have q0 := X3.out.cell 0 rfl
    have f0 := X3.out.frozen 0
    have q1 := X3.out.cell 1 rfl
    have f1 := X3.out.frozen 1
    have q2 := X3.out.cell 2 rfl
    have f2 := X3.out.frozen 2
    have hlt := X3.out.lt
    go_wp2
    simp only [bodyPost]
    refine ⟨trivial, _, ?_, rfl, ?_⟩
    · simp only [results, Tryd.results10]
      go_simp
    · (repeat' first | (with_reducible exact HB3.out) | (with_reducible refine belA3 ?_) | (with_reducible refine belS3 ?_ ?_) | (dsimp only; omega))
  have k1 := HK1.out.symm
  have F1 : fits (rv 10 (s.data.toList.take i ++ s.data.toList.drop (i + 1))) 8000 := by
    have h := rv_fits 10 S (by omega) (by omega) hz (by rw [HD.out]; exact k1)
    rw [HD.out] at h; exact h
  obtain ⟨k, hk⟩ : ∃ k, k = s.size - (i + 1) := ⟨_, rfl⟩
  have hkl : (s.data.toList.drop (i + 1)).length = k := by rw [List.length_drop, hk]; simp
  have HO : Hid (pAns neg (some (rv 10 (s.data.toList.take i ++ s.data.toList.drop (i + 1)), 10 ^ k)) = .returned (.tuple #[.agg #[.bool C, .string U, .string D], .bool B])) := by
    show _ = _
    rw [← HA.out]
    simp only [pnt, k1, if_true, hkl]
  have G1 : Hid (Dm.isDec t1.data.toList (rv 10 (s.data.toList.take i ++ s.data.toList.drop (i + 1)))) := HD1.out rfl
  have F2 := pow_fits k (by omega)
  have hkn : (i : Int) + 1 + (k : Int) = (s.size : Int) := by omega
  have hk3 : k ≤ 300 := by omega
  clear HNO HA k1 HK1 HD1 hk hkl
  go_wp2_with fail
  go_loopw [10, 11] (fun a b wr => ∃ (q : ByteArray) (j : Nat), a = .string q ∧ b = .int .i64 ((i : Int) + 1 + j) ∧ j ≤ k ∧ q.size ≤ 1 + j ∧ Hid (Dm.isDec q.data.toList (10 ^ j)) ∧ wr = w1)
    (fun _ b _ => (s.size : Int).toNat - (intOf b).toNat)
  case atStart => exact ⟨_, 0, rfl, by go_num, Nat.zero_le _, by show 1 ≤ _; omega, H1, rfl⟩
  case round =>
    obtain ⟨q, j, rfl, rfl, hj, hqz, hq, rfl⟩ := hrel
    by_cases hlt2 : j < k
    · have hd2 : Hid (Dm.isDec (q ++ (⟨#[48]⟩ : ByteArray)).data.toList (10 ^ (j + 1))) := by
        show Dm.isDec _ _
        rw [app0_data, Nat.pow_succ]
        exact isDec_ten _ _ hq.out (Nat.pos_iff_ne_zero.1 (Nat.pow_pos (by decide)))
      have hz2 := app0_size q
      have hmx : (q ++ (⟨#[48]⟩ : ByteArray)).size ≤ maxLen := by rw [hz2]; unfold maxLen; omega
      have hji : (i : Int) + 1 + (j : Int) < (s.size : Int) := by omega
      clear hq
      go_wp2
      go_roundw
      case rel => exact ⟨_, j + 1, rfl, by go_num, by omega, by rw [hz2]; omega, hd2, by first | rfl | trivial⟩
      case measure => simp [intOf]; omega
    · have hjk : j = k := by omega
      subst hjk
      have hji : ¬ ((i : Int) + 1 + (j : Int) < (s.size : Int)) := by omega
      go_wp2_with fail
      refine (l2Make_o neg t1 q _ _ _ G1.out hq.out F1 F2).mono ?_
      rintro e w3 ⟨he, hb3⟩
      rw [HO.out] at he
      subst he
      have HB3 : Hid (Below w.heap.size w w3) := HB1.out.trans (hb3.mono HB1.out.size)
      have X3 : Hid (boxAt w3 _ _ _) := X1.out.on hb3
      clear hb3 HO G1 F1 F2 hq
      have q0 := X3.out.cell 0 rfl
      have f0 := X3.out.frozen 0
      have q1 := X3.out.cell 1 rfl
      have f1 := X3.out.frozen 1
      have q2 := X3.out.cell 2 rfl
      have f2 := X3.out.frozen 2
      have hlt := X3.out.lt
      go_wp2
      simp only [bodyPost]
      refine ⟨trivial, _, ?_, rfl, ?_⟩
      · simp only [results, Tryd.results10]
        go_simp
      · (repeat' first | (with_reducible exact HB3.out) | (with_reducible refine belA3 ?_) | (with_reducible refine belS3 ?_ ?_) | (dsimp only; omega))

end Go.Proofs.YtgckhkddjckfaagDoor
