/-
  Contracts of the specification's reading of what is above and below.
-/
import Derived.Test.YtgckhkddjckfaagDoorPa2
import Derived.Test.YtgckhkddjckfaagDoorMk
namespace Go.Proofs.YtgckhkddjckfaagDoor
set_option maxRecDepth 100000
set_option linter.unusedVariables false
set_option linter.unusedSimpArgs false
open Go.RowKit
attribute [local go_sem ↓] Go.wp_at_zero Go.wp_at_succ

theorem fits_ten (n k L : Nat) (h : n < 10 ^ k) (hk : k ≤ 9 * L) : fits n L := by
  refine ⟨Nat.lt_of_lt_of_le h ?_⟩
  rw [base_pow]; exact Nat.pow_le_pow_right (by omega) hk

theorem ext_take (s : ByteArray) (i : Nat) : (s.extract 0 i).data.toList = s.data.toList.take i := by
  simp [ByteArray.data_extract]

theorem ext_drop (s : ByteArray) (j : Nat) : (s.extract j s.size).data.toList = s.data.toList.drop j := drop_extract s j

theorem ext_size (s : ByteArray) (i j : Nat) : (s.extract i j).size ≤ s.size := by
  rw [ByteArray.size_extract]; omega

theorem app_data (s t : ByteArray) : (s ++ t).data.toList = s.data.toList ++ t.data.toList := by simp

theorem rv_fits (r : Nat) (s : ByteArray) (hr : 2 ≤ r) (hr2 : r ≤ 16) (hs : s.size ≤ 300) (h : okR r s.data.toList = true) : fits (rv r s.data.toList) 8000 := by
  have hl : s.data.toList.length = s.size := by simp
  refine fits_ten _ (2 * 300 + 1) _ (rv_ten r _ (by omega) hr2 ?_ 300 (by omega)) (by omega)
  unfold okR at h
  rw [Bool.and_eq_true, List.all_eq_true] at h
  intro c hc
  exact of_decide_eq_true (h.2 c hc)

theorem belA3 {w W : World} {o : Obj} (h : Below w.heap.size w W) : Below w.heap.size w (W.alloc o) := h.alloc h.size o

theorem belS3 {w W : World} {p : Addr} {v : Value} (h : Below w.heap.size w W) (hp : w.heap.size ≤ p.block) : Below w.heap.size w (W.setCell p v) := h.setCell hp v

/-- Digits over digits. -/
def ovr (r : Nat) (a b : List UInt8) : Option (Nat × Nat) := if okR r a && okR r b then some (rv r a, rv r b) else none
/-- Digits with a point among them. -/
def pnt (a b : List UInt8) : Option (Nat × Nat) := if okR 10 (a ++ b) then some (rv 10 (a ++ b), 10 ^ b.length) else none

set_option maxHeartbeats 1600000 in
theorem l2Over_any (neg : Bool) (s : ByteArray) (i r : Nat) (w : World) (hi : i < s.size) (hs : s.size ≤ 300) (hr : 2 ≤ r) (hr2 : r ≤ 16) :
    Calls Tryd.prog 9 #[.bool neg, .string s, .int .i64 i, .int .i64 r] w fun e w' => e = pAns neg (ovr r (s.data.toList.take i) (s.data.toList.drop (i + 1))) ∧ Below w.heap.size w w' := by
  obtain ⟨C, U, D, B, hA⟩ : ∃ C U D B, pAns neg (ovr r (s.data.toList.take i) (s.data.toList.drop (i + 1))) = .returned (.tuple #[.agg #[.bool C, .string U, .string D], .bool B]) := ⟨_, _, _, _, rfl⟩
  rw [hA]
  have HA : Hid (pAns neg (ovr r (s.data.toList.take i) (s.data.toList.drop (i + 1))) = .returned (.tuple #[.agg #[.bool C, .string U, .string D], .bool B])) := hA
  have h0 : (0 : Int) ≤ (i : Int) := by omega
  have h1 : (i : Int) ≤ (s.size : Int) := by omega
  have h2 : (i : Int) + 1 ≤ (s.size : Int) := by omega
  have z1 := ext_size s 0 i
  have z2 := ext_size s (i + 1) s.size
  have HT1 : Hid ((s.extract 0 i).data.toList = s.data.toList.take i) := ext_take s i
  have HT2 : Hid ((s.extract (i + 1) s.size).data.toList = s.data.toList.drop (i + 1)) := ext_drop s (i + 1)
  clear hA
  go_enter Tryd.func9, Tryd.ntmps9
  go_wp2_with fail
  obtain ⟨V, hV, hBV, x0⟩ : ∃ V, V = w.alloc (Obj.cells #[Value.bool false, Value.string ⟨#[]⟩, Value.string ⟨#[]⟩] 23) ∧ Below w.heap.size w V ∧ boxAt V w.heap.size #[Value.bool false, Value.string ⟨#[]⟩, Value.string ⟨#[]⟩] 23 := ⟨_, rfl, (Below.refl _ _).alloc (Nat.le_refl _) _, boxAt_new _ _ _⟩
  rw [← hV]
  have HBV : Hid (Below w.heap.size w V) := hBV
  have X0 : Hid (boxAt V _ _ _) := x0
  clear hV hBV x0
  refine (l2Nat_any r _ _ hr hr2 (by omega)).mono ?_
  rintro e w1 ⟨⟨t1, ok1, rfl, hk1, hd1⟩, hb1⟩
  rw [HT1.out] at hk1 hd1
  have HK1 : Hid (ok1 = _) := hk1.out
  have HD1 : Hid (ok1 = true → Dm.isDec t1.data.toList _) := hd1.out
  have HB1 : Hid (Below w.heap.size w w1) := HBV.out.trans (hb1.mono HBV.out.size)
  have X1 : Hid (boxAt w1 _ _ _) := X0.out.on hb1
  clear hk1 hd1 hb1 X0 HBV
  go_wp2_with fail
  refine (l2Nat_any r _ _ hr hr2 (by omega)).mono ?_
  rintro e w2 ⟨⟨t2, ok2, rfl, hk2, hd2⟩, hb2⟩
  rw [HT2.out] at hk2 hd2
  have HK2 : Hid (ok2 = _) := hk2.out
  have HD2 : Hid (ok2 = true → Dm.isDec t2.data.toList _) := hd2.out
  have HB2 : Hid (Below w.heap.size w w2) := HB1.out.trans (hb2.mono HB1.out.size)
  have X2 : Hid (boxAt w2 _ _ _) := X1.out.on hb2
  clear hk2 hd2 hb2 X1 HB1
  have hno : (ok1 && ok2) = false → pAns neg (ovr r (s.data.toList.take i) (s.data.toList.drop (i + 1))) = .returned (.tuple #[.agg #[.bool false, .string ⟨#[]⟩, .string ⟨#[]⟩], .bool false]) := by
    intro h
    rw [HK1.out, HK2.out] at h
    simp only [ovr, h]
    rfl
  have HNO : Hid ((ok1 && ok2) = false → pAns neg (ovr r (s.data.toList.take i) (s.data.toList.drop (i + 1))) = .returned (.tuple #[.agg #[.bool false, .string ⟨#[]⟩, .string ⟨#[]⟩], .bool false])) := hno
  clear hno
  have q0 := X2.out.cell 0 rfl
  have f0 := X2.out.frozen 0
  have q1 := X2.out.cell 1 rfl
  have f1 := X2.out.frozen 1
  have q2 := X2.out.cell 2 rfl
  have f2 := X2.out.frozen 2
  have hlt := X2.out.lt
  have hend : (ok1 && ok2) = false → Hid (C = false ∧ U = ⟨#[]⟩ ∧ D = ⟨#[]⟩ ∧ B = false) := by
    intro h
    have e := HA.out.symm.trans (HNO.out h)
    injection e with e1
    injection e1 with e2
    simp at e2
    exact ⟨e2.1.1, e2.1.2.1, e2.1.2.2, e2.2⟩
  have HEND : Hid ((ok1 && ok2) = false → Hid (C = false ∧ U = ⟨#[]⟩ ∧ D = ⟨#[]⟩ ∧ B = false)) := hend
  clear hend HNO
  cases ok1
  · obtain ⟨hC, hU, hD, hB⟩ := (HEND.out rfl).out
    clear HEND HA
    subst hC hU hD hB
    go_wp2
    simp only [bodyPost]
    refine ⟨trivial, _, ?_, rfl, ?_⟩
    · simp only [results, Tryd.results9]
      go_simp
    · (repeat' first | (with_reducible exact HB2.out) | (with_reducible refine belA3 ?_) | (with_reducible refine belS3 ?_ ?_) | (dsimp only; omega))
  cases ok2
  · obtain ⟨hC, hU, hD, hB⟩ := (HEND.out rfl).out
    clear HEND HA
    subst hC hU hD hB
    go_wp2
    simp only [bodyPost]
    refine ⟨trivial, _, ?_, rfl, ?_⟩
    · simp only [results, Tryd.results9]
      go_simp
    · (repeat' first | (with_reducible exact HB2.out) | (with_reducible refine belA3 ?_) | (with_reducible refine belS3 ?_ ?_) | (dsimp only; omega))
  have k1 := HK1.out.symm
  have k2 := HK2.out.symm
  have F1 : fits (rv r (s.data.toList.take i)) 8000 := by
    have h := rv_fits r (s.extract 0 i) hr hr2 (by omega) (by rw [HT1.out]; exact k1)
    rw [HT1.out] at h; exact h
  have F2 : fits (rv r (s.data.toList.drop (i + 1))) 8000 := by
    have h := rv_fits r (s.extract (i + 1) s.size) hr hr2 (by omega) (by rw [HT2.out]; exact k2)
    rw [HT2.out] at h; exact h
  have HO : Hid (pAns neg (some (rv r (s.data.toList.take i), rv r (s.data.toList.drop (i + 1)))) = .returned (.tuple #[.agg #[.bool C, .string U, .string D], .bool B])) := by
    show _ = _
    rw [← HA.out]
    simp only [ovr, k1, k2, Bool.and_self, if_true]
  have G1 : Hid (Dm.isDec t1.data.toList (rv r (s.data.toList.take i))) := HD1.out rfl
  have G2 : Hid (Dm.isDec t2.data.toList (rv r (s.data.toList.drop (i + 1)))) := HD2.out rfl
  clear HEND HA k1 k2 HK1 HK2 HD1 HD2 q0 f0 q1 f1 q2 f2 hlt
  go_wp2_with fail
  refine (l2Make_o neg t1 t2 _ _ _ G1.out G2.out F1 F2).mono ?_
  rintro e w3 ⟨he, hb3⟩
  rw [HO.out] at he
  subst he
  have HB3 : Hid (Below w.heap.size w w3) := HB2.out.trans (hb3.mono HB2.out.size)
  have X3 : Hid (boxAt w3 _ _ _) := X2.out.on hb3
  clear hb3 X2 HB2 HO G1 G2 F1 F2
  have q0 := X3.out.cell 0 rfl
  have f0 := X3.out.frozen 0
  have q1 := X3.out.cell 1 rfl
  have f1 := X3.out.frozen 1
  have q2 := X3.out.cell 2 rfl
  have f2 := X3.out.frozen 2
  have hlt := X3.out.lt
  go_wp2
  simp only [bodyPost]
  refine ⟨trivial, _, ?_, rfl, ?_⟩
  · simp only [results, Tryd.results9]
    go_simp
  · (repeat' first | (with_reducible exact HB3.out) | (with_reducible refine belA3 ?_) | (with_reducible refine belS3 ?_ ?_) | (dsimp only; omega))

end Go.Proofs.YtgckhkddjckfaagDoor
