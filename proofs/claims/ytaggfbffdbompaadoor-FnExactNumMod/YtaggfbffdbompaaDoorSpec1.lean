/-
  Contracts of the leaves of the specification's numbers: texts of digits.
-/
import Derived.Test.YtaggfbffdbompaaDoorRows
import Derived.Test.YtaggfbffdbompaaDoorMathD
import Derived.Test.YtaggfbffdbompaaDoorOwn
import Derived.WalkKit
import Derived.WalkSpells
import Derived.WalkLawsBesides
import Derived.Handy
namespace Go.Proofs.YtaggfbffdbompaaDoor
set_option maxRecDepth 100000
open Go.RowKit

theorem trimZ_drop (l : List UInt8) (k : Nat) (h : k + 1 < l.length) (h48 : l[k] = 48) : Dm.trimZ (l.drop k) = Dm.trimZ (l.drop (k + 1)) := by
  rw [List.drop_eq_getElem_cons (i := k) (by omega), List.drop_eq_getElem_cons (i := k + 1) (by omega)]
  rw [Dm.trimZ, if_pos h48]

theorem trimZ_stop (l : List UInt8) (k : Nat) (h : k < l.length) (h48 : k + 1 < l.length → l[k] ≠ 48) : Dm.trimZ (l.drop k) = l.drop k := by
  rcases Nat.lt_or_ge (k + 1) l.length with h1 | h1
  · rw [List.drop_eq_getElem_cons (i := k) h, List.drop_eq_getElem_cons (i := k + 1) h1]
    rw [Dm.trimZ, if_neg (h48 h1)]
  · rw [List.drop_eq_getElem_cons (i := k) h, List.drop_eq_nil_of_le (by omega)]
    rfl

theorem drop_extract (s : ByteArray) (i : Nat) : (s.extract i s.size).data.toList = s.data.toList.drop i := by
  simp [ByteArray.data_extract, List.take_of_length_le]

theorem get_48 (s : ByteArray) (i : Nat) (hi : i < s.size) (h : ((s[i].toNat : Int) == 48) = true) : s.data.toList[i]'(by simpa using hi) = 48 := by
  apply Dm.uint8_ext
  have : s[i].toNat = 48 := by simp at h; omega
  exact this

theorem get_not48 (s : ByteArray) (i : Nat) (hi : i < s.size) (h : ((s[i].toNat : Int) == 48) = false) : s.data.toList[i]'(by simpa using hi) ≠ 48 := by
  intro e
  have h1 : s[i].toNat = 48 := congrArg UInt8.toNat e
  simp [h1] at h

set_option maxHeartbeats 400000 in
theorem l1Trim_any (s : ByteArray) (w : World) (hs : s.size ≤ maxLen) (h0 : 0 < s.size) :
    Calls Tryd.prog 40 #[.string s] w fun e w' => (∃ t : ByteArray, e = .returned (.string t) ∧ t.data.toList = Dm.trimZ s.data.toList) ∧ w' = w := by
  unfold maxLen at hs
  go_enter Tryd.func40, Tryd.ntmps40
  go_wp2
  go_loop [3] (fun k => ∃ i : Nat, i < s.size ∧ k = .int .i64 i ∧ Dm.trimZ (s.data.toList.drop i) = Dm.trimZ s.data.toList) (fun k => s.size - (intOf k).toNat)
  case atStart => exact ⟨0, h0, rfl, rfl⟩
  case round =>
    obtain ⟨i, hi, rfl, he⟩ := hrel
    go_wp2
    · have h1 : (i : Int) + 1 < s.size := by assumption
      have h2 : ((s[i].toNat : Int) == 48) = true := by assumption
      go_round
      case rel => exact ⟨i + 1, by omega, by go_num, by rw [← trimZ_drop _ i (by simp; omega) (get_48 s i hi h2)]; exact he⟩
      case measure => simp [intOf]; omega
    · have h2 : ((s[i].toNat : Int) == 48) = false := by assumption
      go_ret
      exact ⟨⟨_, rfl, by rw [drop_extract, ← he, trimZ_stop _ _ (by simpa using hi) (fun _ => get_not48 s i hi h2)]⟩, rfl⟩
    · have h1 : (s.size : Int) ≤ i + 1 := by assumption
      go_ret
      exact ⟨⟨_, rfl, by rw [drop_extract, ← he, trimZ_stop _ _ (by simpa using hi) (fun h => by simp at h; omega)]⟩, rfl⟩

/-- What l1DigitsOk tells. -/
def okB (l : List UInt8) : Bool := decide (l ≠ [] ∧ (1 < l.length → l.head? ≠ some 48)) && l.all (fun c => decide (48 ≤ c.toNat ∧ c.toNat ≤ 57))

theorem okB_iff (l : List UInt8) : okB l = true ↔ Dm.isDec l (Dm.val l) := by
  simp only [okB, Dm.isDec, Dm.isDig, Bool.and_eq_true, decide_eq_true_eq, List.all_eq_true, ne_eq, and_assoc, true_and]
  constructor
  · rintro ⟨a, b, c⟩; exact ⟨a, c, b⟩
  · rintro ⟨a, c, b⟩; exact ⟨a, b, c⟩

theorem okB_empty : okB ByteArray.empty.data.toList = false := by decide +kernel

theorem okB_head (s : ByteArray) (h0 : 0 < s.size) (h1 : 1 < s.size) (h : (s[0].toNat : Int) = 48) : okB s.data.toList = false := by
  have hl : s.data.toList.length = s.size := by simp
  have e : s.data.toList.head? = some 48 := by
    rw [List.head?_eq_getElem?, List.getElem?_eq_getElem (by omega)]
    have h2 : s[0].toNat = 48 := by omega
    have : s.data.toList[0]'(by omega) = 48 := Dm.uint8_ext _ _ h2
    rw [this]
  simp [okB, e, hl, h1]

theorem okB_at (s : ByteArray) (i : Nat) (hi : i < s.size) (h : (s[i].toNat : Int) < 48 ∨ 57 < (s[i].toNat : Int)) : okB s.data.toList = false := by
  have hl : s.data.toList.length = s.size := by simp
  have hm : s.data.toList[i]'(by omega) ∈ s.data.toList := List.getElem_mem _
  have : ¬ (48 ≤ (s.data.toList[i]'(by omega)).toNat ∧ (s.data.toList[i]'(by omega)).toNat ≤ 57) := by
    show ¬ (48 ≤ s[i].toNat ∧ s[i].toNat ≤ 57); omega
  have h2 : s.data.toList.all (fun c => decide (48 ≤ c.toNat ∧ c.toNat ≤ 57)) = false := by
    rw [List.all_eq_false]; exact ⟨_, hm, by simpa using this⟩
  simp only [okB, h2, Bool.and_false]

theorem okB_all (s : ByteArray) (h0 : 0 < s.size) (hh : 1 < s.size → (s[0].toNat : Int) ≠ 48) (h : ∀ j (hj : j < s.size), 48 ≤ (s[j].toNat : Int) ∧ (s[j].toNat : Int) ≤ 57) : okB s.data.toList = true := by
  have hl : s.data.toList.length = s.size := by simp
  rw [okB_iff]
  refine ⟨by intro e; rw [e] at hl; simp at hl; omega, ?_, rfl, ?_⟩
  · intro c hc
    obtain ⟨j, hj, rfl⟩ := List.mem_iff_getElem.1 hc
    have := h j (by omega)
    show 48 ≤ s[j].toNat ∧ s[j].toNat ≤ 57
    omega
  · intro h1 e
    rw [List.head?_eq_getElem?, List.getElem?_eq_getElem (by omega)] at e
    have e' : s.data.toList[0]'(by omega) = 48 := by simpa using e
    have e2 : s[0].toNat = 48 := congrArg UInt8.toNat e'
    exact hh (by omega) (by omega)

set_option maxHeartbeats 400000 in
theorem l1DigitsOk_any (s : ByteArray) (w : World) (hs : s.size ≤ maxLen) :
    Calls Tryd.prog 58 #[.string s] w fun e w' => e = .returned (.bool (okB s.data.toList)) ∧ w' = w := by
  unfold maxLen at hs
  by_cases h0 : s.size = 0
  · obtain rfl : s = ByteArray.empty := by apply ByteArray.ext; exact Array.eq_empty_of_size_eq_zero h0
    go_enter Tryd.func58, Tryd.ntmps58
    go_wp2
    go_ret
    exact ⟨ret_bool okB_empty.symm, rfl⟩
  · have hp : 0 < s.size := by omega
    have hz : ((s.size : Int) == 0) = false := beq_eq_false_iff_ne.2 (by omega)
    by_cases hh : 1 < s.size ∧ (s[0].toNat : Int) = 48
    · obtain ⟨hh1, hh2⟩ := hh
      have hv := okB_head s hp hh1 hh2
      have H1 : ((s[0].toNat : Int) == 48) = true := by rw [beq_iff_eq]; exact hh2
      clear hh2
      go_enter Tryd.func58, Tryd.ntmps58
      go_wp2
      go_ret
      exact ⟨ret_bool (by first | rfl | exact hv.symm), rfl⟩
    · have HH : Hid (1 < s.size → (s[0].toNat : Int) ≠ 48) := fun a b => hh ⟨a, b⟩
      have main : ∀ w : World, Calls Tryd.prog 58 #[.string s] w fun e w' => e = .returned (.bool (okB s.data.toList)) ∧ w' = w := by
        intro w
        by_cases h1 : 1 < s.size
        all_goals
          first
            | have H1 : ((s[0].toNat : Int) == 48) = false := by
                rw [beq_eq_false_iff_ne]; exact HH.out h1
            | skip
          clear hh
          go_enter Tryd.func58, Tryd.ntmps58
          go_wp2
          go_loop [3] (fun k => ∃ i : Nat, i ≤ s.size ∧ k = .int .i64 i ∧ Hid (∀ j (hj : j < s.size), j < i → 48 ≤ (s[j].toNat : Int) ∧ (s[j].toNat : Int) ≤ 57)) (fun k => s.size - (intOf k).toNat)
          case atStart => exact ⟨0, by omega, rfl, fun j _ hj => absurd hj (by omega)⟩
          case round =>
            obtain ⟨i, hi, rfl, he⟩ := hrel
            by_cases hlt : i < s.size
            · by_cases hd : 48 ≤ (s[i].toNat : Int) ∧ (s[i].toNat : Int) ≤ 57
              · obtain ⟨hd1, hd2⟩ := hd
                have he2 : Hid (∀ j (hj : j < s.size), j < i + 1 → 48 ≤ (s[j].toNat : Int) ∧ (s[j].toNat : Int) ≤ 57) := by
                  intro j hj hji
                  by_cases e : j = i
                  · subst e; exact ⟨hd1, hd2⟩
                  · exact he.out j hj (by omega)
                go_wp2
                go_round
                case rel => exact ⟨i + 1, by omega, by go_num, he2⟩
                case measure => simp [intOf]; omega
              · have hv := okB_at s i hlt (by omega)
                by_cases hd1 : (s[i].toNat : Int) < 48
                · clear hd
                  go_wp2
                  go_ret
                  exact ⟨ret_bool (by first | rfl | exact hv.symm), rfl⟩
                · have hd2 : 57 < (s[i].toNat : Int) := by omega
                  clear hd
                  go_wp2
                  go_ret
                  exact ⟨ret_bool (by first | rfl | exact hv.symm), rfl⟩
            · go_wp2
              go_ret
              exact ⟨ret_bool (okB_all s hp HH.out (fun j hj => he.out j hj (by omega))).symm, rfl⟩
      exact main w

theorem at_int (s : ByteArray) (x k : Nat) (hx : Dm.isDec s.data.toList x) (hk : k < s.size) :
    (s[s.size - 1 - k]'(by omega)).toNat = 48 + x / 10 ^ k % 10 := by
  have hl : s.data.toList.length = s.size := by simp
  have h := Dm.val_digit s.data.toList hx.2.1 k (by omega)
  rw [hx.2.2.1] at h
  simp only [hl] at h
  have hd := hx.2.1 (s.data.toList[s.size - 1 - k]'(by omega)) (List.getElem_mem _)
  have e : (s.data.toList[s.size - 1 - k]'(by omega)).toNat = (s[s.size - 1 - k]'(by omega)).toNat := rfl
  rw [e] at h
  have := hd.1
  rw [e] at this
  omega

set_option maxHeartbeats 400000 in
theorem l1At_any (s : ByteArray) (x k : Nat) (w : World) (hs : s.size ≤ maxLen) (hk : k ≤ maxLen) (hx : Dm.isDec s.data.toList x) :
    Calls Tryd.prog 52 #[.string s, .int .i64 k] w fun e w' => e = .returned (.int .i64 (x / 10 ^ k % 10 : Nat)) ∧ w' = w := by
  unfold maxLen at hs hk
  have hl : s.data.toList.length = s.size := by simp
  by_cases h : s.size ≤ k
  · have hv : x / 10 ^ k % 10 = 0 := by rw [← hx.2.2.1, Dm.val_digit_past _ hx.2.1 k (by omega)]
    clear hx
    go_enter Tryd.func52, Tryd.ntmps52
    go_wp2
    go_ret
    exact ⟨ret_int (by rw [hv]; rfl), rfl⟩
  · have hv := at_int s x k hx (by omega)
    have H : Hid ((s[s.size - 1 - k]'(by omega)).toNat = 48 + x / 10 ^ k % 10) := hv
    have b1 : 48 ≤ (s[s.size - 1 - k]'(by omega)).toNat := by omega
    clear hv hx
    go_enter Tryd.func52, Tryd.ntmps52
    go_wp2
    go_ret
    exact ⟨ret_int (by have := H.out; omega), rfl⟩

/-- -1, 0 or 1. -/
def cmpI (x y : Nat) : Int := if x < y then -1 else if y < x then 1 else 0

theorem cmpI_lt {x y : Nat} (h : x < y) : cmpI x y = -1 := by simp [cmpI, h]

theorem cmpI_gt {x y : Nat} (h : y < x) : cmpI x y = 1 := by simp [cmpI, h]; omega

theorem cmpI_eq (x : Nat) : cmpI x x = 0 := by simp [cmpI]

theorem cmpI_nonneg {x y : Nat} (h : y ≤ x) : 0 ≤ cmpI x y := by unfold cmpI; split <;> (try split) <;> omega

theorem cmpI_neg {x y : Nat} (h : x < y) : cmpI x y < 0 := by unfold cmpI; split <;> (try split) <;> omega

theorem less_val (a b : List UInt8) (ha : ∀ c ∈ a, Dm.isDig c) (hb : ∀ c ∈ b, Dm.isDig c) (hl : a.length = b.length) :
    Op.bytesLess a b = decide (Dm.val a < Dm.val b) := by
  induction a generalizing b with
  | nil => obtain rfl := List.length_eq_zero_iff.1 hl.symm; simp [Op.bytesLess]
  | cons c a ih =>
    match b, hl with
    | d :: b, hl =>
      simp only [List.length_cons, Nat.add_right_cancel_iff] at hl
      have hc := ha c (List.mem_cons_self ..)
      have hd := hb d (List.mem_cons_self ..)
      have ha' : ∀ x ∈ a, Dm.isDig x := fun x hx => ha x (List.mem_cons_of_mem _ hx)
      have hb' : ∀ x ∈ b, Dm.isDig x := fun x hx => hb x (List.mem_cons_of_mem _ hx)
      rw [Op.bytesLess, ih b ha' hb' hl, Dm.val_cons, Dm.val_cons, hl]
      have h1 := Dm.val_lt a ha'
      have h2 := Dm.val_lt b hb'
      rw [hl] at h1
      have e1 : (c < d) ↔ c.toNat < d.toNat := UInt8.lt_iff_toNat_lt
      have e2 : (c = d) ↔ c.toNat = d.toNat := ⟨fun h => by rw [h], Dm.uint8_ext _ _⟩
      rw [Bool.eq_iff_iff]
      simp only [Bool.or_eq_true, Bool.and_eq_true, decide_eq_true_eq, beq_iff_eq, e1, e2]
      have := hc.1
      have := hd.1
      generalize 10 ^ b.length = t at *
      rcases Nat.lt_trichotomy c.toNat d.toNat with h | h | h
      · have : (c.toNat - 48 + 1) * t ≤ (d.toNat - 48) * t := Nat.mul_le_mul_right _ (by omega)
        rw [Nat.add_mul] at this
        constructor
        · intro; omega
        · intro; exact .inl h
      · rw [h]
        constructor
        · rintro (h' | h')
          · omega
          · omega
        · intro h'; exact .inr ⟨rfl, by omega⟩
      · have : (d.toNat - 48 + 1) * t ≤ (c.toNat - 48) * t := Nat.mul_le_mul_right _ (by omega)
        rw [Nat.add_mul] at this
        constructor
        · rintro (h' | h') <;> omega
        · intro; omega

theorem eq_val (a b : List UInt8) (ha : ∀ c ∈ a, Dm.isDig c) (hb : ∀ c ∈ b, Dm.isDig c) (hl : a.length = b.length) :
    (a == b) = decide (Dm.val a = Dm.val b) := by
  rw [Bool.eq_iff_iff, beq_iff_eq, decide_eq_true_eq]
  exact ⟨fun h => by rw [h], Dm.val_inj a b ha hb hl⟩

set_option maxHeartbeats 400000 in
theorem l1Cmp_any (a b : ByteArray) (x y : Nat) (w : World) (hx : Dm.isDec a.data.toList x) (hy : Dm.isDec b.data.toList y) :
    Calls Tryd.prog 42 #[.string a, .string b] w fun e w' => e = .returned (.int .i64 (cmpI x y)) ∧ w' = w := by
  have hla : a.data.toList.length = a.size := by simp
  have hlb : b.data.toList.length = b.size := by simp
  rcases Nat.lt_trichotomy a.size b.size with h | h | h
  · have hv := cmpI_lt (Dm.isDec_len_lt _ _ x y hx hy (by omega))
    have hne : ((a.size : Int) != b.size) = true := by rw [bne_iff_ne]; omega
    clear hx hy hla hlb
    go_enter Tryd.func42, Tryd.ntmps42
    go_wp2
    go_ret
    exact ⟨ret_int (by first | rfl | exact hv.symm), rfl⟩
  · have hl := less_val a.data.toList b.data.toList hx.2.1 hy.2.1 (by omega)
    have he := eq_val a.data.toList b.data.toList hx.2.1 hy.2.1 (by omega)
    rw [hx.2.2.1, hy.2.2.1, ← ByteArray.toList_eq, ← ByteArray.toList_eq] at hl he
    have hne : ((a.size : Int) != b.size) = false := by rw [bne_eq_false_iff_eq]; omega
    clear hx hy hla hlb h
    rcases Nat.lt_trichotomy x y with g | g | g
    · have hv := cmpI_lt g
      have h1 : Op.bytesLess a.toList b.toList = true := by rw [hl]; simpa using g
      clear hl he
      go_enter Tryd.func42, Tryd.ntmps42
      go_wp2
      go_ret
      exact ⟨ret_int (by first | rfl | exact hv.symm), rfl⟩
    · have hv := cmpI_eq x
      have h1 : Op.bytesLess a.toList b.toList = false := by rw [hl]; simp; omega
      have h2 : (a.toList == b.toList) = true := by rw [he]; simpa using g
      clear hl he
      subst g
      go_enter Tryd.func42, Tryd.ntmps42
      go_wp2
      go_ret
      exact ⟨ret_int (by first | rfl | exact hv.symm), rfl⟩
    · have hv := cmpI_gt g
      have h1 : Op.bytesLess a.toList b.toList = false := by rw [hl]; simp; omega
      have h2 : (a.toList == b.toList) = false := by rw [he]; simp; omega
      clear hl he
      go_enter Tryd.func42, Tryd.ntmps42
      go_wp2
      go_ret
      exact ⟨ret_int (by first | rfl | exact hv.symm), rfl⟩
  · have hv := cmpI_gt (Dm.isDec_len_lt _ _ y x hy hx (by omega))
    have hne : ((a.size : Int) != b.size) = true := by rw [bne_iff_ne]; omega
    have hnl : ¬ (a.size : Int) < b.size := by omega
    clear hx hy hla hlb
    go_enter Tryd.func42, Tryd.ntmps42
    go_wp2
    go_ret
    exact ⟨ret_int (by first | rfl | exact hv.symm), rfl⟩

end Go.Proofs.YtaggfbffdbompaaDoor
