/-
  Contracts of the specification's reading of digits, and of finding a sign.
-/
import Derived.Test.YtgckhkddjckfaagDoorPa1
import Derived.Lib.IndexLaws
namespace Go.Proofs.YtgckhkddjckfaagDoor
set_option maxRecDepth 100000
set_option linter.unusedVariables false
set_option linter.unusedSimpArgs false
open Go.RowKit
attribute [local go_sem ↓] Go.wp_at_zero Go.wp_at_succ

theorem decLen0 (t : ByteArray) (n k : Nat) (h : Dm.isDec t.data.toList n) (hn : n < 10 ^ k) (hk : 0 < k) : t.size ≤ k := by
  have e : t.data.toList.length = t.size := Array.length_toList
  rcases Nat.lt_or_ge 1 t.data.toList.length with h1 | h1
  · have h2 := Dm.isDec_low _ _ h h1
    have h4 := (Nat.pow_lt_pow_iff_right (by decide : 1 < 10)).1 (Nat.lt_of_le_of_lt h2 hn)
    omega
  · omega

theorem rv_ten (r : Nat) (l : List UInt8) (hr : 1 ≤ r) (hr2 : r ≤ 16) (h : ∀ c ∈ l, dgV c < r) (k : Nat) (hk : l.length ≤ k) : rv r l < 10 ^ (2 * k + 1) := by
  have h1 := rv_lt r l hr h
  have h2 : r ^ l.length ≤ 100 ^ l.length := Nat.pow_le_pow_left (by omega) _
  have h3 : (100 : Nat) ^ l.length = 10 ^ (2 * l.length) := by rw [Nat.pow_mul]
  have h4 : 10 ^ (2 * l.length) ≤ 10 ^ (2 * k + 1) := Nat.pow_le_pow_right (by omega) (by omega)
  omega

theorem mulTen (a r k : Nat) (h : a < 10 ^ (2 * k + 1)) (hr : r ≤ 16) : a * r < 10 ^ (2 * k + 3) := by
  have e : 10 ^ (2 * k + 3) = 10 ^ (2 * k + 1) * 100 := by rw [show 2 * k + 3 = (2 * k + 1) + 2 from by omega, Nat.pow_add]
  rw [e]
  have h1 : a * r ≤ a * 16 := Nat.mul_le_mul_left _ hr
  generalize 10 ^ (2 * k + 1) = P at *
  omega

/-- What reading digits in a radix tells. -/
def NatRet (r : Nat) (l : List UInt8) (e : Ending) : Prop := ∃ (t : ByteArray) (ok : Bool), e = .returned (.tuple #[.string t, .bool ok]) ∧ Hid (ok = okR r l) ∧ Hid (ok = true → Dm.isDec t.data.toList (rv r l))

set_option maxHeartbeats 2000000 in
theorem l2Nat_any (r : Nat) (s : ByteArray) (w : World) (hr : 2 ≤ r) (hr2 : r ≤ 16) (hs : s.size ≤ 300) :
    Calls Tryd.prog 11 #[.string s, .int .i64 r] w fun e w' => NatRet r s.data.toList e ∧ Below w.heap.size w w' := by
  have hl : s.data.toList.length = s.size := by simp
  have H0 : Hid (Dm.isDec (ByteArray.mk #[48]).data.toList 0) := by
    refine ⟨by simp, ?_, rfl, by simp⟩
    intro c hc; simp at hc; subst hc; exact ⟨by decide, by decide⟩
  by_cases h0 : s.size = 0
  · obtain rfl : s = ByteArray.empty := by apply ByteArray.ext; exact Array.eq_empty_of_size_eq_zero h0
    have hv : Hid (false = okR r ByteArray.empty.data.toList) := rfl
    go_enter Tryd.func11, Tryd.ntmps11
    go_wp2
    simp only [bodyPost]
    refine ⟨trivial, _, ?_, ⟨⟨#[48]⟩, false, rfl, hv, fun h => by cases h⟩, Below.refl _ _⟩
    simp [results, Tryd.results11, go_sem]
  have hp : 0 < s.size := by omega
  have hem : s.toList.isEmpty = false := by
    rw [ByteArray.toList_eq, List.isEmpty_eq_false_iff]; intro e; rw [e] at hl; simp at hl; omega
  have hem2 : s.data.toList.isEmpty = false := by
    rw [List.isEmpty_eq_false_iff]; intro e; rw [e] at hl; simp at hl; omega
  have HE : Hid (s.data.toList.isEmpty = false) := hem2
  have HL : Hid (s.data.toList.length = s.size) := hl
  clear hl h0 hem2
  go_enter Tryd.func11, Tryd.ntmps11
  go_wp2
  go_loopw [6, 7] (fun a b wr => ∃ (q : ByteArray) (i : Nat), a = .string q ∧ b = .int .i64 i ∧ i ≤ s.size ∧ Hid (Dm.isDec q.data.toList (rv r (s.data.toList.take i))) ∧ Hid (∀ c ∈ s.data.toList.take i, dgV c < r) ∧ Below w.heap.size w wr)
    (fun _ b _ => s.size - (intOf b).toNat)
  case atStart => exact ⟨_, 0, rfl, rfl, Nat.zero_le _, by show Dm.isDec _ (rv r (List.take 0 _)); rw [List.take_zero]; exact H0, by intro c hc; simp at hc, Below.refl _ _⟩
  case round =>
    obtain ⟨q, i, rfl, rfl, hi, hq, hall, hb⟩ := hrel
    have hBs := hb.size
    by_cases hlt : i < s.size
    · have hli : i < s.data.toList.length := by rw [HL.out]; exact hlt
      obtain ⟨c, hc⟩ : ∃ c, c = s[i]'hlt := ⟨_, rfl⟩
      have hc2 : s.data.toList[i]'hli = c := by rw [hc]; rfl
      have htk : s.data.toList.take (i + 1) = s.data.toList.take i ++ [c] := by
        rw [List.take_succ_eq_append_getElem hli, hc2]
      have HTK : Hid (s.data.toList.take (i + 1) = s.data.toList.take i ++ [c]) := htk
      have HMEM : Hid (c ∈ s.data.toList) := by show _ ∈ _; rw [← hc2]; exact List.getElem_mem _
      have HCC : Hid (s[i]'hlt = c) := hc.symm
      have hcn : ((s[i]'hlt).toNat : Int) = (c.toNat : Int) := by rw [hc]
      have hi0 : (0 : Int) ≤ (i : Int) := by omega
      have hi1 : (i : Int) < (s.size : Int) := by omega
      clear hc hc2 htk
      go_wp2_with fail
      refine (l2Digit_any c _).mono ?_
      rintro e w' ⟨⟨d, rfl, hd⟩, rfl⟩
      by_cases hdr : d < r
      · have hq2 : q.size ≤ 601 := decLen0 q _ (2 * 300 + 1) hq.out (rv_ten r _ (by omega) hr2 hall.out 300 (by rw [List.length_take]; omega)) (by omega)
        have hd16 : d ≤ 16 := by omega
        have hdi : ¬ ((r : Int) ≤ (d : Int)) := by omega
        go_wp2_with fail
        refine (l1Small_any r _ (by omega)).mono ?_
        rintro e w2 ⟨⟨t2, rfl, ht2, hz2⟩, hb2⟩
        have HT2 : Hid (Dm.isDec t2.data.toList r) := ht2
        have HB2 : Hid (Below w.heap.size w w2) := hb.trans (hb2.mono hBs)
        clear ht2 hb2
        go_wp2_with fail
        refine (l1Mul_any q t2 _ r _ (by omega) (by omega) hq.out HT2.out).mono ?_
        rintro e w3 ⟨⟨t3, rfl, ht3⟩, hb3⟩
        have HT3 : Hid (Dm.isDec t3.data.toList (rv r (s.data.toList.take i) * r)) := ht3
        have HB3 : Hid (Below w.heap.size w w3) := HB2.out.trans (hb3.mono HB2.out.size)
        have hz3 : t3.size ≤ 603 := decLen0 t3 _ (2 * 300 + 3) ht3 (mulTen _ r 300 (rv_ten r _ (by omega) hr2 hall.out 300 (by rw [List.length_take]; omega)) (by omega)) (by omega)
        clear ht3 hb3 HB2 hq
        go_wp2_with fail
        refine (l1Small_any d _ hd16).mono ?_
        rintro e w4 ⟨⟨t4, rfl, ht4, hz4⟩, hb4⟩
        have HT4 : Hid (Dm.isDec t4.data.toList d) := ht4
        have HB4 : Hid (Below w.heap.size w w4) := HB3.out.trans (hb4.mono HB3.out.size)
        clear ht4 hb4 HB3
        go_wp2_with fail
        refine (l1Add_any t3 t4 _ d _ (by omega) (by omega) HT3.out HT4.out).mono ?_
        rintro e w5 ⟨⟨t5, rfl, ht5⟩, hb5⟩
        have HT5 : Hid (Dm.isDec t5.data.toList (rv r (s.data.toList.take (i + 1)))) := by
          show Dm.isDec _ _
          rw [HTK.out, rv_snoc, ← hd.out]; exact ht5
        have HB5 : Below w.heap.size w w5 := HB4.out.trans (hb5.mono HB4.out.size)
        have HALL : Hid (∀ x ∈ s.data.toList.take (i + 1), dgV x < r) := by
          intro x hx
          rw [HTK.out] at hx
          rcases List.mem_append.1 hx with h | h
          · exact hall.out x h
          · rw [List.mem_singleton] at h; subst h; rw [← hd.out]; exact hdr
        clear ht5 hb5 HB4 hall HTK hd
        go_wp2
        go_roundw
        case rel => exact ⟨t5, i + 1, rfl, by go_num, by omega, HT5, HALL, HB5⟩
        case measure => simp [intOf]; omega
      · have hdi : (r : Int) ≤ (d : Int) := by omega
        have HV : Hid (false = okR r s.data.toList) := by
          show _ = _
          unfold okR
          have : s.data.toList.all (fun c => decide (dgV c < r)) = false := by
            rw [List.all_eq_false]
            exact ⟨c, HMEM.out, by rw [← hd.out]; simpa using hdr⟩
          rw [this, Bool.and_false]
        clear hd hq hall HTK HMEM HCC
        go_wp2
        simp only [bodyPost]
        refine ⟨trivial, _, ?_, ⟨⟨#[48]⟩, false, rfl, HV, fun h => by cases h⟩, hb⟩
        simp [results, Tryd.results11, go_sem]
    · have hin : i = s.size := by omega
      subst hin
      have htk : s.data.toList.take s.size = s.data.toList := by rw [← HL.out, List.take_length]
      have HV : Hid (true = okR r s.data.toList) := by
        show _ = _
        unfold okR
        have : s.data.toList.all (fun c => decide (dgV c < r)) = true := by
          rw [List.all_eq_true]
          intro c hc
          exact decide_eq_true (hall.out c (by rw [htk]; exact hc))
        rw [this, HE.out]; rfl
      have HQ : Hid (Dm.isDec q.data.toList (rv r s.data.toList)) := by
        have h := hq.out; rw [htk] at h; exact h
      clear hq hall htk
      go_wp2
      simp only [bodyPost]
      refine ⟨trivial, _, ?_, ⟨q, true, rfl, HV, fun _ => HQ.out⟩, hb⟩
      simp [results, Tryd.results11, go_sem]

theorem get_drop_head (s : ByteArray) (i : Nat) (h : i < s.size) : s.data.toList.drop i = (s[i]'h) :: s.data.toList.drop (i + 1) := by
  have hl : i < s.data.toList.length := by simpa using h
  rw [List.drop_eq_getElem_cons hl]; rfl

set_option maxHeartbeats 1000000 in
theorem l2Find_any (s : ByteArray) (b : UInt8) (w : World) (hs : s.size ≤ 300) :
    Calls Tryd.prog 8 #[.string s, .int .u8 b.toNat] w fun e w' => e = .returned (.int .i64 (Lib.indexByte s.data.toList b)) ∧ w' = w := by
  go_enter Tryd.func8, Tryd.ntmps8
  go_wp2
  go_loop [5] (fun k => ∃ i : Nat, i ≤ s.size ∧ k = .int .i64 i ∧ Hid (Lib.indexByte s.data.toList b = if Lib.indexByte (s.data.toList.drop i) b = -1 then -1 else Lib.indexByte (s.data.toList.drop i) b + i)) (fun k => s.size - (intOf k).toNat)
  case atStart => exact ⟨0, Nat.zero_le _, rfl, by show _ = _; rw [List.drop_zero]; split <;> omega⟩
  case round =>
    obtain ⟨i, hi, rfl, he⟩ := hrel
    by_cases hlt : i < s.size
    · have hdr := get_drop_head s i hlt
      have hge := Lib.indexByte_ge (s.data.toList.drop (i + 1)) b
      have hi0 : (0 : Int) ≤ (i : Int) := by omega
      have hi1 : (i : Int) < (s.size : Int) := by omega
      by_cases hcb : (s[i]'hlt) = b
      · have hz : ((((s[i]'hlt).toNat : Int)) == (b.toNat : Int)) = true := by rw [hcb]; simp
        have hv : Hid (Lib.indexByte s.data.toList b = (i : Int)) := by
          show _ = _
          rw [he.out, hdr]
          simp [Lib.indexByte, hcb]
        clear he hdr hge hcb
        go_wp2
        go_ret
        exact ⟨ret_int hv.out.symm, rfl⟩
      · have hz : ((((s[i]'hlt).toNat : Int)) == (b.toNat : Int)) = false := by
          rw [beq_eq_false_iff_ne]; intro e
          exact hcb (UInt8.toNat_inj.1 (by omega))
        have hz2 : ¬ (((s[i]'hlt).toNat : Int)) = (b.toNat : Int) := by simpa using hz
        have hz3 : ((s[i]'hlt) == b) = false := by simpa using hcb
        have hv : Hid (Lib.indexByte s.data.toList b = if Lib.indexByte (s.data.toList.drop (i + 1)) b = -1 then -1 else Lib.indexByte (s.data.toList.drop (i + 1)) b + ((i + 1 : Nat) : Int)) := by
          show _ = _
          rw [he.out, hdr]
          simp only [Lib.indexByte, hz3, Bool.false_eq_true, if_false, beq_iff_eq]
          by_cases h1 : Lib.indexByte (s.data.toList.drop (i + 1)) b = -1
          · simp [h1]
          · simp only [h1, if_false]
            rw [if_neg (by omega)]
            omega
        clear he hdr hge hcb hz3
        go_wp2
        go_round
        case rel => exact ⟨i + 1, by omega, by go_num, hv⟩
        case measure => simp [intOf]; omega
    · have hin : i = s.size := by omega
      have hv : Hid (Lib.indexByte s.data.toList b = -1) := by
        show _ = _
        rw [he.out, List.drop_eq_nil_of_le (by simp; omega)]
        simp [Lib.indexByte]
      clear he
      go_wp2
      go_ret
      exact ⟨ret_int hv.out.symm, rfl⟩

end Go.Proofs.YtgckhkddjckfaagDoor
