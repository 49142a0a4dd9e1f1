/-
  The specification's writing in a radix.
-/
import Derived.Test.YtbgbbhenakjbgagPr1
namespace Go.Proofs.Ytbgbbhenakjbgag
set_option maxRecDepth 100000
set_option linter.unusedVariables false
set_option linter.unusedSimpArgs false
open Go.RowKit

/-- A radix in decimal digits. -/
theorem l1Small_r (r : Nat) (w : World) (hr : rx r = true) : Calls Try.prog 67 #[.int .i64 r] w fun e w' => (∃ t : ByteArray, e = .returned (.string t) ∧ Dm.isDec t.data.toList r ∧ t.size ≤ 2) ∧ Below w.heap.size w w' := by
  have h : r = 2 ∨ r = 8 ∨ r = 10 ∨ r = 16 := by
    unfold rx at hr
    simp only [Bool.or_eq_true, beq_iff_eq] at hr
    omega
  rcases h with rfl | rfl | rfl | rfl
  · refine (l1Small_one 2 w (by omega)).mono fun e w' h => ?_
    obtain ⟨⟨t, h1, h2⟩, h3⟩ := h
    have e1 : t = _ := h2.out
    subst e1
    exact ⟨⟨_, h1, isDec_dig 2 (by omega), by decide⟩, h3⟩
  · refine (l1Small_one 8 w (by omega)).mono fun e w' h => ?_
    obtain ⟨⟨t, h1, h2⟩, h3⟩ := h
    have e1 : t = _ := h2.out
    subst e1
    exact ⟨⟨_, h1, isDec_dig 8 (by omega), by decide⟩, h3⟩
  · refine (l1Small_ten w).mono fun e w' h => ?_
    obtain ⟨⟨t, h1, h2⟩, h3⟩ := h
    have e1 : t = _ := h2.out
    subst e1
    refine ⟨⟨_, h1, ⟨by decide, ?_, by decide, by decide⟩, by decide⟩, h3⟩
    intro c hc
    simp at hc
    rcases hc with rfl | rfl <;> exact ⟨by decide, by decide⟩
  · refine (l1Small_sixteen w).mono fun e w' h => ?_
    obtain ⟨⟨t, h1, h2⟩, h3⟩ := h
    have e1 : t = _ := h2.out
    subst e1
    refine ⟨⟨_, h1, ⟨by decide, ?_, by decide, by decide⟩, by decide⟩, h3⟩
    intro c hc
    simp at hc
    rcases hc with rfl | rfl <;> exact ⟨by decide, by decide⟩

theorem val_take_le (l : List UInt8) (i : Nat) : Dm.val (l.take i) ≤ Dm.val l := by
  have h : Dm.val l = Dm.val (l.take i) * 10 ^ (l.drop i).length + Dm.val (l.drop i) := by rw [← Dm.val_append, List.take_append_drop]
  have h1 : 1 ≤ 10 ^ (l.drop i).length := Nat.one_le_pow _ _ (by omega)
  have h2 : Dm.val (l.take i) * 1 ≤ Dm.val (l.take i) * 10 ^ (l.drop i).length := Nat.mul_le_mul_left _ h1
  omega

theorem val_take_succ (s : ByteArray) (i : Nat) (hi : i < s.size) : Dm.val (s.data.toList.take (i + 1)) = Dm.val (s.data.toList.take i) * 10 + (s[i].toNat - 48) := by
  have hl : s.data.toList.length = s.size := Array.length_toList
  rw [List.take_succ_eq_append_getElem (by omega), Dm.val_snoc]
  rfl

set_option maxHeartbeats 1600000 in
theorem l2Out_any (s : ByteArray) (n r : Nat) (w : World) (hs : s.size ≤ 90000) (hn : Dm.isDec s.data.toList n) (hr : rx r = true) :
    Calls Try.prog 38 #[.string s, .int .i64 r] w fun e w' => (∃ t : ByteArray, e = .returned (.string t) ∧ t.data.toList = Rm.rad r n) ∧ Below w.heap.size w w' := by
  have hr2 : 2 ≤ r ∧ r ≤ 16 := by
    unfold rx at hr
    simp only [Bool.or_eq_true, beq_iff_eq] at hr
    omega
  have HN : Hid (Dm.isDec s.data.toList n) := hn
  have HR : Hid (rx r = true) := hr
  have HR2 : Hid (2 ≤ r ∧ r ≤ 16) := hr2
  have hlen : Hid ((Rm.rad r n).length ≤ 360001) := by
    show _ ≤ _
    have h1 := Dm.isDec_high _ _ hn
    have e1 : s.data.toList.length = s.size := Array.length_toList
    rw [e1] at h1
    have h2 : 10 ^ s.size ≤ 2 ^ (4 * s.size) := by
      rw [Nat.pow_mul]
      exact Nat.pow_le_pow_left (by omega) _
    have h3 := Rm.rad_len r n (4 * s.size) hr2.1 (by omega)
    omega
  clear hn hr hr2
  go_enter Try.func38, Try.ntmps38
  go_wp2
  go_loopw [0, 5] (fun u v wr => ∃ (p t : ByteArray) (m : Nat), u = .string p ∧ v = .string t ∧ p.size ≤ 90000 ∧ Hid (Dm.isDec p.data.toList m) ∧ Hid (Rm.rad r n = Rm.rad r m ++ t.data.toList) ∧ Below w.heap.size w wr)
    (fun u _ _ => match u with | .string t => Dm.val t.data.toList | _ => 0)
  case atStart => exact ⟨s, ⟨#[]⟩, n, rfl, rfl, hs, HN, by show _ = _; simp, Below.refl _ _⟩
  case round =>
    obtain ⟨p, t, m, rfl, rfl, hp, hm, he, hb'⟩ := hrel
    go_wp2_with fail
    refine (l1Small_r r _ HR.out).mono ?_
    rintro e w1 ⟨⟨tr, rfl, h1, h1s⟩, hb1⟩
    have D1 : Hid (Dm.isDec tr.data.toList r) := h1
    have HB1 : Hid (Below w.heap.size w w1) := hb'.trans (hb1.mono hb'.size)
    clear h1 hb1 hb'
    go_wp2_with fail
    refine (l1Div_any p tr m r _ hp (by omega) hm.out D1.out (by have := HR2.out; omega)).mono ?_
    rintro e w2 ⟨⟨t1, t2, rfl, h2, h3⟩, hb2⟩
    have D2 : Hid (Dm.isDec t1.data.toList (m / r)) := h2
    have D3 : Hid (Dm.isDec t2.data.toList (m % r)) := h3
    have HB2 : Hid (Below w.heap.size w w2) := HB1.out.trans (hb2.mono HB1.out.size)
    have z1 := isDec_size_le t1 p (m / r) m h2 hm.out (Nat.div_le_self _ _)
    have hlt16 : m % r < 16 := Nat.lt_of_lt_of_le (Nat.mod_lt _ (by have := HR2.out; omega)) HR2.out.2
    have hval : Hid (Dm.val t2.data.toList = m % r) := h3.2.2.1
    have hdig : Hid (∀ i (hi : i < t2.size), 48 ≤ t2[i].toNat ∧ t2[i].toNat ≤ 57) := fun i hi => h3.2.1 _ (List.getElem_mem (by simpa using hi))
    have z2 := isDec_size_le t2 tr (m % r) r h3 D1.out (Nat.le_of_lt (Nat.mod_lt _ (by have := HR2.out; omega)))
    clear h2 h3 hb2 HB1 D1
    go_wp2
    go_loopw [8, 9] (fun d k wr => ∃ (i c : Nat), i ≤ t2.size ∧ c ≤ m % r ∧ k = .int .i64 i ∧ d = .int .i64 c ∧ Hid (c = Dm.val (t2.data.toList.take i)) ∧ wr = w2)
      (fun _ k _ => t2.size - (intOf k).toNat)
    case atStart => exact ⟨0, 0, by omega, by omega, rfl, rfl, rfl, rfl⟩
    case round =>
      obtain ⟨i, c, hi, hc, rfl, rfl, hcv, rfl⟩ := hrel
      by_cases hlt : i < t2.size
      · have hd := hdig.out i hlt
        obtain ⟨hd1, hd2⟩ := hd
        have hnew : Hid (c * 10 + (t2[i].toNat - 48) = Dm.val (t2.data.toList.take (i + 1))) := by show _ = _; rw [val_take_succ t2 i hlt, ← hcv.out]
        have hle : c * 10 + (t2[i].toNat - 48) ≤ m % r := by rw [hnew.out, ← hval.out]; exact val_take_le _ _
        go_wp2
        go_roundw
        case rel =>
          refine ⟨i + 1, c * 10 + (t2[i].toNat - 48), by omega, hle, ?_, ?_, hnew, trivial⟩
          · go_num
          · go_num
        case measure => simp [intOf]; omega
      · obtain rfl : i = t2.size := by omega
        have hcm : c = m % r := by
          have hl : t2.data.toList.length = t2.size := Array.length_toList
          rw [hcv.out, ← hval.out, List.take_of_length_le (by omega)]
        have HCM : Hid (c = m % r) := hcm
        clear hcm
        have hc16 : c < 16 := by omega
        have hcb : c < ({ data := #[48, 49, 50, 51, 52, 53, 54, 55, 56, 57, 97, 98, 99, 100, 101, 102] } : ByteArray).size := hc16
        have hsv := string_at (wr.alloc (Obj.cells #[.int .u8 ((({ data := #[48, 49, 50, 51, 52, 53, 54, 55, 56, 57, 97, 98, 99, 100, 101, 102] } : ByteArray)[c]'hcb).toNat : Int)] 5)) wr.heap.size (({ data := #[48, 49, 50, 51, 52, 53, 54, 55, 56, 57, 97, 98, 99, 100, 101, 102] } : ByteArray)[c]'hcb) _ rfl (new_row _ _)
        have hsg : Hid (Rm.sg (m % r) = ({ data := #[48, 49, 50, 51, 52, 53, 54, 55, 56, 57, 97, 98, 99, 100, 101, 102] } : ByteArray)[c]'hcb) := by
          show _ = _
          rw [← HCM.out]
          unfold Rm.sg Rm.sgs
          rw [List.getD_eq_getElem?_getD, List.getElem?_eq_getElem (by simpa using hc16)]
          rfl
        have HB3 : Hid (Below w.heap.size w (wr.alloc (Obj.cells #[.int .u8 ((({ data := #[48, 49, 50, 51, 52, 53, 54, 55, 56, 57, 97, 98, 99, 100, 101, 102] } : ByteArray)[c]'hcb).toNat : Int)] 5))) := HB2.out.alloc HB2.out.size _
        generalize hS : (⟨#[({ data := #[48, 49, 50, 51, 52, 53, 54, 55, 56, 57, 97, 98, 99, 100, 101, 102] } : ByteArray)[c]'hcb]⟩ : ByteArray) = S at *
        have HS : Hid (⟨#[({ data := #[48, 49, 50, 51, 52, 53, 54, 55, 56, 57, 97, 98, 99, 100, 101, 102] } : ByteArray)[c]'hcb]⟩ = S) := hS
        have hS1 : S.size = 1 := by rw [← hS]; rfl
        have ht1 : t.size ≤ 360001 := by
          have e1 : t.data.toList.length = t.size := Array.length_toList
          have h1 := congrArg List.length he.out
          have h2 := hlen.out
          rw [List.length_append] at h1
          omega
        have hq := isDec_zero t1 (m / r) D2.out
        clear hS hcv hval hdig
        by_cases h0 : m / r = 0
        · have h1 : (t1.toList == [48]) = true := by rw [hq]; exact decide_eq_true h0
          clear hq
          have HE : Hid ((S ++ t).data.toList = Rm.rad r n) := by
            show _ = _
            rw [he.out, Rm.rad_last r m HR2.out.1 h0, hsg.out, ← HS.out]
            simp
          go_wp2
          go_ret
          exact ⟨⟨S ++ t, rfl, HE.out⟩, HB3.out⟩
        · have h1 : (t1.toList == [48]) = false := by rw [hq]; exact decide_eq_false h0
          clear hq
          have HM : Hid (Dm.val t1.data.toList < Dm.val p.data.toList) := by
            show _ < _
            rw [D2.out.2.2.1, hm.out.2.2.1]
            exact Nat.div_lt_self (Nat.pos_of_ne_zero (by intro e; rw [e, Nat.zero_div] at h0; exact h0 rfl)) (by have := HR2.out; omega)
          have HE : Hid (Rm.rad r n = Rm.rad r (m / r) ++ (S ++ t).data.toList) := by
            show _ = _
            rw [he.out, Rm.rad_step r m HR2.out.1 h0, hsg.out, ← HS.out]
            simp
          go_wp2
          go_roundw
          case rel => exact ⟨t1, S ++ t, m / r, rfl, rfl, by omega, D2, HE, HB3.out⟩
          case measure => exact HM.out

end Go.Proofs.Ytbgbbhenakjbgag
