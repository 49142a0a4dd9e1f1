/-
  The contract of the program's NumOk: it answers as the specification's.
-/
import Derived.Test.YtaggfbffdbompaaDoorOfDec
import Derived.Test.YtaggfbffdbompaaDoorIsDec
import Derived.Test.YtaggfbffdbompaaDoorSpecOk
import Derived.Deep.RegionWith
namespace Go.Proofs.YtaggfbffdbompaaDoor
set_option maxRecDepth 100000
set_option linter.unusedVariables false
set_option linter.unusedSimpArgs false
open Go.RowKit

theorem isDecimal_b (s : ByteArray) (w : World) (b : Bool) (hs : s.size ≤ maxLen) (h : dec60 s.data.toList = b) :
    Calls Tryd.prog 87 #[.string s] w fun e w' => e = .returned (.bool b) ∧ Below w.heap.size w w' := by
  rw [← h]; exact isDecimal_any s w hs

/-- What NumOk tells, in the program's order. -/

theorem okN_eq (neg : Bool) (up dn : List UInt8) : okN neg up dn = (dec60 up && dec60 dn && !(dn == [48]) && !(neg && up == [48]) && (Nat.gcd (Dm.val up) (Dm.val dn) == 1)) := by
  unfold okN dec60
  cases decide (up.length ≤ 60) <;> cases decide (dn.length ≤ 60) <;> cases okB up <;> cases okB dn <;> rfl

theorem fits60 (l : List UInt8) (h : dec60 l = true) : fits (Dm.val l) 8000 := by
  unfold dec60 at h
  rw [Bool.and_eq_true, decide_eq_true_eq] at h
  have h2 := (okB_iff l).1 h.2
  have h3 := Dm.isDec_high _ _ h2
  have h8 : fits (Dm.val l) 7 := by
    refine ⟨Nat.lt_of_lt_of_le h3 ?_⟩
    rw [base_pow]
    exact Nat.pow_le_pow_right (by omega) (by omega)
  exact h8.mono (Nat.le_refl _) (by omega)

theorem dec60_dig (l : List UInt8) (h : dec60 l = true) : ∀ c ∈ l, Dm.isDig c := by
  unfold dec60 at h
  rw [Bool.and_eq_true, decide_eq_true_eq] at h
  exact ((okB_iff l).1 h.2).2.1

theorem dec60_size (s : ByteArray) (h : dec60 s.data.toList = true) : s.size ≤ 100000 := by
  unfold dec60 at h
  rw [Bool.and_eq_true, decide_eq_true_eq] at h
  have h1 := h.1
  have e : s.data.toList.length = s.size := Array.length_toList
  omega

theorem box_cell (w w1 : World) (a b c : Value) (t : TypeId) (hb : Below (w.alloc (.cells #[a, b, c] t)).heap.size (w.alloc (.cells #[a, b, c] t)) w1) :
    w1.cell? ⟨w.heap.size, 0, none⟩ = some a ∧ w1.cell? ⟨w.heap.size, 1, none⟩ = some b ∧ w1.cell? ⟨w.heap.size, 2, none⟩ = some c := by
  have h := (hb.block w.heap.size (by show _ < (w.heap.push _).size; simp)).trans (World.alloc_heap_new w _)
  refine ⟨?_, ?_, ?_⟩ <;> simp [World.cell?, h]

set_option maxHeartbeats 2000000 in
theorem implNumOk_any (neg : Bool) (up dn : ByteArray) (w : World) (hu : up.size ≤ maxLen) (hd : dn.size ≤ maxLen) :
    Calls Tryd.prog 60 #[.agg #[.bool neg, .string up, .string dn]] w fun e w' => e = .returned (.bool (okN neg up.data.toList dn.data.toList)) ∧ Below w.heap.size w w' := by
  have hB : ∀ o, Below w.heap.size w (w.alloc o) := fun o => (Below.refl _ _).alloc (Nat.le_refl _) _
  have hA : ∀ o, w.heap.size ≤ (w.alloc o).heap.size := fun o => by show _ ≤ (w.heap.push _).size; simp
  by_cases c1 : dec60 up.data.toList = false
  · have hv : okN neg up.data.toList dn.data.toList = false := by rw [okN_eq, c1]; rfl
    have C1 : Hid (dec60 up.data.toList = false) := c1
    clear c1
    go_enter Tryd.func60, Tryd.ntmps60
    go_wp2_with fail
    refine (isDecimal_b up _ _ hu C1.out).mono ?_
    rintro e w1 ⟨rfl, hb1⟩
    go_wp2_with fail
    go_ret
    exact ⟨ret_bool hv.symm, (hB _).trans (hb1.mono (hA _))⟩
  have t1 : Hid (dec60 up.data.toList = true) := by
    revert c1; cases dec60 up.data.toList <;> intro c1
    · exact absurd rfl c1
    · exact rfl
  clear c1
  by_cases c2 : dec60 dn.data.toList = false
  · have hv : okN neg up.data.toList dn.data.toList = false := by rw [okN_eq, c2, Bool.and_false]; rfl
    have C2 : Hid (dec60 dn.data.toList = false) := c2
    clear c2
    go_enter Tryd.func60, Tryd.ntmps60
    go_wp2_with fail
    refine (isDecimal_b up _ _ hu t1.out).mono ?_
    rintro e w1 ⟨rfl, hb1⟩
    obtain ⟨k0, k1, k2⟩ := box_cell w w1 _ _ _ _ hb1
    go_wp2_with fail
    refine (isDecimal_b dn _ _ hd C2.out).mono ?_
    rintro e w2 ⟨rfl, hb2⟩
    go_wp2_with fail
    go_ret
    exact ⟨ret_bool hv.symm, (hB _).trans ((hb1.mono (hA _)).trans (hb2.mono (Nat.le_trans (hA _) hb1.size)))⟩
  have t2 : Hid (dec60 dn.data.toList = true) := by
    revert c2; cases dec60 dn.data.toList <;> intro c2
    · exact absurd rfl c2
    · exact rfl
  clear c2
  have hbu : (up.toList == [48]) = (up.data.toList == [48]) := by rw [ByteArray.toList_eq]
  have hbd : (dn.toList == [48]) = (dn.data.toList == [48]) := by rw [ByteArray.toList_eq]
  by_cases c3 : (dn.toList == [48]) = true
  · have hv : okN neg up.data.toList dn.data.toList = false := by
      rw [hbd] at c3
      rw [okN_eq, c3]; simp
    clear hbu hbd
    go_enter Tryd.func60, Tryd.ntmps60
    go_wp2_with fail
    refine (isDecimal_b up _ _ hu t1.out).mono ?_
    rintro e w1 ⟨rfl, hb1⟩
    obtain ⟨k0, k1, k2⟩ := box_cell w w1 _ _ _ _ hb1
    go_wp2_with fail
    refine (isDecimal_b dn _ _ hd t2.out).mono ?_
    rintro e w2 ⟨rfl, hb2⟩
    have hW : Hid (Below w.heap.size w w2) := (hB _).trans ((hb1.mono (hA _)).trans (hb2.mono (Nat.le_trans (hA _) hb1.size)))
    obtain ⟨k0, k1, k2⟩ := box_cell w w2 _ _ _ _ (hb1.trans (hb2.mono hb1.size))
    clear hb1 hb2
    go_wp2
    go_ret
    exact ⟨ret_bool (by first | rfl | exact hv.symm), hW.out⟩
  have c3' : (dn.toList == [48]) = false := by simpa using c3
  by_cases c6 : neg = true ∧ (up.toList == [48]) = true
  · obtain ⟨rfl, c6⟩ := c6
    have hv : okN true up.data.toList dn.data.toList = false := by
      rw [hbu] at c6
      rw [okN_eq, c6]; simp
    clear c3 hbu hbd
    go_enter Tryd.func60, Tryd.ntmps60
    go_wp2_with fail
    refine (isDecimal_b up _ _ hu t1.out).mono ?_
    rintro e w1 ⟨rfl, hb1⟩
    obtain ⟨k0, k1, k2⟩ := box_cell w w1 _ _ _ _ hb1
    go_wp2_with fail
    refine (isDecimal_b dn _ _ hd t2.out).mono ?_
    rintro e w2 ⟨rfl, hb2⟩
    have hW : Hid (Below w.heap.size w w2) := (hB _).trans ((hb1.mono (hA _)).trans (hb2.mono (Nat.le_trans (hA _) hb1.size)))
    obtain ⟨k0, k1, k2⟩ := box_cell w w2 _ _ _ _ (hb1.trans (hb2.mono hb1.size))
    clear hb1 hb2
    go_wp2
    go_ret
    exact ⟨ret_bool (by first | rfl | exact hv.symm), hW.out⟩
  have hv : Hid (okN neg up.data.toList dn.data.toList = (Nat.gcd (Dm.val up.data.toList) (Dm.val dn.data.toList) == 1)) := by
    show okN neg up.data.toList dn.data.toList = _
    have e3 : (dn.data.toList == [48]) = false := by rw [← hbd]; exact c3'
    have e4 : (neg && up.data.toList == [48]) = false := by
      rw [← hbu]
      cases neg
      · rfl
      · rw [Bool.true_and]; simpa using c6
    rw [okN_eq, t1.out, t2.out, e3, e4]; rfl
  have hu' : up.size ≤ 100000 := dec60_size _ t1.out
  have hd' : dn.size ≤ 100000 := dec60_size _ t2.out
  have DU : Hid (∀ c ∈ up.data.toList, Dm.isDig c) := dec60_dig _ t1.out
  have DD : Hid (∀ c ∈ dn.data.toList, Dm.isDig c) := dec60_dig _ t2.out
  have FU := fits60 _ t1.out
  have FD := fits60 _ t2.out
  clear c3 hbu hbd
  cases neg
  · clear c6
    go_enter Tryd.func60, Tryd.ntmps60
    go_wp2_with fail
    refine (isDecimal_b up _ _ hu t1.out).mono ?_
    rintro e w1 ⟨rfl, hb1⟩
    obtain ⟨k0, k1, k2⟩ := box_cell w w1 _ _ _ _ hb1
    go_wp2_with fail
    refine (isDecimal_b dn _ _ hd t2.out).mono ?_
    rintro e w2 ⟨rfl, hb2⟩
    have hW : Hid (Below w.heap.size w w2) := (hB _).trans ((hb1.mono (hA _)).trans (hb2.mono (Nat.le_trans (hA _) hb1.size)))
    obtain ⟨k0, k1, k2⟩ := box_cell w w2 _ _ _ _ (hb1.trans (hb2.mono hb1.size))
    clear hb1 hb2
    go_wp2_with fail
    have hlt : w.heap.size < w2.drew.heap.size := by
      have h := hW.out.size
      have h2 : w2.drew.heap.size = w2.heap.size := rfl
      rcases Nat.lt_or_ge w.heap.size w2.heap.size with h3 | h3
      · exact h3
      · have hn : w2.heap[w.heap.size]? = none := by simp; omega
        rw [World.cell?, hn] at k2
        exact absurd k2 (by simp)
    have k2' : w2.drew.cell? ⟨w.heap.size, 2, none⟩ = some (Value.string dn) := k2
    refine Go.wp_mono (Q := fun e a' w' => match e with | .normal => (∃ us : Array Value, a' = { tmps := us, defers := [] } ∧ us[2]? = some (Value.bool (okN false up.data.toList dn.data.toList))) ∧ Below w.heap.size w w' | _ => False) ?_ ?_
    · go_region_with (first
        | (go_at_call_of 69 (Value.string up); refine (natOfDecimal_any up _ hu' DU.out).mono ?_; rintro e w3 ⟨⟨v3, rfl, h3⟩, hb3⟩; have H3 : Hid (isN w3 v3 (Dm.val up.data.toList)) := h3; have j2 := (hb3.cell (p := ⟨w.heap.size, 2, none⟩) hlt).trans k2'; have HB3 : Hid (Below w2.drew.heap.size w2.drew w3) := hb3; clear h3 hb3)
        | (go_at_call_of 69 (Value.string dn); refine (natOfDecimal_any dn _ hd' DD.out).mono ?_; rintro e w4 ⟨⟨v4, rfl, h4⟩, hb4⟩; have G3 : Hid (isN w4 v3 (Dm.val up.data.toList)) := isN_below H3.out hb4; have H4 : Hid (isN w4 v4 (Dm.val dn.data.toList)) := h4; have HB4 : Hid (Below w3.heap.size w3 w4) := hb4; clear h4 hb4)
        | (go_at_call 33; refine (gcd_any _ _ _ _ _ G3.out H4.out FU FD).mono ?_; rintro e w5 ⟨⟨v5, rfl, h5⟩, hb5⟩; have H5 : Hid (isN w5 v5 _) := h5; have HB5 : Hid (Below w4.heap.size w4 w5) := hb5; clear h5 hb5)
        | (go_at_call 88; refine (isOne_any _ _ _ H5.out).mono ?_; rintro e w6 ⟨rfl, rfl⟩))
      all_goals
        refine ⟨⟨_, rfl, ?_⟩, ?_⟩
        · rw [hv.out]; rfl
        · have s2 := hW.out.size
          have s3 : w2.heap.size ≤ w3.heap.size := HB3.out.size
          have s4 := HB4.out.size
          have hdr : Below w.heap.size w2 w2.drew := ⟨rfl, rfl, rfl, Nat.le_refl _, fun _ _ => rfl⟩
          exact hW.out.trans (hdr.trans ((HB3.out.mono s2).trans ((HB4.out.mono (Nat.le_trans s2 s3)).trans (HB5.out.mono (Nat.le_trans (Nat.le_trans s2 s3) s4)))))
    · intro e a' w' hq
      cases e
      case normal =>
        obtain ⟨⟨us, rfl, hus⟩, hb⟩ := hq
        go_wp2
        go_ret
        refine ⟨?_, hb⟩
        show Ending.returned (us.getD 2 undef) = _
        rw [Array.getD_eq_getD_getElem?, hus]
        rfl
      all_goals exact hq.elim
  · have c6' : (up.toList == [48]) = false := by simpa using c6
    clear c6
    go_enter Tryd.func60, Tryd.ntmps60
    go_wp2_with fail
    refine (isDecimal_b up _ _ hu t1.out).mono ?_
    rintro e w1 ⟨rfl, hb1⟩
    obtain ⟨k0, k1, k2⟩ := box_cell w w1 _ _ _ _ hb1
    go_wp2_with fail
    refine (isDecimal_b dn _ _ hd t2.out).mono ?_
    rintro e w2 ⟨rfl, hb2⟩
    have hW : Hid (Below w.heap.size w w2) := (hB _).trans ((hb1.mono (hA _)).trans (hb2.mono (Nat.le_trans (hA _) hb1.size)))
    obtain ⟨k0, k1, k2⟩ := box_cell w w2 _ _ _ _ (hb1.trans (hb2.mono hb1.size))
    clear hb1 hb2
    go_wp2_with fail
    have hlt : w.heap.size < w2.drew.heap.size := by
      have h := hW.out.size
      have h2 : w2.drew.heap.size = w2.heap.size := rfl
      rcases Nat.lt_or_ge w.heap.size w2.heap.size with h3 | h3
      · exact h3
      · have hn : w2.heap[w.heap.size]? = none := by simp; omega
        rw [World.cell?, hn] at k2
        exact absurd k2 (by simp)
    have k2' : w2.drew.cell? ⟨w.heap.size, 2, none⟩ = some (Value.string dn) := k2
    refine Go.wp_mono (Q := fun e a' w' => match e with | .normal => (∃ us : Array Value, a' = { tmps := us, defers := [] } ∧ us[2]? = some (Value.bool (okN true up.data.toList dn.data.toList))) ∧ Below w.heap.size w w' | _ => False) ?_ ?_
    · go_region_with (first
        | (go_at_call_of 69 (Value.string up); refine (natOfDecimal_any up _ hu' DU.out).mono ?_; rintro e w3 ⟨⟨v3, rfl, h3⟩, hb3⟩; have H3 : Hid (isN w3 v3 (Dm.val up.data.toList)) := h3; have j2 := (hb3.cell (p := ⟨w.heap.size, 2, none⟩) hlt).trans k2'; have HB3 : Hid (Below w2.drew.heap.size w2.drew w3) := hb3; clear h3 hb3)
        | (go_at_call_of 69 (Value.string dn); refine (natOfDecimal_any dn _ hd' DD.out).mono ?_; rintro e w4 ⟨⟨v4, rfl, h4⟩, hb4⟩; have G3 : Hid (isN w4 v3 (Dm.val up.data.toList)) := isN_below H3.out hb4; have H4 : Hid (isN w4 v4 (Dm.val dn.data.toList)) := h4; have HB4 : Hid (Below w3.heap.size w3 w4) := hb4; clear h4 hb4)
        | (go_at_call 33; refine (gcd_any _ _ _ _ _ G3.out H4.out FU FD).mono ?_; rintro e w5 ⟨⟨v5, rfl, h5⟩, hb5⟩; have H5 : Hid (isN w5 v5 _) := h5; have HB5 : Hid (Below w4.heap.size w4 w5) := hb5; clear h5 hb5)
        | (go_at_call 88; refine (isOne_any _ _ _ H5.out).mono ?_; rintro e w6 ⟨rfl, rfl⟩))
      all_goals
        refine ⟨⟨_, rfl, ?_⟩, ?_⟩
        · rw [hv.out]; rfl
        · have s2 := hW.out.size
          have s3 : w2.heap.size ≤ w3.heap.size := HB3.out.size
          have s4 := HB4.out.size
          have hdr : Below w.heap.size w2 w2.drew := ⟨rfl, rfl, rfl, Nat.le_refl _, fun _ _ => rfl⟩
          exact hW.out.trans (hdr.trans ((HB3.out.mono s2).trans ((HB4.out.mono (Nat.le_trans s2 s3)).trans (HB5.out.mono (Nat.le_trans (Nat.le_trans s2 s3) s4)))))
    · intro e a' w' hq
      cases e
      case normal =>
        obtain ⟨⟨us, rfl, hus⟩, hb⟩ := hq
        go_wp2
        go_ret
        refine ⟨?_, hb⟩
        show Ending.returned (us.getD 2 undef) = _
        rw [Array.getD_eq_getD_getElem?, hus]
        rfl
      all_goals exact hq.elim

end Go.Proofs.YtaggfbffdbompaaDoor
