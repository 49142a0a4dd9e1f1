/-
  The contract of the program's reading of digits in a radix.
-/
import Derived.Test.YtgckhkddjckfaagDoorPa6
import Derived.Test.YtgckhkddjckfaagDoorSigned
namespace Go.Proofs.YtgckhkddjckfaagDoor
set_option maxRecDepth 100000
set_option linter.unusedVariables false
set_option linter.unusedSimpArgs false
open Go.RowKit Go.Lib
attribute [local go_sem ↓] Go.wp_at_zero Go.wp_at_succ

theorem below_iterAt {n : Nat} {a w : World} (h : Below n a w) (k : Nat) (hk : n ≤ k) (s : ByteArray) (p : Nat) : Below n a (w.iterAt k s p) :=
  h.trans ⟨rfl, rfl, rfl, by rw [Lib.iterAt_size]; exact Nat.le_refl _, fun j hj => Lib.iterAt_other _ _ _ _ _ (by omega)⟩

theorem isN_iterAt {w : World} {v : Value} {n k : Nat} {s : ByteArray} {p : Nat} (h : isN w v n) (hk : w.heap[k]? = some (.stringIter s p)) (p' : Nat) : isN (w.iterAt k s p') v n := by
  obtain ⟨xs, h1, h2⟩ := h
  refine ⟨xs, ⟨h1.1, ?_⟩, h2⟩
  rcases h1.2 with hn | ⟨g, cap, cur, a, b, c, d⟩
  · exact .inl hn
  · refine .inr ⟨g, cap, cur, a, b, ?_, d⟩
    rw [Lib.iterAt_other _ _ _ _ _ (fun e => by rw [e, hk] at c; cases c)]
    exact c

/-- What reading digits in a radix tells. -/
def ReadRet (r : Nat) (l : List UInt8) (e : Ending) (w' : World) : Prop :=
  ∃ (ao : Option Addr) (len cap : Nat) (ok : Bool), e = .returned (.tuple #[.slice ao len cap, .bool ok]) ∧ Hid (ok = okR r l) ∧ Hid (ok = true → isN w' (.slice ao len cap) (rv r l))

theorem okR_bad (r : Nat) (s : ByteArray) (i : Nat) (h : i < s.size) (hc : ¬ dgV (s[i]'h) < r) : okR r s.data.toList = false := by
  unfold okR
  have hl : i < s.data.toList.length := by simpa using h
  have : s.data.toList.all (fun c => decide (dgV c < r)) = false := by
    rw [List.all_eq_false]
    exact ⟨s.data.toList[i]'hl, List.getElem_mem _, fun h2 => hc (of_decide_eq_true h2)⟩
  rw [this, Bool.and_false]

set_option maxHeartbeats 1600000 in
theorem read_any (r : Nat) (s : ByteArray) (w : World) (hr : 2 ≤ r) (hr2 : r ≤ 16) (hs : s.size ≤ 300) :
    Calls Tryd.prog 26 #[.int .i64 r, .string s] w fun e w' => ReadRet r s.data.toList e w' ∧ Below w.heap.size w w' := by
  have hrw : IntKind.u64.wrap (r : Int) = (r : Int) := by rw [IntKind.wrap_u64]; omega
  have hl : s.data.toList.length = s.size := by simp
  have HL : Hid (s.data.toList.length = s.size) := hl
  obtain ⟨b, hb0⟩ : ∃ b, s.toList.isEmpty = b := ⟨_, rfl⟩
  have HE : Hid (s.data.toList.isEmpty = b) := by show _ = _; rw [← hb0, ByteArray.toList_eq]
  clear hl
  go_enter Tryd.func26, Tryd.ntmps26
  go_wp2
  go_loopw [6] (fun a wr => ∃ (ao : Option Addr) (len cap pos : Nat), a = .slice ao len cap ∧ pos ≤ s.size ∧ Hid (wr.heap[w.heap.size]? = some (.stringIter s pos)) ∧ Hid (∀ c ∈ s.data.toList.take pos, dgV c < r) ∧ Hid (isN wr (.slice ao len cap) (rv r (s.data.toList.take pos))) ∧ Below w.heap.size w wr)
    (fun _ wr => s.size - wr.iterPos w.heap.size)
  case atStart =>
    refine ⟨none, 0, 0, 0, rfl, Nat.zero_le _, World.iter_heap w s 0, ?_, ?_, (Below.refl _ _).alloc (Nat.le_refl _) _⟩
    · intro c hc; simp at hc
    · show isN _ _ (rv r (List.take 0 _))
      rw [List.take_zero]
      exact ⟨[], World.ownsRow_nil _ _ _ _, Lm.isNat_nil⟩
  case round =>
    obtain ⟨ao, len, cap, pos, rfl, hpos, hk, hall, hq, hb⟩ := hrel
    have hkl : w.heap.size < wr.heap.size := (Array.getElem?_eq_some_iff.1 hk.out).1
    have hip : wr.iterPos w.heap.size = pos := by unfold World.iterPos; rw [hk.out]
    have HIP : Hid (wr.iterPos w.heap.size = pos) := hip
    clear hip
    by_cases hlt : pos < s.size
    · have hli : pos < s.data.toList.length := by rw [HL.out]; exact hlt
      obtain ⟨c, hc⟩ : ∃ c, c = s[pos]'hlt := ⟨_, rfl⟩
      by_cases hasc : c.toNat < 128
      · have hnx : ∀ ty, (Instr.next (.pointer (some ⟨w.heap.size, 0, none⟩)) true ty).run Tryd.prog wr = _ := fun ty => Lib.run_next_ascii_at wr w.heap.size s pos ty hk.out hlt (by rw [← hc]; exact hasc)
        rw [← hc] at hnx
        have hk1 := Lib.iterAt_heap wr w.heap.size s pos (pos + 1) hk.out
        have hq1 := isN_iterAt hq.out hk.out (pos + 1)
        have hb1 := below_iterAt hb w.heap.size (Nat.le_refl _) s (pos + 1)
        obtain ⟨X, hX⟩ : ∃ X, X = wr.iterAt w.heap.size s (pos + 1) := ⟨_, rfl⟩
        rw [← hX] at hnx hk1 hq1 hb1
        have HK1 : Hid (X.heap[w.heap.size]? = some (.stringIter s (pos + 1))) := hk1
        have HQ1 : Hid (isN X (.slice ao len cap) (rv r (s.data.toList.take pos))) := hq1
        have HB1 : Hid (Below w.heap.size w X) := hb1
        have htk : s.data.toList.take (pos + 1) = s.data.toList.take pos ++ [c] := by
          rw [List.take_succ_eq_append_getElem hli, hc]; rfl
        have HTK : Hid (s.data.toList.take (pos + 1) = s.data.toList.take pos ++ [c]) := htk
        have hdg : dgN c.toNat = dgV c := rfl
        have HDG : Hid (dgN c.toNat = dgV c) := hdg
        have HBAD : Hid (¬ dgV c < r → okR r s.data.toList = false) := fun h => okR_bad r s pos hlt (by rw [← hc]; exact h)
        have hfq : fits (rv r (s.data.toList.take pos)) 10000 := fits_ten _ (2 * 300 + 1) _ (rv_ten r _ (by omega) hr2 hall.out 300 (by rw [List.length_take]; omega)) (by omega)
        obtain ⟨N, hN⟩ : ∃ N, N = rv r (s.data.toList.take pos) := ⟨_, rfl⟩
        rw [← hN] at HQ1 hfq
        have HNN : Hid (N = rv r (s.data.toList.take pos)) := hN
        clear hk1 hq1 hb1 hX htk hdg hk hq hb hc hN hli
        go_wp2_with fail
        refine (digit_any r c.toNat _ hr hr2 (by omega)).mono ?_
        rintro e w3 ⟨⟨v, ok, rfl, hok, hv⟩, rfl⟩
        cases ok
        · have HV : Hid (false = okR r s.data.toList) := by
            show _ = _
            rw [HBAD.out (by rw [← HDG.out]; exact of_decide_eq_false hok.out.symm)]
          clear hok hv hnx HTK
          go_wp2
          simp only [bodyPost]
          refine ⟨trivial, _, ?_, ⟨none, 0, 0, false, rfl, HV, fun h => by cases h⟩, HB1.out⟩
          simp [results, Tryd.results26, go_sem]
        · have hd : dgV c < r := by rw [← HDG.out]; exact of_decide_eq_true hok.out.symm
          have ev : v = (dgV c : Int) := (hv.out rfl).trans (by rw [HDG.out])
          subst ev
          obtain ⟨d, hdd⟩ : ∃ d, d = dgV c := ⟨_, rfl⟩
          have HDD : Hid (d = dgV c) := hdd
          rw [← hdd] at hd ⊢
          clear hok hv hnx hdd
          go_wp2_with fail
          refine (timesPlus_i (.slice ao len cap) N (r : Int) (d : Int) _ HQ1.out (by omega) (by omega) (by omega) (by omega) hfq).mono ?_
          rintro e w4 ⟨⟨v4, rfl, h4⟩, hb4⟩
          obtain ⟨a4, l4, c4, rfl⟩ := isN_slice h4
          have hk4 : w4.heap[w.heap.size]? = some (.stringIter s (pos + 1)) := (hb4.block _ (Array.getElem?_eq_some_iff.1 HK1.out).1).trans HK1.out
          have HK4 : Hid (w4.heap[w.heap.size]? = some (.stringIter s (pos + 1))) := hk4
          have HQ4 : Hid (isN w4 (.slice a4 l4 c4) (rv r (s.data.toList.take (pos + 1)))) := by
            show isN _ _ _
            rw [HTK.out, rv_snoc, ← HNN.out, ← HDD.out]
            simpa using h4
          have HALL : Hid (∀ x ∈ s.data.toList.take (pos + 1), dgV x < r) := by
            intro x hx
            rw [HTK.out] at hx
            rcases List.mem_append.1 hx with h | h
            · exact hall.out x h
            · rw [List.mem_singleton] at h; subst h; rw [← HDD.out]; exact hd
          have HB4 : Below w.heap.size w w4 := HB1.out.trans (hb4.mono HB1.out.size)
          have HM : Hid (s.size - w4.iterPos w.heap.size < s.size - wr.iterPos w.heap.size) := by
            show _ < _
            have e4 : w4.iterPos w.heap.size = pos + 1 := by unfold World.iterPos; rw [hk4]
            rw [e4, HIP.out]; omega
          clear h4 hb4 hk4 hall HQ1 HB1 HK1 HTK
          go_wp2
          go_roundw
          case rel => exact ⟨a4, l4, c4, pos + 1, rfl, by omega, HK4, HALL, HQ4, HB4⟩
          case measure => exact HM.out
      · have hhi := decode_high s pos hlt (by rw [← hc]; omega)
        have hle := decode_le s pos
        have hnx : ∀ ty, (Instr.next (.pointer (some ⟨w.heap.size, 0, none⟩)) true ty).run Tryd.prog wr = _ := fun ty => Lib.run_next_any_at wr w.heap.size s pos ty hk.out hlt
        have HBAD : Hid (false = okR r s.data.toList) := by
          show _ = _
          rw [okR_bad r s pos hlt (by rw [← hc]; unfold dgV; rw [if_neg (by omega), if_neg (by omega)]; omega)]
        generalize Utf8.decode s pos = dc at *
        obtain ⟨cc, wd⟩ := dc
        dsimp only at hhi hle hnx
        have hb1 := below_iterAt hb w.heap.size (Nat.le_refl _) s (pos + wd)
        have HB1 : Hid (Below w.heap.size w (wr.iterAt w.heap.size s (pos + wd))) := hb1
        have hd99 : dgN cc = 99 := by unfold dgN; rw [if_neg (by omega), if_neg (by omega)]
        clear hb1 hk hq hb hc hall
        go_wp2_with fail
        refine (digit_any r cc _ hr hr2 (by omega)).mono ?_
        rintro e w3 ⟨⟨v, ok, rfl, hok, hv⟩, rfl⟩
        have eok : ok = false := by rw [hok.out, hd99, decide_eq_false (by omega)]
        subst eok
        clear hok hv hnx
        go_wp2
        simp only [bodyPost]
        refine ⟨trivial, _, ?_, ⟨none, 0, 0, false, rfl, HBAD, fun h => by cases h⟩, HB1.out⟩
        simp [results, Tryd.results26, go_sem]
    · have hnx : ∀ ty, (Instr.next (.pointer (some ⟨w.heap.size, 0, none⟩)) true ty).run Tryd.prog wr = _ := fun ty => Lib.run_next_end_at wr w.heap.size s pos ty hk.out hlt
      have hin : pos = s.size := by omega
      have htk : s.data.toList.take pos = s.data.toList := by rw [hin, ← HL.out, List.take_length]
      have HV : Hid ((!b) = okR r s.data.toList) := by
        show _ = _
        unfold okR
        have : s.data.toList.all (fun c => decide (dgV c < r)) = true := by
          rw [List.all_eq_true]
          intro c hc
          exact decide_eq_true (hall.out c (by rw [htk]; exact hc))
        rw [this, HE.out, Bool.and_true]
      have HQ : Hid (isN wr (.slice ao len cap) (rv r s.data.toList)) := by
        have h := hq.out; rw [htk] at h; exact h
      clear hq hall htk hk HE hin
      go_wp2
      simp only [bodyPost]
      refine ⟨trivial, _, ?_, ⟨ao, len, cap, !b, rfl, HV, fun _ => HQ.out⟩, hb⟩
      simp [results, Tryd.results26, go_sem]

end Go.Proofs.YtgckhkddjckfaagDoor
