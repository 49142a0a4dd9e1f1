/-
  The contract of isDecimal.
-/
import Derived.Test.YtaggfbffdbompaaDoorSpec1
namespace Go.Proofs.YtaggfbffdbompaaDoor
set_option maxRecDepth 100000
set_option linter.unusedVariables false
set_option linter.unusedSimpArgs false
open Go.RowKit

/-- What isDecimal tells. -/
def dec60 (l : List UInt8) : Bool := decide (l.length ≤ 60) && okB l

theorem iter_below (w : World) (s : ByteArray) (pos : Nat) : Below w.heap.size w (w.iter s pos) := (Below.refl _ _).alloc (Nat.le_refl _) _

set_option maxHeartbeats 1000000 in
theorem isDecimal_any (s : ByteArray) (w : World) (hs : s.size ≤ maxLen) :
    Calls Tryd.prog 87 #[.string s] w fun e w' => e = .returned (.bool (dec60 s.data.toList)) ∧ Below w.heap.size w w' := by
  unfold maxLen at hs
  have hl : s.data.toList.length = s.size := by simp
  by_cases h0 : s.size = 0
  · obtain rfl : s = ByteArray.empty := by apply ByteArray.ext; exact Array.eq_empty_of_size_eq_zero h0
    have hv : dec60 ByteArray.empty.data.toList = false := by decide +kernel
    go_enter Tryd.func87, Tryd.ntmps87
    go_wp2
    go_ret
    exact ⟨ret_bool (by first | rfl | exact hv.symm), Below.refl _ _⟩
  · have hp : 0 < s.size := by omega
    have hem : s.toList.isEmpty = false := by
      rw [ByteArray.toList_eq, List.isEmpty_eq_false_iff]; intro e; rw [e] at hl; simp at hl; omega
    by_cases h1 : 60 < s.size
    · have hv : dec60 s.data.toList = false := by
        have : decide (s.data.toList.length ≤ 60) = false := by rw [hl]; simpa using h1
        simp only [dec60, this, Bool.false_and]
      have h1' : (60 : Int) < (s.size : Int) := by omega
      go_enter Tryd.func87, Tryd.ntmps87
      go_wp2
      go_ret
      exact ⟨ret_bool (by first | rfl | exact hv.symm), Below.refl _ _⟩
    · have h1' : ¬ (60 : Int) < (s.size : Int) := by omega
      have HV : Hid (dec60 s.data.toList = okB s.data.toList) := by
        show _ = _
        have : decide (s.data.toList.length ≤ 60) = true := by rw [hl]; simpa using h1
        simp only [dec60, this, Bool.true_and]
      by_cases hh : 1 < s.size ∧ (s[0].toNat : Int) = 48
      · obtain ⟨hh1, hh2⟩ := hh
        have hv : Hid (okB s.data.toList = false) := okB_head s hp hh1 hh2
        have H1 : ((s[0].toNat : Int) == 48) = true := by rw [beq_iff_eq]; exact hh2
        have H2 : (s.toList == [48]) = false := by
          rw [ByteArray.toList_eq, beq_eq_false_iff_ne]; intro e; rw [e] at hl; simp at hl; omega
        clear hh2 hl
        go_enter Tryd.func87, Tryd.ntmps87
        go_wp2
        go_ret
        exact ⟨ret_bool (by rw [HV.out, hv.out]), Below.refl _ _⟩
      · have HH : Hid (1 < s.size → (s[0].toNat : Int) ≠ 48) := fun a b => hh ⟨a, b⟩
        by_cases h48 : (s[0].toNat : Int) = 48
        · have H1 : ((s[0].toNat : Int) == 48) = true := by rw [beq_iff_eq]; exact h48
          have hs1 : s.size = 1 := by
            rcases Nat.lt_or_ge 1 s.size with h | h
            · exact absurd ⟨h, h48⟩ hh
            · omega
          have H2 : (s.toList == [48]) = true := by
            rw [ByteArray.toList_eq, beq_iff_eq]
            match hm : s.data.toList, hl with
            | [c], _ =>
              have : c = 48 := by
                have e : s.data.toList[0]'(by rw [hm]; simp) = c := by simp [hm]
                apply Dm.uint8_ext
                have e2 : (s.data.toList[0]'(by rw [hm]; simp)).toNat = s[0].toNat := rfl
                rw [← e, e2]; show _ = 48; omega
              rw [this]
            | [], h => simp at h; omega
            | _ :: _ :: _, h => simp at h; omega
          clear hh h48 hs1 hl
          go_enter Tryd.func87, Tryd.ntmps87
          go_wp2
          go_loopw [4] (fun _ wr => ∃ pos : Nat, pos ≤ s.size ∧ wr = w.iter s pos ∧ Hid (∀ j (hj : j < s.size), j < pos → 48 ≤ (s[j].toNat : Int) ∧ (s[j].toNat : Int) ≤ 57)) (fun _ wr => s.size - wr.iterPos w.heap.size)
          case atStart => exact ⟨0, by omega, rfl, fun j _ hj => absurd hj (by omega)⟩
          case round =>
            obtain ⟨pos, hpos, rfl, hI⟩ := hrel
            by_cases hlt : pos < s.size
            · have hnx : ∀ ty, (Instr.next (.pointer (some ⟨w.heap.size, 0, none⟩)) true ty).run Tryd.prog (w.iter s pos) = _ := fun ty => run_next_any w s pos ty hlt
              by_cases hdg : 48 ≤ (s[pos].toNat : Int) ∧ (s[pos].toNat : Int) ≤ 57
              · have hda := decode_ascii s pos hlt (by omega)
                rw [hda] at hnx
                dsimp only at hnx
                obtain ⟨hd1, hd2⟩ := hdg
                have hI2 : Hid (∀ j (hj : j < s.size), j < pos + 1 → 48 ≤ (s[j].toNat : Int) ∧ (s[j].toNat : Int) ≤ 57) := by
                  intro j hj hjp
                  by_cases e : j = pos
                  · subst e; exact ⟨hd1, hd2⟩
                  · exact hI.out j hj (by omega)
                clear hda
                go_wp2
                go_roundw
                case rel => exact ⟨pos + 1, by omega, rfl, hI2⟩
                case measure => simp; omega
              · have hv : Hid (okB s.data.toList = false) := okB_at s pos hlt (by omega)
                by_cases hasc : s[pos].toNat < 128
                · have hda := decode_ascii s pos hlt hasc
                  rw [hda] at hnx
                  dsimp only at hnx
                  clear hda
                  by_cases hd1 : (s[pos].toNat : Int) < 48
                  · clear hdg
                    go_wp2
                    go_ret
                    exact ⟨ret_bool (by rw [HV.out, hv.out]), iter_below _ _ _⟩
                  · have hd2 : 57 < (s[pos].toNat : Int) := by omega
                    clear hdg
                    go_wp2
                    go_ret
                    exact ⟨ret_bool (by rw [HV.out, hv.out]), iter_below _ _ _⟩
                · have hda := decode_high s pos hlt (by omega)
                  have hdl := decode_le s pos
                  generalize Utf8.decode s pos = dc at *
                  obtain ⟨c, wd⟩ := dc
                  dsimp only at hda hdl hnx
                  have hc1 : ¬ (c : Int) < 48 := by omega
                  have hc2 : 57 < (c : Int) := by omega
                  clear hdg
                  go_wp2
                  go_ret
                  exact ⟨ret_bool (by rw [HV.out, hv.out]), iter_below _ _ _⟩
            · have hnx : ∀ ty, (Instr.next (.pointer (some ⟨w.heap.size, 0, none⟩)) true ty).run Tryd.prog (w.iter s pos) = _ := fun ty => run_next_end w s pos ty hlt
              go_wp2
              go_ret
              exact ⟨ret_bool (by rw [HV.out, okB_all s hp HH.out (fun j hj => hI.out j hj (by omega))]), iter_below _ _ _⟩
        · have H1 : ((s[0].toNat : Int) == 48) = false := beq_eq_false_iff_ne.2 h48
          clear hh h48 hl
          go_enter Tryd.func87, Tryd.ntmps87
          go_wp2
          go_loopw [4] (fun _ wr => ∃ pos : Nat, pos ≤ s.size ∧ wr = w.iter s pos ∧ Hid (∀ j (hj : j < s.size), j < pos → 48 ≤ (s[j].toNat : Int) ∧ (s[j].toNat : Int) ≤ 57)) (fun _ wr => s.size - wr.iterPos w.heap.size)
          case atStart => exact ⟨0, by omega, rfl, fun j _ hj => absurd hj (by omega)⟩
          case round =>
            obtain ⟨pos, hpos, rfl, hI⟩ := hrel
            by_cases hlt : pos < s.size
            · have hnx : ∀ ty, (Instr.next (.pointer (some ⟨w.heap.size, 0, none⟩)) true ty).run Tryd.prog (w.iter s pos) = _ := fun ty => run_next_any w s pos ty hlt
              by_cases hdg : 48 ≤ (s[pos].toNat : Int) ∧ (s[pos].toNat : Int) ≤ 57
              · have hda := decode_ascii s pos hlt (by omega)
                rw [hda] at hnx
                dsimp only at hnx
                obtain ⟨hd1, hd2⟩ := hdg
                have hI2 : Hid (∀ j (hj : j < s.size), j < pos + 1 → 48 ≤ (s[j].toNat : Int) ∧ (s[j].toNat : Int) ≤ 57) := by
                  intro j hj hjp
                  by_cases e : j = pos
                  · subst e; exact ⟨hd1, hd2⟩
                  · exact hI.out j hj (by omega)
                clear hda
                go_wp2
                go_roundw
                case rel => exact ⟨pos + 1, by omega, rfl, hI2⟩
                case measure => simp; omega
              · have hv : Hid (okB s.data.toList = false) := okB_at s pos hlt (by omega)
                by_cases hasc : s[pos].toNat < 128
                · have hda := decode_ascii s pos hlt hasc
                  rw [hda] at hnx
                  dsimp only at hnx
                  clear hda
                  by_cases hd1 : (s[pos].toNat : Int) < 48
                  · clear hdg
                    go_wp2
                    go_ret
                    exact ⟨ret_bool (by rw [HV.out, hv.out]), iter_below _ _ _⟩
                  · have hd2 : 57 < (s[pos].toNat : Int) := by omega
                    clear hdg
                    go_wp2
                    go_ret
                    exact ⟨ret_bool (by rw [HV.out, hv.out]), iter_below _ _ _⟩
                · have hda := decode_high s pos hlt (by omega)
                  have hdl := decode_le s pos
                  generalize Utf8.decode s pos = dc at *
                  obtain ⟨c, wd⟩ := dc
                  dsimp only at hda hdl hnx
                  have hc1 : ¬ (c : Int) < 48 := by omega
                  have hc2 : 57 < (c : Int) := by omega
                  clear hdg
                  go_wp2
                  go_ret
                  exact ⟨ret_bool (by rw [HV.out, hv.out]), iter_below _ _ _⟩
            · have hnx : ∀ ty, (Instr.next (.pointer (some ⟨w.heap.size, 0, none⟩)) true ty).run Tryd.prog (w.iter s pos) = _ := fun ty => run_next_end w s pos ty hlt
              go_wp2
              go_ret
              exact ⟨ret_bool (by rw [HV.out, okB_all s hp HH.out (fun j hj => hI.out j hj (by omega))]), iter_below _ _ _⟩

end Go.Proofs.YtaggfbffdbompaaDoor
