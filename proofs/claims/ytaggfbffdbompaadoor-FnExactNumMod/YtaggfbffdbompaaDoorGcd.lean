/-
  The contract of the greatest that divides both.
-/
import Derived.Test.YtaggfbffdbompaaDoorDiv
namespace Go.Proofs.YtaggfbffdbompaaDoor
set_option maxRecDepth 100000
set_option linter.unusedVariables false
set_option linter.unusedSimpArgs false
open Go.RowKit

/-- What a slice of groups stands for, read off the world. -/
def leftOf (w : World) : Value → Nat
  | .slice (some a) n _ => Lm.lval ((List.range n).map (fun j => match w.cell? ⟨a.block, j, none⟩ with | some (.int _ x) => x.toNat | _ => 0))
  | _ => 0

theorem leftOf_eq {w : World} {v : Value} {n : Nat} (h : isN w v n) : leftOf w v = n := by
  obtain ⟨xs, h1, h2⟩ := h
  rcases rowN_shape h1 with ⟨rfl, rfl⟩ | ⟨g, cap, rfl, _, _, _⟩
  · exact h2.1
  · rw [← h2.1]
    show Lm.lval _ = _
    congr 1
    apply List.ext_getElem
    · simp
    · intro j h3 h4
      have := rowN_cell h1 rfl j h4
      simp [this]

set_option maxHeartbeats 1000000 in
theorem gcd_any (v u : Value) (x y : Nat) (w : World) (hv : isN w v x) (hu : isN w u y) (hL : fits x 8000) (hM : fits y 8000) :
    Calls Tryd.prog 33 #[v, u] w fun e w' => (∃ v', e = .returned v' ∧ isN w' v' (Nat.gcd x y)) ∧ Below w.heap.size w w' := by
  have HV : Hid (isN w v x) := hv
  have HU : Hid (isN w u y) := hu
  clear hv hu
  go_enter Tryd.func33, Tryd.ntmps33
  go_wp2
  go_loopw [0, 1] (fun a b wr => ∃ (p q : Value) (n m : Nat), p = a ∧ q = b ∧ fits n 8000 ∧ fits m 8000 ∧ Hid (isN wr p n) ∧ Hid (isN wr q m) ∧ Hid (Nat.gcd n m = Nat.gcd x y) ∧ Below w.heap.size w wr)
    (fun _ b wr => leftOf wr b)
  case atStart => exact ⟨_, _, x, y, rfl, rfl, hL, hM, HV, HU, rfl, Below.refl _ _⟩
  case round =>
    obtain ⟨p, q, n, m, rfl, rfl, hn, hm, hp, hq, hg, hb⟩ := hrel
    have hBs := hb.size
    obtain ⟨zs, hz, hzn⟩ := hq.out
    obtain ⟨ao, cap, rfl, _⟩ := rowN_open hz
    have hlz := Lm.isNat_length zs m 8000 hzn hm.out
    have HME : Hid (leftOf wr (.slice ao zs.length cap) = m) := leftOf_eq ⟨zs, hz, hzn⟩
    by_cases h0 : m = 0
    · have hz0 : zs = [] := by rw [h0] at hzn; exact Lm.isNat_zero zs hzn
      subst hz0
      have HG : Hid (isN wr p (Nat.gcd x y)) := by
        have e : n = Nat.gcd x y := by rw [← hg.out, h0, Nat.gcd_zero_right]
        show isN _ _ _
        rw [← e]; exact hp.out
      clear hg hp hq hz hzn h0 HME
      go_wp2
      go_ret
      exact ⟨⟨p, rfl, HG.out⟩, hb⟩
    · have hne := Lm.isNat_pos_ne zs m hzn h0
      have hlp := List.length_pos_iff.2 hne
      have hm0 : 0 < m := by omega
      clear hz hzn hne h0
      go_wp2_with fail
      refine (divide_any p _ n m _ hp.out hq.out hm0 hn hm).mono ?_
      rintro e w1 ⟨⟨v1, v2, rfl, _, h2⟩, hb1⟩
      have HR : Hid (isN w1 v2 (n % m)) := h2
      have HQ1 : Hid (isN w1 (.slice ao zs.length cap) m) := isN_below hq.out hb1
      have hfr : fits (n % m) 8000 := hm.mono (Nat.le_of_lt (Nat.mod_lt _ hm0)) (Nat.le_refl _)
      have HGG : Hid (Nat.gcd m (n % m) = Nat.gcd x y) := by show _ = _; rw [← hg.out, Nat.gcd_comm n m, Nat.gcd_rec m n, Nat.gcd_comm]
      have HMM : Hid (leftOf w1 v2 < leftOf wr (.slice ao zs.length cap)) := by
        show _ < _
        rw [HME.out, leftOf_eq h2]; exact Nat.mod_lt _ hm0
      have hb2 := hb.trans (hb1.mono hBs)
      clear h2 hg hp hb1 hb HME
      go_wp2
      go_roundw
      case rel => exact ⟨_, v2, m, n % m, rfl, rfl, hm, hfr, HQ1, HR, HGG, hb2⟩
      case measure => exact HMM.out

end Go.Proofs.YtaggfbffdbompaaDoor
