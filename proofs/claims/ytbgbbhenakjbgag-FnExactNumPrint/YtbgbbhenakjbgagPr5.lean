/-
  The program's writing in a radix.
-/
import Derived.Test.YtbgbbhenakjbgagPr3
import Derived.Test.YtbgbbhenakjbgagPr4
import Derived.Test.YtbgbbhenakjbgagDivW
import Derived.Test.YtbgbbhenakjbgagOnce
namespace Go.Proofs.Ytbgbbhenakjbgag
set_option maxRecDepth 100000
set_option linter.unusedVariables false
set_option linter.unusedSimpArgs false
open Go.RowKit

theorem isN_len0 {w : World} {ao : Option Addr} {len cap n : Nat} (hn : isN w (.slice ao len cap) n) : len = 0 ↔ n = 0 := by
  obtain ⟨xs, h1, h2⟩ := hn
  have hlx : len = xs.length := by
    rcases rowN_shape h1 with ⟨e, rfl⟩ | ⟨g, cap', e, _⟩
    · cases e; rfl
    · cases e; rfl
  rw [hlx]
  constructor
  · intro h; rw [← h2.1, List.length_eq_zero_iff.1 h]; rfl
  · intro h; subst h; rw [Lm.isNat_zero xs h2]; rfl

theorem byV_snoc (l : List UInt8) (b : UInt8) : byV l ++ [Value.int .u8 b.toNat] = byV (l ++ [b]) := by simp [byV]

theorem isN_row_apart {W : World} {v u : Value} {n B k : Nat} {ys : List Value} (h : isN W v n) (hu : W.ownsRow B 5 1 u k ys) : v.ownBlock = none ∨ v.ownBlock ≠ u.ownBlock := by
  obtain ⟨xs, h1, _⟩ := h
  rcases h1.2 with ⟨rfl, _⟩ | ⟨g, cap, cur, rfl, _, h3, _⟩
  · exact .inl rfl
  · right
    intro e
    rcases hu.2 with ⟨rfl, _⟩ | ⟨g2, cap2, cur2, rfl, _, h4, _⟩
    · simp [Value.ownBlock] at e
    · simp only [Value.ownBlock, Option.some.injEq] at e
      subst e
      rw [h3] at h4
      simp only [Option.some.injEq, Obj.cells.injEq] at h4
      exact absurd h4.2.1 (by decide)

theorem isN_kept {w w' : World} {v : Value} {n : Nat} {row : Option Nat} (h : isN w v n) (hg : w.grownBy w' row) (hne : v.ownBlock = none ∨ v.ownBlock ≠ row) : isN w' v n := by
  obtain ⟨xs, h1, h2⟩ := h
  exact ⟨xs, World.ownsRow.kept h1 hg hne, h2⟩

/-- A slice's length. -/
def lenOf : Value → Nat
  | .slice _ l _ => l
  | _ => 0
theorem lenOf_own {W : World} {B e n : Nat} {v : Value} {xs : List Value} (h : W.ownsRow B e 1 v n xs) : lenOf v = n := by
  rcases own_shape h with ⟨rfl, e⟩ | ⟨g, cap, rfl, _⟩
  · exact e.symm
  · rfl

set_option maxHeartbeats 2000000 in
theorem write_pos (k : Nat) (ao : Option Addr) (len cap n : Nat) (w : World) (hk : 2 ≤ k ∧ k ≤ 16) (hn : isN w (.slice ao len cap) n) (hL : fits n 10000) (h0 : n ≠ 0) (hlen : (Rm.lows k n).length ≤ 1000000) :
    Calls Try.prog 41 #[.int .i64 k, .slice ao len cap] w fun e w' => (∃ t : ByteArray, e = .returned (.string t) ∧ t.data.toList = Rm.rad k n) ∧ Below w.heap.size w w' := by
  obtain ⟨i0, hi, hz0, hz1, hz2⟩ := info_parts infoU8
  have hlz : ((len : Int) == 0) = false := by rw [beq_eq_false_iff_ne]; have := isN_len0 hn; omega
  have HN : Hid (isN w (.slice ao len cap) n) := hn
  have HLen : Hid ((Rm.lows k n).length ≤ 1000000) := hlen
  have HF : Hid (fits n 10000) := hL
  have H0 : Hid (n ≠ 0) := h0
  obtain ⟨hk2, hk16⟩ := hk
  have hku : IntKind.u64.wrap (k : Int) = k := by simp [IntKind.wrap_u64]; omega
  clear hn hL h0 hlen
  go_enter Try.func41, Try.ntmps41
  go_wp2
  clear hlz
  go_loopw [1, 5] (fun u v wr => ∃ (ao' : Option Addr) (len' cap' m : Nat) (vv : Value) (ys : List UInt8), u = .slice ao' len' cap' ∧ v = vv ∧ Hid (isN wr (.slice ao' len' cap') m) ∧ Hid (m ≤ n) ∧ Hid (Rm.lows k n = ys ++ Rm.lows k m) ∧
      wr.ownsRow w.heap.size 5 1 vv ys.length (byV ys) ∧ Below w.heap.size w wr)
    (fun _ v _ => 1000001 - lenOf v)
  case atStart => exact ⟨ao, len, cap, n, _, [], rfl, rfl, HN, Nat.le_refl _, rfl, World.ownsRow_nil _ _ _ _, Below.refl _ _⟩
  case round =>
    obtain ⟨ao', len', cap', m, vv, ys, rfl, rfl, hm, hmn, hl, ho, hb⟩ := hrel
    have hBs := hb.size
    have hz := isN_len0 hm.out
    have hys : Hid (ys.length ≤ 1000000) := by
      show _ ≤ _
      have h1 := congrArg List.length hl.out
      have h2 := HLen.out
      rw [List.length_append] at h1
      omega
    by_cases hm0 : m = 0
    · have HE : Hid (Rm.lows k n = ys) := by
        show _ = _
        rw [hl.out, hm0, Rm.lows_zero, List.append_nil]
      have hne : ys.length ≠ 0 := by
        intro e
        have h1 := Rm.lows_pos k n hk2 H0.out
        rw [HE.out, List.length_eq_zero_iff.1 e] at h1
        cases h1
      obtain rfl : len' = 0 := hz.2 hm0
      obtain ⟨g, cap2, rfl, hg, hglt, hcap, _⟩ := own_some ho hne
      have HO : Hid (wr.ownsRow w.heap.size 5 1 (.slice (some ⟨g, 0, none⟩) ys.length cap2) ys.length (byV ys)) := ho
      clear hm hmn hl hz hm0 ho
      go_wp2_with fail
      refine (reverse_any w.heap.size ys g ys.length cap2 _ rfl hg hys.out HO.out).mono ?_
      rintro e w1 ⟨rfl, ho1, hb1⟩
      have hcv := own_string ys.reverse (by simp) ho1
      have HB1 : Hid (Below w.heap.size w w1) := hb.trans hb1
      have HT : Hid ((⟨ys.reverse.toArray⟩ : ByteArray).data.toList = Rm.rad k n) := by
        show _ = _
        rw [Rm.rad_pos k n H0.out, HE.out]
      clear ho1 hb1 hb HO HE
      generalize hS : (⟨ys.reverse.toArray⟩ : ByteArray) = S at *
      clear hS
      go_wp2
      go_ret
      exact ⟨⟨S, rfl, HT.out⟩, HB1.out⟩
    · have hlp : 0 < len' := by
        rcases Nat.eq_zero_or_pos len' with h | h
        · exact absurd (hz.1 h) hm0
        · exact h
      have HS : Hid (Rm.lows k m = Rm.sg (m % k) :: Rm.lows k (m / k)) := Rm.lows_pos k m hk2 hm0
      have HM : Hid (isN wr (.slice ao' len' cap') m) := hm
      have hf : fits m 10000 := HF.out.mono hmn.out (Nat.le_refl _)
      have hdiv : Hid (m / k ≤ n) := Nat.le_trans (Nat.div_le_self _ _) hmn.out
      clear hm hz hm0 hmn
      go_wp2_with fail
      refine (divideWord_any _ m k _ HM.out (by omega) (by omega) hf.out).mono ?_
      rintro e w1 ⟨⟨v1, rr, rfl, hrr, h1⟩, hb1⟩
      obtain ⟨a1, l1, c1, rfl⟩ := isN_slice h1
      have hr16 : rr < 16 := by rw [hrr.out]; exact Nat.lt_of_lt_of_le (Nat.mod_lt _ (by omega)) hk16
      have hcb : rr < ({ data := #[48, 49, 50, 51, 52, 53, 54, 55, 56, 57, 97, 98, 99, 100, 101, 102] } : ByteArray).size := hr16
      have N1 : Hid (isN w1 (.slice a1 l1 c1) (m / k)) := h1
      have ho1 := own_below ho hb1
      have hb2 : Below w.heap.size w w1 := hb.trans (hb1.mono hBs)
      have hBs2 := hb2.size
      have hsg : Hid (Rm.sg (m % k) = ({ data := #[48, 49, 50, 51, 52, 53, 54, 55, 56, 57, 97, 98, 99, 100, 101, 102] } : ByteArray)[rr]'hcb) := by
        show _ = _
        rw [← hrr.out]
        unfold Rm.sg Rm.sgs
        rw [List.getD_eq_getElem?_getD, List.getElem?_eq_getElem (by simpa using hr16)]
        rfl
      have hysn := hys.out
      have hvl : Hid _ := lenOf_own ho
      clear h1 hb1 hb ho HM
      go_wp2_with (at_builtin; refine wpList_append_own _ rfl _ _ 87 rfl w.heap.size 5 i0 (.int .u8 0) 1 1 Try.underlying87 hi hz0 hz1 hz2 rfl (by decide) _ _ _ rfl (ho1.alloc _) ⟨w1.heap.size, 0, none⟩ 1 1 [.int .u8 ((({ data := #[48, 49, 50, 51, 52, 53, 54, 55, 56, 57, 97, 98, 99, 100, 101, 102] } : ByteArray)[rr]'hcb).toNat : Int)] rfl rfl (cell_one_new _ _ _) (by simp [Value.oneCell']) (by unfold maxLen; omega) (by omega) (by simp; omega) ?_)
      intro v' w2 hown' hgrow _
      rw [byV_snoc] at hown'
      have HB3 : Hid (Below w.heap.size w w2) := (hb2.alloc hBs2 _).grown hgrow (by simp; omega) (fun k hk => (ho1.lt k hk).1)
      have HO2 : Hid (w2.ownsRow w.heap.size 5 1 v' (ys ++ [({ data := #[48, 49, 50, 51, 52, 53, 54, 55, 56, 57, 97, 98, 99, 100, 101, 102] } : ByteArray)[rr]'hcb]).length (byV (ys ++ [({ data := #[48, 49, 50, 51, 52, 53, 54, 55, 56, 57, 97, 98, 99, 100, 101, 102] } : ByteArray)[rr]'hcb]))) := by
        show World.ownsRow _ _ _ _ _ _ _
        rw [List.length_append, List.length_singleton]; exact hown'
      have HL2 : Hid (Rm.lows k n = (ys ++ [({ data := #[48, 49, 50, 51, 52, 53, 54, 55, 56, 57, 97, 98, 99, 100, 101, 102] } : ByteArray)[rr]'hcb]) ++ Rm.lows k (m / k)) := by
        show _ = _
        rw [hl.out, HS.out, hsg.out, List.append_assoc]
        rfl
      have N2 : Hid (isN w2 (.slice a1 l1 c1) (m / k)) := isN_kept (isN_below N1.out (bel_new (Below.refl _ _))) hgrow (isN_row_apart N1.out ho1)
      obtain ⟨g2, cap2, rfl, _⟩ := own_some HO2.out (by simp)
      have hl2 : ys.length + 1 ≤ 1000000 := by
        have h1 := congrArg List.length HL2.out
        have h2 := HLen.out
        simp only [List.length_append, List.length_singleton] at h1
        omega
      generalize hY : ys ++ [({ data := #[48, 49, 50, 51, 52, 53, 54, 55, 56, 57, 97, 98, 99, 100, 101, 102] } : ByteArray)[rr]'hcb] = Y at *
      have hYl : Y.length = ys.length + 1 := by rw [← hY]; simp
      clear hown' hgrow ho1 hY N1 hl HS hsg hrr hb2 hBs2
      go_wp2
      go_roundw
      case rel => exact ⟨a1, l1, c1, m / k, _, Y, rfl, rfl, N2, hdiv, HL2, HO2.out, HB3.out⟩
      case measure =>
        have h1 := hvl.out
        show 1000001 - Y.length < 1000001 - lenOf _
        rw [h1]
        omega

end Go.Proofs.Ytbgbbhenakjbgag
