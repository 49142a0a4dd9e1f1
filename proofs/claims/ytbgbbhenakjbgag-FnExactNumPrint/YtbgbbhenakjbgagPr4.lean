/-
  Turning a row of bytes round.
-/
import Derived.Test.YtbgbbhenakjbgagPr1
namespace Go.Proofs.Ytbgbbhenakjbgag
set_option maxRecDepth 100000
set_option linter.unusedVariables false
set_option linter.unusedSimpArgs false
open Go.RowKit

/-- Bytes as values. -/
def byV (l : List UInt8) : List Value := l.map (fun b : UInt8 => Value.int .u8 b.toNat)

/-- The first i and the last i have changed places. -/
def halfTurned (l ys : List UInt8) (i : Nat) : Prop := ys.length = l.length ∧ ∀ p, p < l.length → ys[p]? = if p < i ∨ l.length ≤ p + i then l[l.length - 1 - p]? else l[p]?

theorem halfTurned_zero (l : List UInt8) : halfTurned l l 0 := ⟨rfl, fun p hp => by rw [if_neg (by omega)]⟩

theorem halfTurned_end (l ys : List UInt8) (i : Nat) (h : halfTurned l ys i) (hi : l.length ≤ 2 * i + 1) : ys = l.reverse := by
  apply List.ext_getElem?
  intro p
  by_cases hp : p < l.length
  · rw [h.2 p hp, List.getElem?_reverse hp]
    split
    · rfl
    · congr 1; omega
  · rw [List.getElem?_eq_none (by have := h.1; omega), List.getElem?_eq_none (by simp; omega)]

theorem halfTurned_step (l ys : List UInt8) (i j : Nat) (h : halfTurned l ys i) (hij : i < j) (hj : i + j + 1 = l.length) (a b : UInt8) (ha : ys[i]? = some a) (hb : ys[j]? = some b) :
    halfTurned l ((ys.set i b).set j a) (i + 1) := by
  refine ⟨by simp [h.1], fun p hp => ?_⟩
  have hl := h.1
  have ai := h.2 i (by omega)
  have aj := h.2 j (by omega)
  rw [if_neg (by omega)] at ai aj
  by_cases e1 : p = j
  · subst e1
    rw [List.getElem?_set_self (by simp; omega), if_pos (by omega), ← ha, ai]
    congr 1; omega
  · rw [List.getElem?_set_ne (by omega)]
    by_cases e2 : p = i
    · subst e2
      rw [List.getElem?_set_self (by omega), if_pos (by omega), ← hb, aj]
      congr 1; omega
    · rw [List.getElem?_set_ne (by omega), h.2 p hp]
      by_cases c : p < i ∨ l.length ≤ p + i
      · rw [if_pos c, if_pos (by omega)]
      · rw [if_neg c, if_neg (by omega)]

theorem byV_set (ys : List UInt8) (i : Nat) (b : UInt8) : (byV ys).set i (Value.int .u8 b.toNat) = byV (ys.set i b) := by
  unfold byV
  rw [← List.map_set]

set_option maxHeartbeats 1600000 in
theorem reverse_any (B : Nat) (l : List UInt8) (g n cap : Nat) (w : World) (hl : n = l.length) (hg : B ≤ g) (hsz : n ≤ 1000000) (hown : w.ownsRow B 5 1 (.slice (some ⟨g, 0, none⟩) n cap) n (byV l)) :
    Calls Try.prog 72 #[.slice (some ⟨g, 0, none⟩) n cap] w fun e w' => e = .returned (.tuple #[]) ∧ w'.ownsRow B 5 1 (.slice (some ⟨g, 0, none⟩) n cap) n (byV l.reverse) ∧ Below B w w' := by
  have HL : Hid (n = l.length) := hl
  clear hl
  go_enter Try.func72, Try.ntmps72
  go_wp2
  go_loopw [2, 3] (fun s2 s3 wr => ∃ (i : Nat) (j : Int) (ys : List UInt8), s2 = .int .i64 i ∧ s3 = .int .i64 j ∧ i ≤ n ∧ Hid (j = (n : Int) - 1 - i) ∧ Hid (halfTurned l ys i) ∧ wr.ownsRow B 5 1 (.slice (some ⟨g, 0, none⟩) n cap) n (byV ys) ∧ Below B w wr)
    (fun s2 _ _ => n - (intOf s2).toNat)
  case atStart => exact ⟨0, (n : Int) - 1, l, rfl, by go_num, by omega, by show _ = _; omega, halfTurned_zero l, hown, Below.refl _ _⟩
  case round =>
    obtain ⟨i, j, ys, rfl, rfl, hi, hj, hh, ho, hb⟩ := hrel
    clear hown
    by_cases hlt : (i : Int) < j
    · obtain ⟨jn, rfl⟩ : ∃ jn : Nat, j = jn := ⟨j.toNat, by have := hj.out; omega⟩
      have hij : i < jn := by omega
      have hjn : jn < n := by have := hj.out; omega
      have HJ : Hid (i + jn + 1 = l.length) := by show _ = _; have := hj.out; have := HL.out; omega
      have hyl : Hid (ys.length = n) := by show _ = _; rw [hh.out.1, ← HL.out]
      have hyi : i < ys.length := by have := hyl.out; omega
      have hyj : jn < ys.length := by have := hyl.out; omega
      obtain ⟨a, ha⟩ : ∃ a, ys[i]? = some a := ⟨_, List.getElem?_eq_getElem hyi⟩
      obtain ⟨b, hb'⟩ : ∃ b, ys[jn]? = some b := ⟨_, List.getElem?_eq_getElem hyj⟩
      have hn2 : Hid (halfTurned l ((ys.set i b).set jn a) (i + 1)) := halfTurned_step l ys i jn hh.out hij HJ.out a b ha hb'
      have ci : wr.cell? ⟨g, i, none⟩ = some (.int .u8 a.toNat) := by
        rw [ho.cellAt i (by omega)]; unfold byV; rw [List.getElem?_map, ha]; rfl
      have cj : wr.cell? ⟨g, jn, none⟩ = some (.int .u8 b.toNat) := by
        rw [ho.cellAt jn (by omega)]; unfold byV; rw [List.getElem?_map, hb']; rfl
      have fi := ho.frozenAt i
      have fj := ho.frozenAt jn
      have st1 := ho.stored i (Value.int .u8 b.toNat)
      rw [byV_set] at st1
      have st2 := st1.1.stored jn (Value.int .u8 a.toNat)
      rw [byV_set] at st2
      have HO : Hid (((wr.setCell ⟨g, i, none⟩ (.int .u8 b.toNat)).setCell ⟨g, jn, none⟩ (.int .u8 a.toNat)).ownsRow B 5 1 (.slice (some ⟨g, 0, none⟩) n cap) n (byV ((ys.set i b).set jn a))) := st2.1
      have HB : Hid (Below B w ((wr.setCell ⟨g, i, none⟩ (.int .u8 b.toNat)).setCell ⟨g, jn, none⟩ (.int .u8 a.toNat))) := (hb.setCell (p := ⟨g, i, none⟩) hg _).setCell (p := ⟨g, jn, none⟩) hg _
      have HJ2 : Hid ((jn : Int) - 1 = (n : Int) - 1 - ((i + 1 : Nat) : Int)) := by show _ = _; have := HJ.out; have := HL.out; omega
      clear st1 st2 ho hb ha hb' hyl hyi hyj hh hj HJ
      go_wp2_with fail
      go_region_with fail
      all_goals
        go_wp2
        go_roundw
        case rel => exact ⟨i + 1, (jn : Int) - 1, _, by go_num, by go_num, by omega, HJ2, hn2, HO.out, HB.out.drew⟩
        case measure => simp [intOf]; omega
    · have hr : Hid (ys = l.reverse) := halfTurned_end l ys i hh.out (by have := hj.out; have := HL.out; omega)
      clear hh hj
      go_wp2
      go_end0
      refine ⟨rfl, ?_, hb⟩
      rw [← hr.out]; exact ho

end Go.Proofs.Ytbgbbhenakjbgag
