/-
  A list of parts that came in: how it lies.
-/
import Derived.Test.YtooeapjlfmknfaaTrA
import Derived.Test.YtooeapjlfmknfaaProg
import Derived.Deep.Strs
import Derived.ChangeSame
namespace Go.Proofs.Ytooeapjlfmknfaa.Tr
set_option maxRecDepth 100000
set_option linter.unusedVariables false
set_option linter.unusedSimpArgs false
open Go.RowKit Go.Deep

theorem uParts : Try.prog.underlying 22 = some (.slice 31) := by kernel_rfl

theorem uPart : Try.prog.underlying 31 = some (.struct #[⟨ "Sort", 3, 0, false, "", "", 0⟩, ⟨ "Text", 9, 1, false, "", "", 8⟩, ⟨ "Rest", 4, 2, false, "", "", 24⟩, ⟨ "Names", 29, 3, false, "", "", 32⟩, ⟨ "Kids", 22, 4, false, "", "", 56⟩]) := by kernel_rfl

theorem uStrs : Try.prog.underlying 29 = some (.slice 9) := by kernel_rfl

theorem uStr : Try.prog.underlying 9 = some .string := by kernel_rfl

theorem uBool' : Try.prog.underlying 4 = some .bool := by kernel_rfl

theorem uInt' : Try.prog.underlying 3 = some (.int .i64) := by kernel_rfl

theorem cPart : Try.prog.cellsOf 31 = 5 := by kernel_rfl

theorem cInt : Try.prog.cellsOf 3 = 1 := by kernel_rfl

theorem cStr : Try.prog.cellsOf 9 = 1 := by kernel_rfl

theorem cBool : Try.prog.cellsOf 4 = 1 := by kernel_rfl

theorem cStrs : Try.prog.cellsOf 29 = 1 := by kernel_rfl

theorem cParts : Try.prog.cellsOf 22 = 1 := by kernel_rfl

theorem cell_spot {W : World} {a : Addr} {v : Value} (h : W.cell? a = some v) : a.spot = none := by
  unfold World.cell? at h
  split at h
  · by_cases hs : a.spot.isSome = true
    · rw [if_pos hs] at h; cases h
    · cases hx : a.spot with
      | none => rfl
      | some _ => rw [hx] at hs; exact absurd rfl hs
  · cases h

theorem add_at (b o i : Nat) : (⟨b, o, none⟩ : Addr).add i = ⟨b, o + i, none⟩ := by unfold Addr.add; by_cases e : i = 0 <;> simp [e]

theorem plain_of {W : World} {a : Addr} {v : Value} (h : W.cell? (a.add 0) = some v) : a = ⟨a.block, a.off, none⟩ := by
  have h2 : W.cell? a = some v := by simpa [Addr.add] using h
  have := cell_spot h2
  cases a; simp at this; rw [this]

section
variable {H : Type} {enc : TypeId × Value → H} {W : World} {sp : Nat → Bool} {held : Bool}

/-- Names. -/

theorem open_names {fuel : Nat} {cs : List Value} {x : DataW H × List MemPlace} (h : DataW.trod enc Try.prog W 0 sp held fuel 29 cs = some x) :
    ∃ ao cap ns, cs = [.slice ao ns.length cap] ∧ Strs W 0 (.slice ao ns.length cap) ns ∧ ns.length ≤ maxLen ∧ ∀ j (k : j < ns.length), ns[j].size ≤ maxLen := by
  rcases open_strs uStrs uStr cStr h with ⟨rfl, _⟩ | ⟨a, len, cap, m, Sx, rfl, _, hl, hm, hmm, _, hx⟩
  · exact ⟨none, 0, [], rfl, strs_nil _ _ _ _, Nat.zero_le _, fun j k => absurd k (Nat.not_lt_zero _)⟩
  · have hlm : len ≤ m := by rw [hmm]; split <;> omega
    refine ⟨some a, cap, (List.range len).map Sx, by simp, ?_, by simp; omega, fun j k => ?_⟩
    · refine ⟨some a, cap, rfl, fun i hi => ?_⟩
      have hi' : i < len := by simpa using hi
      have h1 := (hx i (by omega)).1
      have hp := plain_of (hx 0 (by omega)).1
      refine ⟨a.block, a.off, by rw [← hp], Nat.zero_le _, ?_⟩
      rw [List.getElem_map, List.getElem_range, ← add_at, ← hp]
      exact h1
    · have hi' : j < len := by simpa using k
      rw [List.getElem_map, List.getElem_range]
      exact (hx j (by omega)).2

/-- A list of parts. -/

theorem open_parts : ∀ (fuel : Nat) (cs : List Value) (x : DataW H × List MemPlace), DataW.trod enc Try.prog W 0 sp held fuel 22 cs = some x →
    ∃ ao cap ts, cs = [.slice ao ts.length cap] ∧ Lies W 0 (.slice ao ts.length cap) ts ∧ Sane ts := by
  intro fuel
  induction fuel using Nat.strongRecOn with
  | _ fuel ih =>
    intro cs x h
    rcases DataW.trod_slice uParts h with ⟨rfl, _⟩ | ⟨a, len, cap, elems, rest, n, rfl, rfl, _, _, hl, hm, hlen, hel, _, _⟩
    · exact ⟨none, 0, [], rfl, lies_nil _ _ _ _, Sane.mk _ (Nat.zero_le _) (fun i h => absurd h (Nat.not_lt_zero _)) (fun i h => absurd h (Nat.not_lt_zero _)) (fun i h => absurd h (Nat.not_lt_zero _))⟩
    · rw [cPart] at hel
      have each : ∀ i, i < len → ∃ q : T × Value × Value, W.cell? (a.add (i * 5)) = some (.int .i64 q.1.sort) ∧ W.cell? ((a.add (i * 5)).add 1) = some (.string q.1.text) ∧ W.cell? ((a.add (i * 5)).add 2) = some (.bool q.1.rest) ∧ W.cell? ((a.add (i * 5)).add 3) = some q.2.1 ∧ W.cell? ((a.add (i * 5)).add 4) = some q.2.2 ∧
          Strs W 0 q.2.1 q.1.names ∧ Lies W 0 q.2.2 q.1.kids ∧ q.1.text.size ≤ maxLen ∧ (q.1.names.length ≤ maxLen ∧ ∀ j (k : j < q.1.names.length), q.1.names[j].size ≤ maxLen) ∧ Sane q.1.kids := by
        intro i hi
        have h1 := hel i hi
        rw [List.getElem?_eq_getElem (by omega)] at h1
        obtain ⟨c5, h2, h3⟩ := Option.bind_eq_some_iff.1 h1
        obtain ⟨_, hc5, hcell⟩ := World.cells?_some h2
        obtain ⟨xs, m, hm2, _, _, hxl, hf⟩ := DataW.trod_struct uPart h3
        have hsome : ∀ j, j < 5 → ∃ y, xs[j]? = some y := fun j hj => ⟨xs[j]'(by rw [hxl]; exact hj), List.getElem?_eq_getElem _⟩
        match c5, hc5 with
        | [w0, w1, w2, w3, w4], _ =>
          have g0 : DataW.trod enc Try.prog W 0 sp held m 3 ((([w0, w1, w2, w3, w4] : List Value).drop 0).take (Try.prog.cellsOf 3)) = xs[0]? := hf 0 _ rfl
          have g1 : DataW.trod enc Try.prog W 0 sp held m 9 ((([w0, w1, w2, w3, w4] : List Value).drop 1).take (Try.prog.cellsOf 9)) = xs[1]? := hf 1 _ rfl
          have g2 : DataW.trod enc Try.prog W 0 sp held m 4 ((([w0, w1, w2, w3, w4] : List Value).drop 2).take (Try.prog.cellsOf 4)) = xs[2]? := hf 2 _ rfl
          have g3 : DataW.trod enc Try.prog W 0 sp held m 29 ((([w0, w1, w2, w3, w4] : List Value).drop 3).take (Try.prog.cellsOf 29)) = xs[3]? := hf 3 _ rfl
          have g4 : DataW.trod enc Try.prog W 0 sp held m 22 ((([w0, w1, w2, w3, w4] : List Value).drop 4).take (Try.prog.cellsOf 22)) = xs[4]? := hf 4 _ rfl
          rw [cInt] at g0
          rw [cStr] at g1
          rw [cBool] at g2
          rw [cStrs] at g3
          rw [cParts] at g4
          obtain ⟨y0, k0⟩ := hsome 0 (by omega)
          obtain ⟨y1, k1⟩ := hsome 1 (by omega)
          obtain ⟨y2, k2⟩ := hsome 2 (by omega)
          obtain ⟨y3, k3⟩ := hsome 3 (by omega)
          obtain ⟨y4, k4⟩ := hsome 4 (by omega)
          rw [k0] at g0
          rw [k1] at g1
          rw [k2] at g2
          rw [k3] at g3
          rw [k4] at g4
          obtain ⟨s, e0, _, _⟩ := DataW.trod_int uInt' (cs := [w0]) g0
          obtain ⟨t, e1, _, ht⟩ := DataW.trod_string uStr (cs := [w1]) g1
          obtain ⟨r, e2, _⟩ := DataW.trod_bool uBool' (cs := [w2]) g2
          obtain ⟨an, cn, ns, e3, hS, hn1, hn2⟩ := open_names (cs := [w3]) g3
          obtain ⟨ak, ck, ks, e4, hK, hSK⟩ := ih m (by omega) [w4] y4 g4
          cases e0; cases e1; cases e2; cases e3; cases e4
          refine ⟨(.mk s t r ns ks, .slice an ns.length cn, .slice ak ks.length ck), ?_, ?_, ?_, ?_, ?_, hS, hK, ht, ⟨hn1, hn2⟩, hSK⟩
          · have := hcell 0 (by omega)
            rw [show (a.add (i * 5)).add 0 = a.add (i * 5) from rfl] at this
            exact this
          · exact hcell 1 (by omega)
          · exact hcell 2 (by omega)
          · exact hcell 3 (by omega)
          · exact hcell 4 (by omega)
      have hinh : Inhabited (T × Value × Value) := ⟨(.mk 0 ⟨#[]⟩ false [] [], .nilIface, .nilIface)⟩
      obtain ⟨Q, hQ⟩ := choose_lt each
      have hlenT : ((List.range len).map (fun i => (Q i).1)).length = len := by simp
      refine ⟨some a, cap, (List.range len).map (fun i => (Q i).1), by rw [hlenT], ?_, Sane.mk _ (by rw [hlenT]; omega) (fun i h => ?_) (fun i h => ?_) (fun i h => ?_)⟩
      · refine Lies.row (some a) cap _ a.block a.off (fun i => (Q i).2.1) (fun i => (Q i).2.2) (by rw [hlenT]; exact hl) (fun hne => ?_) (fun i h => ?_) (fun i h => ?_) (fun i h => ?_)
        · have h0 : 0 < len := by
            rcases Nat.eq_zero_or_pos len with h0 | h0
            · exact absurd (List.length_eq_zero_iff.1 (hlenT.trans h0)) hne
            · exact h0
          have hp := plain_of (a := a) (by have := (hQ 0 h0).1; rw [Nat.zero_mul] at this; exact this)
          exact ⟨by rw [← hp], Nat.zero_le _⟩
        · have hi : i < len := by rw [hlenT] at h; exact h
          have hp := plain_of (a := a) (by have := (hQ 0 (by omega)).1; rw [Nat.zero_mul] at this; exact this)
          obtain ⟨q0, q1, q2, q3, q4, _⟩ := hQ i hi
          rw [List.getElem_map, List.getElem_range]
          rw [hp] at q0 q1 q2 q3 q4
          rw [add_at] at q0 q1 q2 q3 q4
          rw [add_at] at q1 q2 q3 q4
          exact ⟨q0, q1, q2, q3, q4⟩
        · have hi : i < len := by rw [hlenT] at h; exact h
          rw [List.getElem_map, List.getElem_range]
          exact (hQ i hi).2.2.2.2.2.1
        · have hi : i < len := by rw [hlenT] at h; exact h
          rw [List.getElem_map, List.getElem_range]
          exact (hQ i hi).2.2.2.2.2.2.1
      · have hi : i < len := by rw [hlenT] at h; exact h
        rw [List.getElem_map, List.getElem_range]
        exact (hQ i hi).2.2.2.2.2.2.2.1
      · have hi : i < len := by rw [hlenT] at h; exact h
        simp only [List.getElem_map, List.getElem_range]
        exact (hQ i hi).2.2.2.2.2.2.2.2.1
      · have hi : i < len := by rw [hlenT] at h; exact h
        rw [List.getElem_map, List.getElem_range]
        exact (hQ i hi).2.2.2.2.2.2.2.2.2

end

end Go.Proofs.Ytooeapjlfmknfaa.Tr
