/-
  The law: the program's NumOk and the specification's answer alike.
-/
import Derived.Test.YtbgbbhenakjbgaeImplOk
namespace Go.Proofs.Ytbgbbhenakjbgae
set_option maxRecDepth 100000
set_option linter.unusedVariables false
set_option linter.unusedSimpArgs false
open Go.RowKit

set_option maxHeartbeats 2000000 in
theorem toNum_any (neg : Bool) (up dn : ByteArray) (w : World) :
    Calls Try.prog 6 #[.agg #[.bool neg, .string up, .string dn]] w fun e w' => e = .returned (.agg #[.bool neg, .string up, .string dn]) ∧ Below w.heap.size w w' := by
  have hB : ∀ o, Below w.heap.size w (w.alloc o) := fun o => (Below.refl _ _).alloc (Nat.le_refl _) _
  go_enter Try.func6, Try.ntmps6
  go_wp2
  simp only [bodyPost]
  refine ⟨trivial, _, ?_, rfl, ?_⟩
  · simp [results, Try.results6, go_sem]
  · exact ((hB _).alloc (by show _ ≤ (w.heap.push _).size; simp) _).alloc (by show _ ≤ ((w.heap.push _).push _).size; simp; omega) _

set_option maxHeartbeats 2000000 in
theorem szNum_any (neg : Bool) (up dn : ByteArray) (l : Int) (w : World) (hl : 0 ≤ l) (hl2 : l ≤ 1048576) (hu : up.size ≤ maxLen) (hd : dn.size ≤ maxLen) :
    Calls Try.prog 4 #[.agg #[.bool neg, .string up, .string dn], .int .i64 l] w fun e w' => (∃ z : Int, e = .returned (.int .i64 z) ∧ (0 ≤ z → (up.size : Int) ≤ l ∧ (dn.size : Int) ≤ l)) ∧ Below w.heap.size w w' := by
  have hB : ∀ o, Below w.heap.size w (w.alloc o) := fun o => (Below.refl _ _).alloc (Nat.le_refl _) _
  have hm : (maxLen : Int) ≤ 9223372036854775807 := by decide
  have hw1 : wrap64 (l - up.size) = l - up.size := by (unfold wrap64; omega)
  by_cases h1 : l - up.size < 0
  · go_enter Try.func4, Try.ntmps4
    go_wp2
    go_ret
    exact ⟨⟨-1, rfl, by intro h; omega⟩, (hB _)⟩
  · have hw2 : wrap64 (l - up.size - dn.size) = l - up.size - dn.size := by (unfold wrap64; omega)
    by_cases h2 : l - up.size - dn.size < 0
    · go_enter Try.func4, Try.ntmps4
      go_wp2
      go_ret
      exact ⟨⟨-1, rfl, by intro h; omega⟩, (hB _)⟩
    · go_enter Try.func4, Try.ntmps4
      go_wp2
      go_ret
      exact ⟨⟨_, rfl, by intro h; omega⟩, (hB _)⟩

set_option maxHeartbeats 2000000 in
theorem law_any (neg : Bool) (up dn : ByteArray) (w : World) (hu : up.size ≤ maxLen) (hd : dn.size ≤ maxLen) :
    Calls Try.prog 3 #[.agg #[.bool neg, .string up, .string dn]] w fun e w' => e = .returned (.bool true) ∧ Below w.heap.size w w' := by
  have hB : ∀ o, Below w.heap.size w (w.alloc o) := fun o => (Below.refl _ _).alloc (Nat.le_refl _) _
  go_enter Try.func3, Try.ntmps3
  go_wp2_with fail
  refine (szNum_any neg up dn 1048576 _ (by omega) (by omega) hu hd).mono ?_
  rintro e w1 ⟨⟨z, rfl, hz⟩, hb1⟩
  obtain ⟨k0, k1, k2⟩ := box_cell w w1 _ _ _ _ hb1
  have hA : w.heap.size ≤ (w.alloc (.cells #[Value.bool neg, Value.string up, Value.string dn] 23)).heap.size := by show _ ≤ (w.heap.push _).size; simp
  have hW1 : Hid (Below w.heap.size w w1) := (hB _).trans (hb1.mono hA)
  by_cases h0 : z < 0
  · go_wp2
    go_ret
    exact ⟨rfl, hW1.out⟩
  · have hs := hz (by omega)
    have hn := hW1.out.size
    have hlt : w.heap.size < w1.heap.size := by
      rcases Nat.lt_or_ge w.heap.size w1.heap.size with h3 | h3
      · exact h3
      · have hn : w1.heap[w.heap.size]? = none := by simp; omega
        rw [World.cell?, hn] at k2
        exact absurd k2 (by simp)
    go_wp2_with fail
    refine (toNum_any neg up dn _).mono ?_
    rintro e w2 ⟨rfl, hb2⟩
    go_wp2_with fail
    refine (specNumOk_any neg up dn _ hu hd).mono ?_
    rintro e w3 ⟨rfl, hb3⟩
    have hW3 : Hid (Below w1.heap.size w1 w3) := hb2.trans (hb3.mono hb2.size)
    have j0 := (hW3.out.cell (p := ⟨w.heap.size, 0, none⟩) hlt).trans k0
    have j1 := (hW3.out.cell (p := ⟨w.heap.size, 1, none⟩) hlt).trans k1
    have j2 := (hW3.out.cell (p := ⟨w.heap.size, 2, none⟩) hlt).trans k2
    go_wp2_with fail
    refine (toNum_any neg up dn _).mono ?_
    rintro e w4 ⟨rfl, hb4⟩
    go_wp2_with fail
    refine (implNumOk_any neg up dn _ hu hd).mono ?_
    rintro e w5 ⟨rfl, hb5⟩
    have hW5 : Hid (Below w.heap.size w w5) := hW1.out.trans ((hW3.out.mono hn).trans ((hb4.mono (Nat.le_trans hn hW3.out.size)).trans (hb5.mono (Nat.le_trans (Nat.le_trans hn hW3.out.size) hb4.size))))
    go_wp2
    go_ret
    exact ⟨rfl, hW5.out⟩

end Go.Proofs.Ytbgbbhenakjbgae
