/-
  The contracts of reading two whole numbers.
-/
import Derived.Test.YtaggfbffdbompaaDoorImplCmp
import Derived.Test.YtaggfbffdbompaaDoorAs
namespace Go.Proofs.YtaggfbffdbompaaDoor
set_option maxRecDepth 100000
set_option linter.unusedVariables false
set_option linter.unusedSimpArgs false
open Go.RowKit
attribute [local go_sem ↓] Go.wp_at_zero Go.wp_at_succ

theorem bel_alloc0 {w W : World} {o : Obj} (h : Below w.heap.size w W) : Below w.heap.size w (W.alloc o) := h.alloc h.size o

theorem bel_set0 {w W : World} {p : Addr} {v : Value} (h : Below w.heap.size w W) (hp : w.heap.size ≤ p.block) : Below w.heap.size w (W.setCell p v) := h.setCell hp v

/-- Two numbers of which one is not ok can't be read. -/
def RaNo (neg : Bool) (up dn : ByteArray) (neg2 : Bool) (up2 dn2 : ByteArray) : Prop :=
  ∀ w : World, Calls Tryd.prog 56 #[.agg #[.bool neg, .string up, .string dn], .agg #[.bool neg2, .string up2, .string dn2]] w fun e w' => e = .returned (.tuple #[.agg #[Value.bool false, Value.slice none 0 0, Value.bool false, Value.slice none 0 0], .agg #[Value.bool false, Value.slice none 0 0, Value.bool false, Value.slice none 0 0], .bool false]) ∧ Below w.heap.size w w'
/-- Two numbers that are ok are read. -/
def RaYes (neg : Bool) (up dn : ByteArray) (neg2 : Bool) (up2 dn2 : ByteArray) (u d u2 d2 : Nat) : Prop :=
  ∀ w : World, Calls Tryd.prog 56 #[.agg #[.bool neg, .string up, .string dn], .agg #[.bool neg2, .string up2, .string dn2]] w fun e w' => (∃ a1 l1 c1 a2 l2 c2 a3 l3 c3 a4 l4 c4, e = .returned (.tuple #[.agg #[.bool neg, .slice a1 l1 c1, .bool false, .slice a2 l2 c2], .agg #[.bool neg2, .slice a3 l3 c3, .bool false, .slice a4 l4 c4], .bool true]) ∧
      Hid (isN w' (.slice a1 l1 c1) u) ∧ Hid (isN w' (.slice a2 l2 c2) d) ∧ Hid (isN w' (.slice a3 l3 c3) u2) ∧ Hid (isN w' (.slice a4 l4 c4) d2)) ∧ Below w.heap.size w w'

/-- Two whole numbers can't be read, for a reason; or they are. -/
def WErr (f : Nat) (neg : Bool) (up dn : ByteArray) (neg2 : Bool) (up2 dn2 : ByteArray) (c : Int) : Prop :=
  ∀ w : World, Calls Tryd.prog f #[.agg #[.bool neg, .string up, .string dn], .agg #[.bool neg2, .string up2, .string dn2]] w fun e w' => e = .returned (.tuple #[.agg #[Value.bool false, Value.slice none 0 0], .agg #[Value.bool false, Value.slice none 0 0], .iface 75 (.agg #[.int .i64 c])]) ∧ Below w.heap.size w w'
def WYes (f : Nat) (neg : Bool) (up dn : ByteArray) (neg2 : Bool) (up2 dn2 : ByteArray) (u u2 : Nat) : Prop :=
  ∀ w : World, Calls Tryd.prog f #[.agg #[.bool neg, .string up, .string dn], .agg #[.bool neg2, .string up2, .string dn2]] w fun e w' => (∃ a1 l1 c1 a3 l3 c3, e = .returned (.tuple #[.agg #[.bool neg, .slice a1 l1 c1], .agg #[.bool neg2, .slice a3 l3 c3], .nilIface]) ∧
      Hid (isN w' (.slice a1 l1 c1) u) ∧ Hid (isN w' (.slice a3 l3 c3) u2)) ∧ Below w.heap.size w w'

set_option maxHeartbeats 1600000 in
theorem isWhole_any (neg : Bool) (up dn : ByteArray) (b : Bool) (w : World) (h : (dn.toList == [49]) = b) :
    Calls Tryd.prog 57 #[.agg #[.bool neg, .string up, .string dn]] w fun e w' => e = .returned (.bool b) ∧ Below w.heap.size w w' := by
  have hB : ∀ o, Below w.heap.size w (w.alloc o) := fun o => (Below.refl _ _).alloc (Nat.le_refl _) _
  go_enter Tryd.func57, Tryd.ntmps57
  go_wp2
  go_ret
  exact ⟨rfl, hB _⟩

set_option maxHeartbeats 1600000 in
theorem wholesOf_no (neg : Bool) (up dn : ByteArray) (neg2 : Bool) (up2 dn2 : ByteArray) (HR : Hid (RaNo neg up dn neg2 up2 dn2)) : WErr 32 neg up dn neg2 up2 dn2 1 := by
  intro w
  go_enter Tryd.func32, Tryd.ntmps32
  go_wp2_with fail
  obtain ⟨V, hV, hBV, x0, x1, x2, x3⟩ := boxes4 w #[Value.bool neg, Value.string up, Value.string dn] #[Value.bool neg2, Value.string up2, Value.string dn2] #[Value.bool false, Value.slice none 0 0] #[Value.bool false, Value.slice none 0 0] 25 25 44 44
  rw [← hV]
  have HBV : Hid (Below w.heap.size w V) := hBV
  have Z2 : Hid (boxAt V _ _ _) := x2
  have Z3 : Hid (boxAt V _ _ _) := x3
  clear hV hBV x0 x1 x2 x3
  refine (HR.out _).mono ?_
  rintro e w3 ⟨rfl, hb3⟩
  have HB9 : Hid (Below w.heap.size w w3) := HBV.out.trans (hb3.mono HBV.out.size)
  have Y2 : Hid (boxAt w3 _ _ _) := Z2.out.on hb3
  have Y3 : Hid (boxAt w3 _ _ _) := Z3.out.on hb3
  clear hb3 Z2 Z3 HBV HR
  have q0 := Y2.out.cell 0 rfl
  have f0 := Y2.out.frozen 0
  have q1 := Y2.out.cell 1 rfl
  have f1 := Y2.out.frozen 1
  have q2 := Y3.out.cell 0 rfl
  have f2 := Y3.out.frozen 0
  have q3 := Y3.out.cell 1 rfl
  have f3 := Y3.out.frozen 1
  have hlt2 := Y2.out.lt
  have hlt3 := Y3.out.lt
  have hsz := HB9.out.size
  have hltA : w.heap.size < w3.heap.size := by omega
  have hltB : w.heap.size + 1 < w3.heap.size := by omega
  go_wp2
  simp only [bodyPost]
  refine ⟨trivial, _, ?_, rfl, ?_⟩
  · simp only [results, Tryd.results32]
    go_simp
  · (repeat' first | exact HB9.out | refine bel_alloc0 ?_ | refine bel_set0 ?_ ?_ | (show _ ≤ w.heap.size + 1 + 1; omega) | (show _ ≤ w.heap.size + 1 + 1 + 1; omega) | (show w.heap.size ≤ _; omega))

end Go.Proofs.YtaggfbffdbompaaDoor
