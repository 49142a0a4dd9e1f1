/-
  What the laws on sums, differences, products and quotients share: what stands behind a call.
-/
import Derived.Test.YtaggfbffdbompaaDoorWLaw0
namespace Go.Proofs.YtaggfbffdbompaaDoor
set_option maxRecDepth 100000
set_option linter.unusedVariables false
open Go.RowKit

theorem bel_go {wa X w' : World} (h : Below wa.heap.size wa X) (k : Below X.heap.size X w') : Below wa.heap.size wa w' := h.trans (k.mono h.size)

theorem bel_drew {wa X : World} (h : Below wa.heap.size wa X) : Below wa.heap.size wa X.drew := h.drew

/-- A number in a box. -/
def numAt (w : World) (b : Nat) (C : Bool) (U D : ByteArray) : Prop :=
  w.cell? ⟨b, 0, none⟩ = some (.bool C) ∧ w.cell? ⟨b, 1, none⟩ = some (.string U) ∧ w.cell? ⟨b, 2, none⟩ = some (.string D)

theorem numAt.on {w w' : World} {b : Nat} {C : Bool} {U D : ByteArray} (h : numAt w b C U D) (hb : Below w.heap.size w w') : numAt w' b C U D :=
  ⟨cell_on hb h.1, cell_on hb h.2.1, cell_on hb h.2.2⟩

/-- Behind the specification's call. -/
def Behind8 (neg : Bool) (up dn : ByteArray) (neg2 : Bool) (up2 dn2 : ByteArray) (z z2 : Int) (p : Nat) (wa : World) (C : Bool) (U D : ByteArray) (K : Int) (a : Act) (w' : World) : Prop :=
  ∃ b, a = { tmps := #[Value.agg #[Value.bool neg, Value.string up, Value.string dn], Value.agg #[Value.bool neg2, Value.string up2, Value.string dn2], Value.pointer (some { block := p, off := 0 }), Value.pointer (some { block := p + 1, off := 0 }), Value.bool false, Value.int IntKind.i64 z2, Value.pointer (some { block := b, off := 0 }), Value.int IntKind.i64 K, undef, undef, Value.agg #[Value.bool neg, Value.string up, Value.string dn], Value.int IntKind.i64 1048576, Value.int IntKind.i64 z, Value.int IntKind.i64 z, Value.bool (decide (z < 0)), Value.agg #[Value.bool neg2, Value.string up2, Value.string dn2], Value.int IntKind.i64 z, Value.int IntKind.i64 z2, Value.int IntKind.i64 z2, Value.bool (decide (z2 < 0)), Value.tuple #[Value.agg #[Value.bool C, Value.string U, Value.string D], Value.int IntKind.i64 K], Value.agg #[Value.bool neg, Value.string up, Value.string dn], Value.agg #[Value.bool neg, Value.string up, Value.string dn], Value.agg #[Value.bool neg2, Value.string up2, Value.string dn2], Value.agg #[Value.bool neg2, Value.string up2, Value.string dn2], Value.tuple #[Value.agg #[Value.bool C, Value.string U, Value.string D], Value.int IntKind.i64 K], Value.agg #[Value.bool C, Value.string U, Value.string D], Value.int IntKind.i64 K, undef, undef, undef, undef, undef, undef, undef, undef, undef, undef, undef, undef, undef, undef, undef, undef, undef], defers := [] } ∧ numAt w' b C U D ∧ Below wa.heap.size wa w'
/-- Behind the program's call. -/
def Behind9 (neg : Bool) (up dn : ByteArray) (neg2 : Bool) (up2 dn2 : ByteArray) (z z2 : Int) (p b : Nat) (wa : World) (C : Bool) (U D : ByteArray) (K : Int) (a : Act) (w' : World) : Prop :=
  ∃ c, a = { tmps := #[Value.agg #[Value.bool neg, Value.string up, Value.string dn], Value.agg #[Value.bool neg2, Value.string up2, Value.string dn2], Value.pointer (some { block := p, off := 0 }), Value.pointer (some { block := p + 1, off := 0 }), Value.bool false, Value.int IntKind.i64 z2, Value.pointer (some { block := b, off := 0 }), Value.int IntKind.i64 K, Value.pointer (some { block := c, off := 0 }), Value.int IntKind.i64 K, Value.agg #[Value.bool neg, Value.string up, Value.string dn], Value.int IntKind.i64 1048576, Value.int IntKind.i64 z, Value.int IntKind.i64 z, Value.bool (decide (z < 0)), Value.agg #[Value.bool neg2, Value.string up2, Value.string dn2], Value.int IntKind.i64 z, Value.int IntKind.i64 z2, Value.int IntKind.i64 z2, Value.bool (decide (z2 < 0)), Value.tuple #[Value.agg #[Value.bool C, Value.string U, Value.string D], Value.int IntKind.i64 K], Value.agg #[Value.bool neg, Value.string up, Value.string dn], Value.agg #[Value.bool neg, Value.string up, Value.string dn], Value.agg #[Value.bool neg2, Value.string up2, Value.string dn2], Value.agg #[Value.bool neg2, Value.string up2, Value.string dn2], Value.tuple #[Value.agg #[Value.bool C, Value.string U, Value.string D], Value.int IntKind.i64 K], Value.agg #[Value.bool C, Value.string U, Value.string D], Value.int IntKind.i64 K, Value.tuple #[Value.agg #[Value.bool C, Value.string U, Value.string D], Value.int IntKind.i64 K], Value.agg #[Value.bool neg, Value.string up, Value.string dn], Value.agg #[Value.bool neg, Value.string up, Value.string dn], Value.agg #[Value.bool neg2, Value.string up2, Value.string dn2], Value.agg #[Value.bool neg2, Value.string up2, Value.string dn2], Value.tuple #[Value.agg #[Value.bool C, Value.string U, Value.string D], Value.int IntKind.i64 K], Value.agg #[Value.bool C, Value.string U, Value.string D], Value.int IntKind.i64 K, undef, undef, undef, undef, undef, undef, undef, undef, undef], defers := [] } ∧ numAt w' c C U D ∧ Below wa.heap.size wa w'

end Go.Proofs.YtaggfbffdbompaaDoor
