/-
  What the laws on whole numbers share.
-/
import Derived.Test.YtaggfbffdbompaaDoorWhole3
import Derived.Test.YtaggfbffdbompaaDoorSpec6
import Derived.Test.YtaggfbffdbompaaDoorLaw0
namespace Go.Proofs.YtaggfbffdbompaaDoor
set_option maxRecDepth 100000
set_option linter.unusedVariables false
set_option linter.unusedSimpArgs false
open Go.RowKit

/-- The library's table and its variable read as their texts lay them. -/
structure TE (w : World) : Prop where
  tab : TB w
  err : EB w

theorem TE.on {w w' : World} (h : TE w) (hb : Below w.heap.size w w') : TE w' := ⟨h.tab.on hb, h.err.on hb⟩

/-- One answer of a call. -/
def Ans (f : Nat) (args : Array Value) (w : World) (C : Bool) (U D : ByteArray) (K : Int) : Prop :=
  Calls Tryd.prog f args w fun e w' => e = .returned (.tuple #[.agg #[.bool C, .string U, .string D], .int .i64 K]) ∧ Below w.heap.size w w'

/-- One answer of the program and of the specification. -/
def Both (f g : Nat) (args : Array Value) : Prop :=
  ∃ C U D K, (∀ w : World, TE w → Ans f args w C U D K) ∧ (∀ w : World, Ans g args w C U D K)

theorem raYes (neg : Bool) (up dn : ByteArray) (neg2 : Bool) (up2 dn2 : ByteArray) (hu : up.size ≤ maxLen) (hd : dn.size ≤ maxLen) (hu2 : up2.size ≤ maxLen) (hd2 : dn2.size ≤ maxLen) (h1 : okN neg up.data.toList dn.data.toList = true) (h2 : okN neg2 up2.data.toList dn2.data.toList = true) :
    RaYes neg up dn neg2 up2 dn2 (Dm.val up.data.toList) (Dm.val dn.data.toList) (Dm.val up2.data.toList) (Dm.val dn2.data.toList) := fun W => ratiosOf_yes neg up dn neg2 up2 dn2 W hu hd hu2 hd2 h1 h2

theorem raNo1 (neg : Bool) (up dn : ByteArray) (neg2 : Bool) (up2 dn2 : ByteArray) (hu : up.size ≤ maxLen) (hd : dn.size ≤ maxLen) (hu2 : up2.size ≤ maxLen) (hd2 : dn2.size ≤ maxLen) (h1 : okN neg up.data.toList dn.data.toList = false) :
    RaNo neg up dn neg2 up2 dn2 := fun W => ratiosOf_no1 neg up dn neg2 up2 dn2 W hu hd hu2 hd2 h1

theorem raNo2 (neg : Bool) (up dn : ByteArray) (neg2 : Bool) (up2 dn2 : ByteArray) (hu : up.size ≤ maxLen) (hd : dn.size ≤ maxLen) (hu2 : up2.size ≤ maxLen) (hd2 : dn2.size ≤ maxLen) (h1 : okN neg up.data.toList dn.data.toList = true) (h2 : okN neg2 up2.data.toList dn2.data.toList = false) :
    RaNo neg up dn neg2 up2 dn2 := fun W => ratiosOf_no2 neg up dn neg2 up2 dn2 W hu hd hu2 hd2 h1 h2

/-- What a number of at most 60 digits is, by its digits. -/

theorem fits60d (l : List UInt8) (n : Nat) (h : Dm.isDec l n) (hl : l.length ≤ 60) : fits n 7 := by
  refine ⟨Nat.lt_of_lt_of_le (Dm.isDec_high _ _ h) ?_⟩
  rw [base_pow]
  exact Nat.pow_le_pow_right (by omega) (by omega)

theorem isDec_z (s : ByteArray) (n : Nat) (h : Dm.isDec s.data.toList n) : (s.toList == [48]) = decide (n = 0) := by
  rw [Bool.eq_iff_iff, beq_iff_eq, decide_eq_true_eq, ByteArray.toList_eq]
  have H0 : Dm.isDec [48] 0 := by
    refine ⟨by simp, ?_, rfl, by simp⟩
    intro c hc; simp at hc; subst hc; exact ⟨by decide, by decide⟩
  constructor
  · intro e; rw [e] at h; exact Dm.isDec_inj _ _ _ h H0
  · intro e; subst e; exact Dm.isDec_unique _ _ 0 h H0

theorem belA {w W : World} {o : Obj} (h : Below w.heap.size w W) : Below w.heap.size w (W.alloc o) := h.alloc h.size o

theorem belS {w W : World} {p : Addr} {v : Value} (h : Below w.heap.size w W) (hp : w.heap.size ≤ p.block) : Below w.heap.size w (W.setCell p v) := h.setCell hp v

attribute [local go_sem ↓] Go.wp_at_zero Go.wp_at_succ

set_option maxHeartbeats 1600000 in
theorem eqNum_same (C : Bool) (U D : ByteArray) (w : World) :
    Calls Tryd.prog 12 #[.agg #[.bool C, .string U, .string D], .agg #[.bool C, .string U, .string D]] w fun e w' => e = .returned (.bool true) ∧ Below w.heap.size w w' := by
  go_enter Tryd.func12, Tryd.ntmps12
  go_wp2
  go_ret
  exact ⟨rfl, belA (belA (Below.refl _ _))⟩

end Go.Proofs.YtaggfbffdbompaaDoor
