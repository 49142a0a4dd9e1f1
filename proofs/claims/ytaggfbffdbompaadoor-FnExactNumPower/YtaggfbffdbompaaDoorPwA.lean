/-
  Contracts for powers: what is too big; what is to be taken with itself.
-/
import Derived.Test.YtaggfbffdbompaaDoorNum1
import Derived.Test.YtaggfbffdbompaaDoorWRoot2
namespace Go.Proofs.YtaggfbffdbompaaDoor
set_option maxRecDepth 100000
set_option linter.unusedVariables false
set_option linter.unusedSimpArgs false
open Go.RowKit
attribute [local go_sem ↓] Go.wp_at_zero Go.wp_at_succ

/-- More than sixty digits. -/
def big (n : Nat) : Bool := decide (10 ^ 60 ≤ n)

theorem big_cmp (n T : Nat) (c : Int) (b : Bool) (hT : T = 10 ^ 60) (hc : c = cmpI n T) (hb : big n = b) : decide (0 ≤ c) = b := by
  subst hT; rw [← hb, hc]; unfold big cmpI
  split
  · rw [decide_eq_false (by omega), decide_eq_false (by omega)]
  · split <;> rw [decide_eq_true (by omega), decide_eq_true (by omega)]

set_option maxHeartbeats 400000 in
theorem isTooBig_any (v : Value) (n : Nat) (b : Bool) (w : World) (hv : isN w v n) (hL : fits n 10000) (hb : big n = b) :
    Calls Tryd.prog 67 #[v] w fun e w' => e = .returned (.bool b) ∧ Below w.heap.size w w' := by
  have HV : Hid (isN w v n) := hv
  have HB : Hid (big n = b) := hb
  obtain ⟨T, hT⟩ : ∃ T, T = 10 ^ 60 := ⟨_, rfl⟩
  have HT : Hid (T = 10 ^ 60) := hT
  have fT : fits T 7 := by rw [hT]; exact fits_pow 60 7 (by omega)
  have fT : fits T 10000 := fT.mono (Nat.le_refl _) (by omega)
  have hr : ∀ w, Calls Tryd.prog 70 #[.int .i64 60] w fun e w' => (∃ v, e = .returned v ∧ isN w' v T) ∧ Below w.heap.size w w' := by
    intro w; rw [hT]; exact natOfTens_any 60 w (by omega)
  have HR : Hid _ := hr
  clear hv hb hT hr
  go_enter Tryd.func67, Tryd.ntmps67
  go_wp2_with fail
  refine (HR.out _).mono ?_
  rintro e w1 ⟨⟨v1, rfl, h1⟩, hb1⟩
  have H1 : Hid (isN w1 v1 T) := h1
  have HV1 : Hid (isN w1 v n) := isN_below HV.out hb1
  have HB1 : Hid (Below w.heap.size w w1) := hb1
  clear h1 hb1
  go_wp2_with fail
  refine (compare_f v v1 n T _ HV1.out H1.out hL fT).mono ?_
  rintro e w2 ⟨⟨c, rfl, hc, _, _⟩, hb2⟩
  have HB2 : Hid (Below w.heap.size w w2) := HB1.out.trans (hb2.mono HB1.out.size)
  have HC : Hid (c = cmpI n T) := hc
  have hd : decide (0 ≤ c) = b := big_cmp n T c b HT.out HC.out HB.out
  clear hb2 hc
  go_wp2
  simp only [bodyPost]
  refine ⟨trivial, _, ?_, rfl, HB2.out⟩
  simp [results, Tryd.results67, go_sem]

def FaErr (neg : Bool) (up dn : ByteArray) (k : Int) (c : Int) : Prop :=
  ∀ w : World, Calls Tryd.prog 37 #[.agg #[.bool neg, .string up, .string dn], .int .i64 k] w fun e w' => e = .returned (.tuple #[.agg #[.bool false, .slice none 0 0, .bool false, .slice none 0 0], .int .u64 0, .iface 75 (.agg #[.int .i64 c])]) ∧ Below w.heap.size w w'
def FaYes (neg : Bool) (up dn : ByteArray) (k : Int) (b b2 : Bool) (u d : Nat) (t : Int) : Prop :=
  ∀ w : World, Calls Tryd.prog 37 #[.agg #[.bool neg, .string up, .string dn], .int .i64 k] w fun e w' => (∃ ao len cap ao2 len2 cap2, e = .returned (.tuple #[.agg #[.bool b, .slice ao len cap, .bool b2, .slice ao2 len2 cap2], .int .u64 t, .nilIface]) ∧ Hid (isN w' (.slice ao len cap) u) ∧ Hid (isN w' (.slice ao2 len2 cap2) d)) ∧ Below w.heap.size w w'

set_option maxHeartbeats 800000 in
theorem factorOf_no (neg : Bool) (up dn : ByteArray) (k : Int) (hu : up.size ≤ maxLen) (hd : dn.size ≤ maxLen) (H1 : Hid (okN neg up.data.toList dn.data.toList = false)) : FaErr neg up dn k 1 := by
  intro w
  go_enter Tryd.func37, Tryd.ntmps37
  go_wp2_with fail
  obtain ⟨V, hV, hBV, x0, x1⟩ := boxes2 w #[Value.bool neg, Value.string up, Value.string dn] #[Value.bool false, Value.slice none 0 0, Value.bool false, Value.slice none 0 0] 25 60
  rw [← hV]
  have HBV : Hid (Below w.heap.size w V) := hBV
  have Z0 : Hid (boxAt V _ _ _) := x0
  have Z1 : Hid (boxAt V _ _ _) := x1
  clear hV hBV x0 x1
  refine (implNumOk_b neg up dn _ _ hu hd H1.out).mono ?_
  rintro e w3 ⟨rfl, hb3⟩
  have HB3 : Hid (Below w.heap.size w w3) := HBV.out.trans (hb3.mono HBV.out.size)
  have Y1 : Hid (boxAt w3 _ _ _) := Z1.out.on hb3
  clear hb3 Z0 Z1 HBV
  have k0 := Y1.out.cell 0 rfl
  have k1 := Y1.out.cell 1 rfl
  have k2 := Y1.out.cell 2 rfl
  have k3 := Y1.out.cell 3 rfl
  have g0 := Y1.out.frozen 0
  have g1 := Y1.out.frozen 1
  have g2 := Y1.out.frozen 2
  have g3 := Y1.out.frozen 3
  go_wp2
  simp only [bodyPost]
  refine ⟨trivial, _, ?_, rfl, ?_⟩
  · simp only [results, Tryd.results37]
    go_simp
  · have hz := HB3.out.size
    exact (((HB3.out.setCell (by show _ ≤ w.heap.size + 1; omega) _).setCell (by show _ ≤ w.heap.size + 1; omega) _).setCell (by show _ ≤ w.heap.size + 1; omega) _).setCell (by show _ ≤ w.heap.size + 1; omega) _

end Go.Proofs.YtaggfbffdbompaaDoor
