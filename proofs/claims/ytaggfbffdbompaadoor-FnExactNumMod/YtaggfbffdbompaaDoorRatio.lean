/-
  Contracts of the program's ratios.
-/
import Derived.Test.YtaggfbffdbompaaDoorSigned2
import Derived.Test.YtaggfbffdbompaaDoorImplOk
namespace Go.Proofs.YtaggfbffdbompaaDoor
set_option maxRecDepth 100000
set_option linter.unusedVariables false
set_option linter.unusedSimpArgs false
open Go.RowKit
attribute [local go_sem ↓] Go.wp_at_zero Go.wp_at_succ

/-- A whole number's sign. -/
def signI (b : Bool) (n : Nat) : Int := if n = 0 then 0 else if b then -1 else 1

set_option maxHeartbeats 1600000 in
theorem sign_any (b : Bool) (ao : Option Addr) (len cap : Nat) (n : Nat) (w : World) (hn : isN w (.slice ao len cap) n) :
    Calls Tryd.prog 29 #[.agg #[.bool b, .slice ao len cap]] w fun e w' => e = .returned (.int .i64 (signI b n)) ∧ Below w.heap.size w w' := by
  have hB : ∀ o, Below w.heap.size w (w.alloc o) := fun o => (Below.refl _ _).alloc (Nat.le_refl _) _
  have hl : len = 0 ↔ n = 0 := by
    obtain ⟨xs, h1, h2⟩ := hn
    have hlx : len = xs.length := by
      rcases rowN_shape h1 with ⟨e, rfl⟩ | ⟨g, cap', e, _⟩
      · cases e; rfl
      · cases e; rfl
    rw [hlx]
    constructor
    · intro h; rw [← h2.1, List.length_eq_zero_iff.1 h]; rfl
    · intro h; subst h; rw [Lm.isNat_zero xs h2]; rfl
  clear hn
  by_cases h0 : n = 0
  · have hz : ((len : Int) == 0) = true := by rw [beq_iff_eq]; omega
    have hv : signI b n = 0 := by rw [signI, if_pos h0]
    have HV : Hid (signI b n = 0) := hv
    clear hl h0 hv
    go_enter Tryd.func29, Tryd.ntmps29
    go_wp2
    go_ret
    exact ⟨ret_int HV.out.symm, hB _⟩
  · have hz : ((len : Int) == 0) = false := by rw [beq_eq_false_iff_ne]; omega
    cases b
    · have HV : Hid (signI false n = 1) := by show _ = _; rw [signI, if_neg h0]; rfl
      clear hl h0
      go_enter Tryd.func29, Tryd.ntmps29
      go_wp2
      go_ret
      exact ⟨ret_int HV.out.symm, hB _⟩
    · have HV : Hid (signI true n = -1) := by show _ = _; rw [signI, if_neg h0]; rfl
      clear hl h0
      go_enter Tryd.func29, Tryd.ntmps29
      go_wp2
      go_ret
      exact ⟨ret_int HV.out.symm, hB _⟩

theorem boxes2 (w : World) (c0 c1 : Array Value) (t0 t1 : Nat) : ∃ W, W = (w.alloc (Obj.cells c0 t0)).alloc (Obj.cells c1 t1) ∧ Below w.heap.size w W ∧
    boxAt W w.heap.size c0 t0 ∧ boxAt W (w.heap.size + 1) c1 t1 := by
  have hs : ∀ (w : World) o, (w.alloc o).heap.size = w.heap.size + 1 := fun w o => by show (w.heap.push _).size = _; simp
  refine ⟨_, rfl, ((Below.refl _ _).alloc (Nat.le_refl _) _).alloc (by rw [hs]; omega) _, (boxAt_new w c0 t0).alloc _, ?_⟩
  have := boxAt_new (w.alloc (Obj.cells c0 t0)) c1 t1
  rw [hs] at this
  exact this

theorem times_c (b : Bool) (ao : Option Addr) (len cap : Nat) (b2 : Bool) (ao2 : Option Addr) (len2 cap2 : Nat) (n m : Nat) (w : World) (hn : isN w (.slice ao len cap) n) (hm : isN w (.slice ao2 len2 cap2) m) (fn : fits n 10000) (fm : fits m 10000) :
    Calls Tryd.prog 128 #[.agg #[.bool b, .slice ao len cap], .agg #[.bool b2, .slice ao2 len2 cap2]] w fun e w' => (∃ c ao3 len3 cap3, e = .returned (.agg #[.bool c, .slice ao3 len3 cap3]) ∧ Hid (c = (b != b2)) ∧ isN w' (.slice ao3 len3 cap3) (n * m)) ∧ Below w.heap.size w w' :=
  (times_s b ao len cap b2 ao2 len2 cap2 n m w hn hm fn fm).mono fun _ _ h => by obtain ⟨⟨a3, l3, c3, h1, h2⟩, h3⟩ := h; exact ⟨⟨_, a3, l3, c3, h1, rfl, h2⟩, h3⟩

theorem plus_c (b : Bool) (ao : Option Addr) (len cap : Nat) (b2 : Bool) (ao2 : Option Addr) (len2 cap2 : Nat) (n m : Nat) (w : World) (hn : isN w (.slice ao len cap) n) (hm : isN w (.slice ao2 len2 cap2) m) (fn : fits n 9999) (fm : fits m 9999) :
    Calls Tryd.prog 30 #[.agg #[.bool b, .slice ao len cap], .agg #[.bool b2, .slice ao2 len2 cap2]] w fun e w' => (∃ c ao3 len3 cap3 k, e = .returned (.agg #[.bool c, .slice ao3 len3 cap3]) ∧ Hid (c = addB b n b2 m) ∧ Hid (k = addN b n b2 m) ∧ isN w' (.slice ao3 len3 cap3) k) ∧ Below w.heap.size w w' :=
  (plus_s b ao len cap b2 ao2 len2 cap2 n m w hn hm fn fm).mono fun _ _ h => by obtain ⟨⟨a3, l3, c3, h1, h2⟩, h3⟩ := h; exact ⟨⟨_, a3, l3, c3, _, h1, rfl, rfl, h2⟩, h3⟩

set_option maxHeartbeats 1600000 in
theorem ratioOf_any (neg : Bool) (up dn : ByteArray) (w : World) (hu : up.size ≤ 100000) (hd : dn.size ≤ 100000) (du : ∀ c ∈ up.data.toList, Dm.isDig c) (dd : ∀ c ∈ dn.data.toList, Dm.isDig c) :
    Calls Tryd.prog 61 #[.agg #[.bool neg, .string up, .string dn]] w fun e w' => (∃ ao len cap ao2 len2 cap2, e = .returned (.agg #[.bool neg, .slice ao len cap, .bool false, .slice ao2 len2 cap2]) ∧ isN w' (.slice ao len cap) (Dm.val up.data.toList) ∧ isN w' (.slice ao2 len2 cap2) (Dm.val dn.data.toList)) ∧ Below w.heap.size w w' := by
  go_enter Tryd.func61, Tryd.ntmps61
  go_wp2_with fail
  obtain ⟨W, hW, hBW, x0, x1⟩ := boxes2 w #[Value.bool neg, Value.string up, Value.string dn] #[Value.bool false, Value.slice none 0 0, Value.bool false, Value.slice none 0 0] 25 60
  rw [← hW]
  have HBW : Hid (Below w.heap.size w W) := hBW
  have k00 := x0.cell 0 rfl
  have k01 := x0.cell 1 rfl
  have k02 := x0.cell 2 rfl
  have X0 : Hid (boxAt W _ _ _) := x0
  have X1 : Hid (boxAt W _ _ _) := x1
  have DU : Hid (∀ c ∈ up.data.toList, Dm.isDig c) := du
  have DD : Hid (∀ c ∈ dn.data.toList, Dm.isDig c) := dd
  clear hW hBW x0 x1 du dd
  refine Go.wp_mono (Q := fun e a' w' => match e with | .normal => (∃ us : Array Value, a' = { tmps := us, defers := [] } ∧ us[2]? = some (.pointer (some ⟨w.heap.size + 1, 0, none⟩))) ∧ (∃ ao len cap ao2 len2 cap2, (w'.cell? ⟨w.heap.size + 1, 0, none⟩ = some (.bool neg) ∧ w'.cell? ⟨w.heap.size + 1, 1, none⟩ = some (.slice ao len cap) ∧ w'.cell? ⟨w.heap.size + 1, 2, none⟩ = some (.bool false) ∧ w'.cell? ⟨w.heap.size + 1, 3, none⟩ = some (.slice ao2 len2 cap2)) ∧ Hid (isN w' (.slice ao len cap) (Dm.val up.data.toList)) ∧ Hid (isN w' (.slice ao2 len2 cap2) (Dm.val dn.data.toList))) ∧ Below w.heap.size w w' | _ => False) ?_ ?_
  · go_region_held3 (fun w' => w'.cell? ⟨w.heap.size, 0, none⟩ = some (.bool neg) ∧ (w'.cell? ⟨w.heap.size, 1, none⟩ = some (.string up) ∧ w'.cell? ⟨w.heap.size, 2, none⟩ = some (.string dn)))
      ((repeat' apply And.intro) <;> first | (with_reducible assumption) | ((with_reducible refine keep_set (keep_set (keep_set (keep_set ?_ ?_) ?_) ?_) ?_) <;> first | omega | assumption) | (go_keep; done))
      (first
        | (go_at_call_of 69 (Value.string up); refine (natOfDecimal_any up _ hu DU.out).mono ?_; rintro e w5 ⟨⟨v5, rfl, h5⟩, hb5⟩; obtain ⟨ao5, len5, cap5, rfl⟩ := isN_slice h5; have H5 : Hid (isN w5 (.slice ao5 len5 cap5) (Dm.val up.data.toList)) := h5; have HB5 : Hid (Below W.drew.heap.size W.drew w5) := hb5
           have X05 : Hid (boxAt w5 _ _ _) := X0.out.drew.on hb5; have X15 : Hid (boxAt w5 _ _ _) := X1.out.drew.on hb5
           have j00 := X05.out.cell 0 rfl; have j01 := X05.out.cell 1 rfl; have j02 := X05.out.cell 2 rfl; clear h5 hb5)
        | (go_at_call_of 69 (Value.string dn); refine (natOfDecimal_any dn _ hd DD.out).mono ?_; rintro e w6 ⟨⟨v6, rfl, h6⟩, hb6⟩; obtain ⟨ao6, len6, cap6, rfl⟩ := isN_slice h6; have H6 : Hid (isN w6 (.slice ao6 len6 cap6) (Dm.val dn.data.toList)) := h6; have G5 : Hid (isN w6 (.slice ao5 len5 cap5) (Dm.val up.data.toList)) := isN_below H5.out hb6; have HB6 : Hid (Below w5.heap.size w5 w6) := hb6
           have X06 : Hid (boxAt w6 _ _ _) := X05.out.on hb6; have X16 : Hid (boxAt w6 _ _ _) := X15.out.on hb6
           have i00 := X06.out.cell 0 rfl; have i01 := X06.out.cell 1 rfl; have i02 := X06.out.cell 2 rfl; have q20 := X16.out.cell 0 rfl; have q21 := X16.out.cell 1 rfl; have q22 := X16.out.cell 2 rfl; have q23 := X16.out.cell 3 rfl; have g20 := X16.out.frozen 0; have g21 := X16.out.frozen 1; have g22 := X16.out.frozen 2; have g23 := X16.out.frozen 3; clear h6 hb6))
    all_goals
      have hz2 := X16.out.lt
      have hap := isN_apart G5.out X16.out (by decide)
      have hap2 := isN_apart H6.out X16.out (by decide)
      have s1 := HBW.out.size
      have s2 := HB5.out.size
      refine ⟨⟨_, rfl, rfl⟩, ⟨ao5, len5, cap5, ao6, len6, cap6, ⟨?_, ?_, ?_, ?_⟩, isN_set (isN_set (isN_set (isN_set G5.out hap) hap) hap) hap, isN_set (isN_set (isN_set (isN_set H6.out hap2) hap2) hap2) hap2⟩, ?_⟩
      · go_simp
      · go_simp
      · go_simp
      · go_simp
      · exact ((((HBW.out.drew.trans ((HB5.out.mono s1).trans (HB6.out.mono (Nat.le_trans s1 s2)))).setCell (by show _ ≤ w.heap.size + 1; omega) _).setCell (by show _ ≤ w.heap.size + 1; omega) _).setCell (by show _ ≤ w.heap.size + 1; omega) _).setCell (by show _ ≤ w.heap.size + 1; omega) _
  · intro e a' w' hq
    cases e
    case normal =>
      obtain ⟨⟨us, rfl, hus⟩, ⟨ao, len, cap, ao2, len2, cap2, ⟨hv0, hv1, hv2, hv3⟩, hn1, hn2⟩, hb⟩ := hq
      go_wp2
      simp only [bodyPost]
      refine ⟨trivial, _, ?_, ⟨ao, len, cap, ao2, len2, cap2, rfl, hn1.out, hn2.out⟩, hb⟩
      simp only [results, Tryd.results61]
      go_simp
    all_goals exact hq.elim

end Go.Proofs.YtaggfbffdbompaaDoor
