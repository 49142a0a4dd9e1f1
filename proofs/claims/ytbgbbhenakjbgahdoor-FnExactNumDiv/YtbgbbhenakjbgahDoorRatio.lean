/-
  Contracts of the program's ratios.
-/
import Derived.Test.YtbgbbhenakjbgahDoorSigned2
import Derived.Test.YtbgbbhenakjbgahDoorImplOk
namespace Go.Proofs.YtbgbbhenakjbgahDoor
set_option maxRecDepth 100000
set_option linter.unusedVariables false
set_option linter.unusedSimpArgs false
open Go.RowKit
attribute [local go_sem ↓] Go.wp_at_zero Go.wp_at_succ

/-- A whole number's sign. -/
def signI (b : Bool) (n : Nat) : Int := if n = 0 then 0 else if b then -1 else 1

set_option maxHeartbeats 1600000 in
theorem sign_any (b : Bool) (ao : Option Addr) (len cap : Nat) (n : Nat) (w : World) (hn : isN w (.slice ao len cap) n) :
    Calls Tryd.prog 29 #[.agg #[.bool b, .slice ao len cap]] w fun e w' => e = .returned (.int .i64 (signI b n)) ∧ Below w.heap.size w w' := by
  have hB : ∀ o, Below w.heap.size w (w.alloc o) := fun o => (Below.refl _ _).alloc (Nat.le_refl _) _
  have hl : len = 0 ↔ n = 0 := by
    obtain ⟨xs, h1, h2⟩ := hn
    have hlx : len = xs.length := by
      rcases rowN_shape h1 with ⟨e, rfl⟩ | ⟨g, cap', e, _⟩
      · cases e; rfl
      · cases e; rfl
    rw [hlx]
    constructor
    · intro h; rw [← h2.1, List.length_eq_zero_iff.1 h]; rfl
    · intro h; subst h; rw [Lm.isNat_zero xs h2]; rfl
  clear hn
  by_cases h0 : n = 0
  · have hz : ((len : Int) == 0) = true := by rw [beq_iff_eq]; omega
    have hv : signI b n = 0 := by rw [signI, if_pos h0]
    have HV : Hid (signI b n = 0) := hv
    clear hl h0 hv
    go_enter Tryd.func29, Tryd.ntmps29
    go_wp2
    go_ret
    exact ⟨ret_int HV.out.symm, hB _⟩
  · have hz : ((len : Int) == 0) = false := by rw [beq_eq_false_iff_ne]; omega
    cases b
    · have HV : Hid (signI false n = 1) := by show _ = _; rw [signI, if_neg h0]; rfl
      clear hl h0
      go_enter Tryd.func29, Tryd.ntmps29
      go_wp2
      go_ret
      exact ⟨ret_int HV.out.symm, hB _⟩
    · have HV : Hid (signI true n = -1) := by show _ = _; rw [signI, if_neg h0]; rfl
      clear hl h0
      go_enter Tryd.func29, Tryd.ntmps29
      go_wp2
      go_ret
      exact ⟨ret_int HV.out.symm, hB _⟩

theorem boxes2 (w : World) (c0 c1 : Array Value) (t0 t1 : Nat) : ∃ W, W = (w.alloc (Obj.cells c0 t0)).alloc (Obj.cells c1 t1) ∧ Below w.heap.size w W ∧
    boxAt W w.heap.size c0 t0 ∧ boxAt W (w.heap.size + 1) c1 t1 := by
  have hs : ∀ (w : World) o, (w.alloc o).heap.size = w.heap.size + 1 := fun w o => by show (w.heap.push _).size = _; simp
  refine ⟨_, rfl, ((Below.refl _ _).alloc (Nat.le_refl _) _).alloc (by rw [hs]; omega) _, (boxAt_new w c0 t0).alloc _, ?_⟩
  have := boxAt_new (w.alloc (Obj.cells c0 t0)) c1 t1
  rw [hs] at this
  exact this

theorem times_c (b : Bool) (ao : Option Addr) (len cap : Nat) (b2 : Bool) (ao2 : Option Addr) (len2 cap2 : Nat) (n m : Nat) (w : World) (hn : isN w (.slice ao len cap) n) (hm : isN w (.slice ao2 len2 cap2) m) (fn : fits n 10000) (fm : fits m 10000) :
    Calls Tryd.prog 98 #[.agg #[.bool b, .slice ao len cap], .agg #[.bool b2, .slice ao2 len2 cap2]] w fun e w' => (∃ c ao3 len3 cap3, e = .returned (.agg #[.bool c, .slice ao3 len3 cap3]) ∧ Hid (c = (b != b2)) ∧ isN w' (.slice ao3 len3 cap3) (n * m)) ∧ Below w.heap.size w w' :=
  (times_s b ao len cap b2 ao2 len2 cap2 n m w hn hm fn fm).mono fun _ _ h => by obtain ⟨⟨a3, l3, c3, h1, h2⟩, h3⟩ := h; exact ⟨⟨_, a3, l3, c3, h1, rfl, h2⟩, h3⟩

theorem opposite_c (b : Bool) (ao : Option Addr) (len cap : Nat) (w : World) :
    Calls Tryd.prog 96 #[.agg #[.bool b, .slice ao len cap]] w fun e w' => (∃ c, e = .returned (.agg #[.bool c, .slice ao len cap]) ∧ Hid (c = !b)) ∧ Below w.heap.size w w' :=
  (opposite_any b ao len cap w).mono fun _ _ h => ⟨⟨_, h.1, rfl⟩, h.2⟩

theorem plus_c (b : Bool) (ao : Option Addr) (len cap : Nat) (b2 : Bool) (ao2 : Option Addr) (len2 cap2 : Nat) (n m : Nat) (w : World) (hn : isN w (.slice ao len cap) n) (hm : isN w (.slice ao2 len2 cap2) m) (fn : fits n 9999) (fm : fits m 9999) :
    Calls Tryd.prog 97 #[.agg #[.bool b, .slice ao len cap], .agg #[.bool b2, .slice ao2 len2 cap2]] w fun e w' => (∃ c ao3 len3 cap3 k, e = .returned (.agg #[.bool c, .slice ao3 len3 cap3]) ∧ Hid (c = addB b n b2 m) ∧ Hid (k = addN b n b2 m) ∧ isN w' (.slice ao3 len3 cap3) k) ∧ Below w.heap.size w w' :=
  (plus_s b ao len cap b2 ao2 len2 cap2 n m w hn hm fn fm).mono fun _ _ h => by obtain ⟨⟨a3, l3, c3, h1, h2⟩, h3⟩ := h; exact ⟨⟨_, a3, l3, c3, _, h1, rfl, rfl, h2⟩, h3⟩

set_option maxHeartbeats 1600000 in
theorem ropp_any (b : Bool) (ao : Option Addr) (len cap : Nat) (b2 : Bool) (ao2 : Option Addr) (len2 cap2 : Nat) (w : World) :
    Calls Tryd.prog 25 #[.agg #[.bool b, .slice ao len cap, .bool b2, .slice ao2 len2 cap2]] w fun e w' => (∃ c, e = .returned (.agg #[.bool c, .slice ao len cap, .bool b2, .slice ao2 len2 cap2]) ∧ Hid (c = !b)) ∧ Below w.heap.size w w' := by
  go_enter Tryd.func25, Tryd.ntmps25
  go_wp2_with fail
  obtain ⟨W, hW, hBW, x0, x1⟩ := boxes2 w #[Value.bool b, Value.slice ao len cap, Value.bool b2, Value.slice ao2 len2 cap2] #[Value.bool false, Value.slice none 0 0, Value.bool false, Value.slice none 0 0] 37 37
  rw [← hW]
  have HBW : Hid (Below w.heap.size w W) := hBW
  have k00 := x0.cell 0 rfl
  have k01 := x0.cell 1 rfl
  have k02 := x0.cell 2 rfl
  have k03 := x0.cell 3 rfl
  have X1 : Hid (boxAt W _ _ _) := x1
  clear hW hBW x0 x1
  refine Go.wp_mono (Q := fun e a' w' => match e with | .normal => (∃ us : Array Value, a' = { tmps := us, defers := [] } ∧ us[2]? = some (.pointer (some ⟨w.heap.size + 1, 0, none⟩))) ∧ (∃ c, (w'.cell? ⟨w.heap.size + 1, 0, none⟩ = some (.bool c) ∧ w'.cell? ⟨w.heap.size + 1, 1, none⟩ = some (.slice ao len cap) ∧ w'.cell? ⟨w.heap.size + 1, 2, none⟩ = some (.bool b2) ∧ w'.cell? ⟨w.heap.size + 1, 3, none⟩ = some (.slice ao2 len2 cap2)) ∧ Hid (c = !b)) ∧ Below w.heap.size w w' | _ => False) ?_ ?_
  · go_region_held3 (fun w' => (w'.cell? ⟨w.heap.size, 0, none⟩ = some (.bool b) ∧ w'.cell? ⟨w.heap.size, 1, none⟩ = some (.slice ao len cap)) ∧ (w'.cell? ⟨w.heap.size, 2, none⟩ = some (.bool b2) ∧ w'.cell? ⟨w.heap.size, 3, none⟩ = some (.slice ao2 len2 cap2)))
      ((repeat' apply And.intro) <;> first | (with_reducible assumption) | ((with_reducible refine keep_set (keep_set (keep_set (keep_set ?_ ?_) ?_) ?_) ?_) <;> first | omega | assumption) | (go_keep; done))
      ((go_at_call 96; refine (opposite_c b ao len cap _).mono ?_; rintro e w9 ⟨⟨c, rfl, hc⟩, hb3⟩; have HB3 : Hid (Below W.drew.heap.size W.drew w9) := hb3
        have j00 := cell_on hb3 (W := W.drew) k00; have j01 := cell_on hb3 (W := W.drew) k01; have j02 := cell_on hb3 (W := W.drew) k02; have j03 := cell_on hb3 (W := W.drew) k03
        have y2 := X1.out.drew.on hb3; have j20 := y2.cell 0 rfl; have j21 := y2.cell 1 rfl; have j22 := y2.cell 2 rfl; have j23 := y2.cell 3 rfl; have g20 := y2.frozen 0; have g21 := y2.frozen 1; have g22 := y2.frozen 2; have g23 := y2.frozen 3; have Y2 : Hid (boxAt w9 _ _ _) := y2; clear hb3 y2))
    all_goals
      have hz2 := Y2.out.lt
      refine ⟨⟨_, rfl, rfl⟩, ⟨c, ⟨?_, ?_, ?_, ?_⟩, hc⟩, ?_⟩
      · go_simp
      · go_simp
      · go_simp
      · go_simp
      · exact ((((HBW.out.drew.trans (HB3.out.mono HBW.out.size)).setCell (by show _ ≤ w.heap.size + 1; omega) _).setCell (by show _ ≤ w.heap.size + 1; omega) _).setCell (by show _ ≤ w.heap.size + 1; omega) _).setCell (by show _ ≤ w.heap.size + 1; omega) _
  · intro e a' w' hq
    cases e
    case normal =>
      obtain ⟨⟨us, rfl, hus⟩, ⟨c, ⟨hv0, hv1, hv2, hv3⟩, hc⟩, hb⟩ := hq
      go_wp2
      simp only [bodyPost]
      refine ⟨trivial, _, ?_, ⟨c, rfl, hc⟩, hb⟩
      simp only [results, Tryd.results25]
      go_simp
    all_goals exact hq.elim

set_option maxHeartbeats 1600000 in
theorem sumAbove_any (b : Bool) (ao : Option Addr) (len cap : Nat) (b2 : Bool) (ao2 : Option Addr) (len2 cap2 : Nat) (b3 : Bool) (ao3 : Option Addr) (len3 cap3 : Nat) (b4 : Bool) (ao4 : Option Addr) (len4 cap4 : Nat) (n1 n2 n3 n4 : Nat) (w : World)
    (h1 : isN w (.slice ao len cap) n1) (h2 : isN w (.slice ao2 len2 cap2) n2) (h3 : isN w (.slice ao3 len3 cap3) n3) (h4 : isN w (.slice ao4 len4 cap4) n4) (f1 : fits n1 10000) (f2 : fits n2 10000) (f3 : fits n3 10000) (f4 : fits n4 10000) (f14 : fits (n1 * n4) 9999) (f32 : fits (n3 * n2) 9999) :
    Calls Tryd.prog 23 #[.agg #[.bool b, .slice ao len cap, .bool b2, .slice ao2 len2 cap2], .agg #[.bool b3, .slice ao3 len3 cap3, .bool b4, .slice ao4 len4 cap4]] w fun e w' =>
      (∃ c ao5 len5 cap5 k, e = .returned (.agg #[.bool c, .slice ao5 len5 cap5]) ∧ Hid (c = addB (b != b4) (n1 * n4) (b3 != b2) (n3 * n2)) ∧ Hid (k = addN (b != b4) (n1 * n4) (b3 != b2) (n3 * n2)) ∧ isN w' (.slice ao5 len5 cap5) k) ∧ Below w.heap.size w w' := by
  go_enter Tryd.func23, Tryd.ntmps23
  go_wp2_with fail
  obtain ⟨W, hW, hBW, x0, x1, x2⟩ := boxes3 w #[Value.bool b, Value.slice ao len cap, Value.bool b2, Value.slice ao2 len2 cap2] #[Value.bool b3, Value.slice ao3 len3 cap3, Value.bool b4, Value.slice ao4 len4 cap4] #[Value.bool false, Value.slice none 0 0] 37 37 35
  rw [← hW]
  have HBW : Hid (Below w.heap.size w W) := hBW
  have H1 : Hid (isN W (.slice ao len cap) n1) := isN_below h1 hBW
  have H2 : Hid (isN W (.slice ao2 len2 cap2) n2) := isN_below h2 hBW
  have H3 : Hid (isN W (.slice ao3 len3 cap3) n3) := isN_below h3 hBW
  have H4 : Hid (isN W (.slice ao4 len4 cap4) n4) := isN_below h4 hBW
  have k00 := x0.cell 0 rfl
  have k01 := x0.cell 1 rfl
  have k02 := x0.cell 2 rfl
  have k03 := x0.cell 3 rfl
  have k10 := x1.cell 0 rfl
  have k11 := x1.cell 1 rfl
  have k12 := x1.cell 2 rfl
  have k13 := x1.cell 3 rfl
  have X0 : Hid (boxAt W _ _ _) := x0
  have X1 : Hid (boxAt W _ _ _) := x1
  have X2 : Hid (boxAt W _ _ _) := x2
  clear hW hBW x0 x1 x2 h1 h2 h3 h4
  refine Go.wp_mono (Q := fun e a' w' => match e with | .normal => (∃ us : Array Value, a' = { tmps := us, defers := [] } ∧ us[4]? = some (.pointer (some ⟨w.heap.size + 1 + 1, 0, none⟩))) ∧ (∃ c ao5 len5 cap5 k, w'.cell? ⟨w.heap.size + 1 + 1, 0, none⟩ = some (.bool c) ∧ w'.cell? ⟨w.heap.size + 1 + 1, 1, none⟩ = some (.slice ao5 len5 cap5) ∧ Hid (c = addB (b != b4) (n1 * n4) (b3 != b2) (n3 * n2)) ∧ Hid (k = addN (b != b4) (n1 * n4) (b3 != b2) (n3 * n2)) ∧ Hid (isN w' (.slice ao5 len5 cap5) k)) ∧ Below w.heap.size w w' | _ => False) ?_ ?_
  · go_region_held3 (fun w' => ((w'.cell? ⟨w.heap.size, 0, none⟩ = some (.bool b) ∧ w'.cell? ⟨w.heap.size, 1, none⟩ = some (.slice ao len cap)) ∧ (w'.cell? ⟨w.heap.size, 2, none⟩ = some (.bool b2) ∧ w'.cell? ⟨w.heap.size, 3, none⟩ = some (.slice ao2 len2 cap2))) ∧ ((w'.cell? ⟨w.heap.size + 1, 0, none⟩ = some (.bool b3) ∧ w'.cell? ⟨w.heap.size + 1, 1, none⟩ = some (.slice ao3 len3 cap3)) ∧ (w'.cell? ⟨w.heap.size + 1, 2, none⟩ = some (.bool b4) ∧ w'.cell? ⟨w.heap.size + 1, 3, none⟩ = some (.slice ao4 len4 cap4))))
      ((repeat' apply And.intro) <;> first | (with_reducible assumption) | ((with_reducible refine keep_set (keep_set ?_ ?_) ?_) <;> first | omega | assumption) | (go_keep; done))
      (first
        | (go_at_call_of 98 (Value.slice ao len cap); refine (times_c b ao len cap b4 ao4 len4 cap4 n1 n4 _ (isN_below H1.out (below_drew _)) (isN_below H4.out (below_drew _)) f1 f4).mono ?_; rintro e w5 ⟨⟨c5, ao5, len5, cap5, rfl, hc5, h5⟩, hb5⟩; have H5 : Hid (isN w5 (.slice ao5 len5 cap5) (n1 * n4)) := h5; have HB5 : Hid (Below W.drew.heap.size W.drew w5) := hb5
           have X05 : Hid (boxAt w5 _ _ _) := X0.out.drew.on hb5; have X15 : Hid (boxAt w5 _ _ _) := X1.out.drew.on hb5; have X25 : Hid (boxAt w5 _ _ _) := X2.out.drew.on hb5
           have j00 := X05.out.cell 0 rfl; have j01 := X05.out.cell 1 rfl; have j02 := X05.out.cell 2 rfl; have j03 := X05.out.cell 3 rfl; have j10 := X15.out.cell 0 rfl; have j11 := X15.out.cell 1 rfl; have j12 := X15.out.cell 2 rfl; have j13 := X15.out.cell 3 rfl; clear h5 hb5)
        | (go_at_call_of 98 (Value.slice ao3 len3 cap3); refine (times_c b3 ao3 len3 cap3 b2 ao2 len2 cap2 n3 n2 _ (isN_below (isN_below H3.out (below_drew _)) HB5.out) (isN_below (isN_below H2.out (below_drew _)) HB5.out) f3 f2).mono ?_; rintro e w6 ⟨⟨c6, ao6, len6, cap6, rfl, hc6, h6⟩, hb6⟩; have H6 : Hid (isN w6 (.slice ao6 len6 cap6) (n3 * n2)) := h6; have G5 : Hid (isN w6 (.slice ao5 len5 cap5) (n1 * n4)) := isN_below H5.out hb6; have HB6 : Hid (Below w5.heap.size w5 w6) := hb6
           have X06 : Hid (boxAt w6 _ _ _) := X05.out.on hb6; have X16 : Hid (boxAt w6 _ _ _) := X15.out.on hb6; have X26 : Hid (boxAt w6 _ _ _) := X25.out.on hb6
           have i00 := X06.out.cell 0 rfl; have i01 := X06.out.cell 1 rfl; have i02 := X06.out.cell 2 rfl; have i03 := X06.out.cell 3 rfl; have i10 := X16.out.cell 0 rfl; have i11 := X16.out.cell 1 rfl; have i12 := X16.out.cell 2 rfl; have i13 := X16.out.cell 3 rfl; clear h6 hb6)
        | (go_at_call 97; refine (plus_c c5 ao5 len5 cap5 c6 ao6 len6 cap6 (n1 * n4) (n3 * n2) _ G5.out H6.out f14 f32).mono ?_; rintro e w7 ⟨⟨c7, ao7, len7, cap7, k7, rfl, hc7, hk7, h7⟩, hb7⟩; have H7 : Hid (isN w7 (.slice ao7 len7 cap7) k7) := h7; have HB7 : Hid (Below w6.heap.size w6 w7) := hb7
           have X07 : Hid (boxAt w7 _ _ _) := X06.out.on hb7; have X17 : Hid (boxAt w7 _ _ _) := X16.out.on hb7; have X27 : Hid (boxAt w7 _ _ _) := X26.out.on hb7
           have q00 := X07.out.cell 0 rfl; have q01 := X07.out.cell 1 rfl; have q02 := X07.out.cell 2 rfl; have q03 := X07.out.cell 3 rfl; have q10 := X17.out.cell 0 rfl; have q11 := X17.out.cell 1 rfl; have q12 := X17.out.cell 2 rfl; have q13 := X17.out.cell 3 rfl; have q20 := X27.out.cell 0 rfl; have q21 := X27.out.cell 1 rfl; have g20 := X27.out.frozen 0; have g21 := X27.out.frozen 1; clear h7 hb7))
    all_goals
      have hz2 := X27.out.lt
      have hap := isN_apart H7.out X27.out (by decide)
      have s1 := HBW.out.size
      have s2 := HB5.out.size
      have s3 := HB6.out.size
      refine ⟨⟨_, rfl, rfl⟩, ⟨c7, ao7, len7, cap7, k7, ?_, ?_, ?_, ?_, isN_set (isN_set H7.out hap) hap⟩, ?_⟩
      · go_simp
      · go_simp
      · show c7 = _
        rw [hc7.out, hc5.out, hc6.out]
      · show k7 = _
        rw [hk7.out, hc5.out, hc6.out]
      · exact ((HBW.out.drew.trans ((HB5.out.mono s1).trans ((HB6.out.mono (Nat.le_trans s1 s2)).trans (HB7.out.mono (Nat.le_trans (Nat.le_trans s1 s2) s3))))).setCell (by show _ ≤ w.heap.size + 1 + 1; omega) _).setCell (by show _ ≤ w.heap.size + 1 + 1; omega) _
  · intro e a' w' hq
    cases e
    case normal =>
      obtain ⟨⟨us, rfl, hus⟩, ⟨c, ao5, len5, cap5, k, hv0, hv1, hc, hk, hv⟩, hb⟩ := hq
      go_wp2
      simp only [bodyPost]
      refine ⟨trivial, _, ?_, ⟨c, ao5, len5, cap5, k, rfl, hc, hk, hv.out⟩, hb⟩
      simp only [results, Tryd.results23]
      go_simp
    all_goals exact hq.elim

set_option maxHeartbeats 1600000 in
theorem ratioOf_any (neg : Bool) (up dn : ByteArray) (w : World) (hu : up.size ≤ 100000) (hd : dn.size ≤ 100000) (du : ∀ c ∈ up.data.toList, Dm.isDig c) (dd : ∀ c ∈ dn.data.toList, Dm.isDig c) :
    Calls Tryd.prog 37 #[.agg #[.bool neg, .string up, .string dn]] w fun e w' => (∃ ao len cap ao2 len2 cap2, e = .returned (.agg #[.bool neg, .slice ao len cap, .bool false, .slice ao2 len2 cap2]) ∧ isN w' (.slice ao len cap) (Dm.val up.data.toList) ∧ isN w' (.slice ao2 len2 cap2) (Dm.val dn.data.toList)) ∧ Below w.heap.size w w' := by
  go_enter Tryd.func37, Tryd.ntmps37
  go_wp2_with fail
  obtain ⟨W, hW, hBW, x0, x1⟩ := boxes2 w #[Value.bool neg, Value.string up, Value.string dn] #[Value.bool false, Value.slice none 0 0, Value.bool false, Value.slice none 0 0] 25 37
  rw [← hW]
  have HBW : Hid (Below w.heap.size w W) := hBW
  have k00 := x0.cell 0 rfl
  have k01 := x0.cell 1 rfl
  have k02 := x0.cell 2 rfl
  have X0 : Hid (boxAt W _ _ _) := x0
  have X1 : Hid (boxAt W _ _ _) := x1
  have DU : Hid (∀ c ∈ up.data.toList, Dm.isDig c) := du
  have DD : Hid (∀ c ∈ dn.data.toList, Dm.isDig c) := dd
  clear hW hBW x0 x1 du dd
  refine Go.wp_mono (Q := fun e a' w' => match e with | .normal => (∃ us : Array Value, a' = { tmps := us, defers := [] } ∧ us[2]? = some (.pointer (some ⟨w.heap.size + 1, 0, none⟩))) ∧ (∃ ao len cap ao2 len2 cap2, (w'.cell? ⟨w.heap.size + 1, 0, none⟩ = some (.bool neg) ∧ w'.cell? ⟨w.heap.size + 1, 1, none⟩ = some (.slice ao len cap) ∧ w'.cell? ⟨w.heap.size + 1, 2, none⟩ = some (.bool false) ∧ w'.cell? ⟨w.heap.size + 1, 3, none⟩ = some (.slice ao2 len2 cap2)) ∧ Hid (isN w' (.slice ao len cap) (Dm.val up.data.toList)) ∧ Hid (isN w' (.slice ao2 len2 cap2) (Dm.val dn.data.toList))) ∧ Below w.heap.size w w' | _ => False) ?_ ?_
  · go_region_held3 (fun w' => w'.cell? ⟨w.heap.size, 0, none⟩ = some (.bool neg) ∧ (w'.cell? ⟨w.heap.size, 1, none⟩ = some (.string up) ∧ w'.cell? ⟨w.heap.size, 2, none⟩ = some (.string dn)))
      ((repeat' apply And.intro) <;> first | (with_reducible assumption) | ((with_reducible refine keep_set (keep_set (keep_set (keep_set ?_ ?_) ?_) ?_) ?_) <;> first | omega | assumption) | (go_keep; done))
      (first
        | (go_at_call_of 44 (Value.string up); refine (natOfDecimal_any up _ hu DU.out).mono ?_; rintro e w5 ⟨⟨v5, rfl, h5⟩, hb5⟩; obtain ⟨ao5, len5, cap5, rfl⟩ := isN_slice h5; have H5 : Hid (isN w5 (.slice ao5 len5 cap5) (Dm.val up.data.toList)) := h5; have HB5 : Hid (Below W.drew.heap.size W.drew w5) := hb5
           have X05 : Hid (boxAt w5 _ _ _) := X0.out.drew.on hb5; have X15 : Hid (boxAt w5 _ _ _) := X1.out.drew.on hb5
           have j00 := X05.out.cell 0 rfl; have j01 := X05.out.cell 1 rfl; have j02 := X05.out.cell 2 rfl; clear h5 hb5)
        | (go_at_call_of 44 (Value.string dn); refine (natOfDecimal_any dn _ hd DD.out).mono ?_; rintro e w6 ⟨⟨v6, rfl, h6⟩, hb6⟩; obtain ⟨ao6, len6, cap6, rfl⟩ := isN_slice h6; have H6 : Hid (isN w6 (.slice ao6 len6 cap6) (Dm.val dn.data.toList)) := h6; have G5 : Hid (isN w6 (.slice ao5 len5 cap5) (Dm.val up.data.toList)) := isN_below H5.out hb6; have HB6 : Hid (Below w5.heap.size w5 w6) := hb6
           have X06 : Hid (boxAt w6 _ _ _) := X05.out.on hb6; have X16 : Hid (boxAt w6 _ _ _) := X15.out.on hb6
           have i00 := X06.out.cell 0 rfl; have i01 := X06.out.cell 1 rfl; have i02 := X06.out.cell 2 rfl; have q20 := X16.out.cell 0 rfl; have q21 := X16.out.cell 1 rfl; have q22 := X16.out.cell 2 rfl; have q23 := X16.out.cell 3 rfl; have g20 := X16.out.frozen 0; have g21 := X16.out.frozen 1; have g22 := X16.out.frozen 2; have g23 := X16.out.frozen 3; clear h6 hb6))
    all_goals
      have hz2 := X16.out.lt
      have hap := isN_apart G5.out X16.out (by decide)
      have hap2 := isN_apart H6.out X16.out (by decide)
      have s1 := HBW.out.size
      have s2 := HB5.out.size
      refine ⟨⟨_, rfl, rfl⟩, ⟨ao5, len5, cap5, ao6, len6, cap6, ⟨?_, ?_, ?_, ?_⟩, isN_set (isN_set (isN_set (isN_set G5.out hap) hap) hap) hap, isN_set (isN_set (isN_set (isN_set H6.out hap2) hap2) hap2) hap2⟩, ?_⟩
      · go_simp
      · go_simp
      · go_simp
      · go_simp
      · exact ((((HBW.out.drew.trans ((HB5.out.mono s1).trans (HB6.out.mono (Nat.le_trans s1 s2)))).setCell (by show _ ≤ w.heap.size + 1; omega) _).setCell (by show _ ≤ w.heap.size + 1; omega) _).setCell (by show _ ≤ w.heap.size + 1; omega) _).setCell (by show _ ≤ w.heap.size + 1; omega) _
  · intro e a' w' hq
    cases e
    case normal =>
      obtain ⟨⟨us, rfl, hus⟩, ⟨ao, len, cap, ao2, len2, cap2, ⟨hv0, hv1, hv2, hv3⟩, hn1, hn2⟩, hb⟩ := hq
      go_wp2
      simp only [bodyPost]
      refine ⟨trivial, _, ?_, ⟨ao, len, cap, ao2, len2, cap2, rfl, hn1.out, hn2.out⟩, hb⟩
      simp only [results, Tryd.results37]
      go_simp
    all_goals exact hq.elim

end Go.Proofs.YtbgbbhenakjbgahDoor
