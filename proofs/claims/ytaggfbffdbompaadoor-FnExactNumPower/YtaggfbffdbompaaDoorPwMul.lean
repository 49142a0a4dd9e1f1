/-
  Contracts of the specification's NumMul.
-/
import Derived.Test.YtaggfbffdbompaaDoorNum1
namespace Go.Proofs.YtaggfbffdbompaaDoor
set_option maxRecDepth 100000
set_option linter.unusedVariables false
set_option linter.unusedSimpArgs false
open Go.RowKit
attribute [local go_sem ↓] Go.wp_at_zero Go.wp_at_succ

theorem bel_set {w W : World} {p : Addr} {v : Value} (h : Below w.heap.size w W) (hp : w.heap.size ≤ p.block) : Below w.heap.size w (W.setCell p v) := h.setCell hp v

set_option maxHeartbeats 1600000 in
theorem sNumMul_yes (neg : Bool) (up dn : ByteArray) (neg2 : Bool) (up2 dn2 : ByteArray) (u d u2 d2 : Nat) (C : Bool) (U D : ByteArray) (K : Int) (w : World) (hu : up.size ≤ maxLen) (hd : dn.size ≤ maxLen) (hu2 : up2.size ≤ maxLen) (hd2 : dn2.size ≤ maxLen) (H1 : Hid (okN neg up.data.toList dn.data.toList = true)) (H2 : Hid (okN neg2 up2.data.toList dn2.data.toList = true)) 
    (D1 : Hid (Dm.isDec up.data.toList u)) (D2 : Hid (Dm.isDec dn.data.toList d)) (D3 : Hid (Dm.isDec up2.data.toList u2)) (D4 : Hid (Dm.isDec dn2.data.toList d2)) (s1 : up.size ≤ 60) (s2 : dn.size ≤ 60) (s3 : up2.size ≤ 60) (s4 : dn2.size ≤ 60)
    (HA : Hid (∀ (x : Bool) (t1 t2 : ByteArray) (W : World), x = (neg != neg2) → Hid (Dm.isDec t1.data.toList (u * u2)) → Hid (Dm.isDec t2.data.toList (d * d2)) → Calls Tryd.prog 59 #[.bool x, .string t1, .string t2] W fun e w' => e = .returned (.tuple #[.agg #[.bool C, .string U, .string D], .int .i64 K]) ∧ Below W.heap.size W w')) :
    Calls Tryd.prog 36 #[.agg #[.bool neg, .string up, .string dn], .agg #[.bool neg2, .string up2, .string dn2]] w fun e w' => e = .returned (.tuple #[.agg #[.bool C, .string U, .string D], .int .i64 K]) ∧ Below w.heap.size w w' := by
  go_enter Tryd.func36, Tryd.ntmps36
  go_wp2_with fail
  obtain ⟨W, hW, hBW, x0, x1, x2⟩ := boxes3 w #[Value.bool neg, Value.string up, Value.string dn] #[Value.bool neg2, Value.string up2, Value.string dn2] #[Value.bool false, Value.string ⟨#[]⟩, Value.string ⟨#[]⟩] 25 25 25
  rw [← hW]
  have HBW : Hid (Below w.heap.size w W) := hBW
  have X0 : Hid (boxAt W _ _ _) := x0
  have X1 : Hid (boxAt W _ _ _) := x1
  have X2 : Hid (boxAt W _ _ _) := x2
  clear hW hBW x0 x1 x2
  refine (specNumOk_c neg up dn _ _ hu hd H1.out).mono ?_
  rintro e w3 ⟨rfl, hb3⟩
  have HB3 : Hid (Below w.heap.size w w3) := HBW.out.trans (hb3.mono HBW.out.size)
  have Y0 : Hid (boxAt w3 _ _ _) := X0.out.on hb3
  have Y1 : Hid (boxAt w3 _ _ _) := X1.out.on hb3
  have Y2 : Hid (boxAt w3 _ _ _) := X2.out.on hb3
  clear hb3 X0 X1 X2 HBW
  have k10 := Y1.out.cell 0 rfl
  have k11 := Y1.out.cell 1 rfl
  have k12 := Y1.out.cell 2 rfl
  go_wp2_with fail
  refine (specNumOk_c neg2 up2 dn2 _ _ hu2 hd2 H2.out).mono ?_
  rintro e w4 ⟨rfl, hb4⟩
  have HB4 : Hid (Below w.heap.size w w4) := HB3.out.trans (hb4.mono HB3.out.size)
  have V0 : Hid (boxAt w4 _ _ _) := Y0.out.on hb4
  have V1 : Hid (boxAt w4 _ _ _) := Y1.out.on hb4
  have V2 : Hid (boxAt w4 _ _ _) := Y2.out.on hb4
  clear hb4 k10 k11 k12 Y0 Y1 Y2 HB3
  have k00 := V0.out.cell 0 rfl
  have k01 := V0.out.cell 1 rfl
  have k02 := V0.out.cell 2 rfl
  have k10 := V1.out.cell 0 rfl
  have k11 := V1.out.cell 1 rfl
  have k12 := V1.out.cell 2 rfl
  go_wp2_with fail
  refine Go.wp_mono (Q := fun e a' w' => match e with | .normal => (∃ us : Array Value, a' = { tmps := us, defers := [] } ∧ us[4]? = some (.pointer (some ⟨w.heap.size + 1 + 1, 0, none⟩)) ∧ us[5]? = some (.int .i64 K)) ∧ (w'.cell? ⟨w.heap.size + 1 + 1, 0, none⟩ = some (.bool C) ∧ w'.cell? ⟨w.heap.size + 1 + 1, 1, none⟩ = some (.string U) ∧ w'.cell? ⟨w.heap.size + 1 + 1, 2, none⟩ = some (.string D)) ∧ Below w.heap.size w w' | _ => False) ?_ ?_
  · have hlt := V2.out.lt
    go_region_held3 (fun w' => (w'.cell? ⟨w.heap.size, 0, none⟩ = some (.bool neg) ∧ (w'.cell? ⟨w.heap.size, 1, none⟩ = some (.string up) ∧ w'.cell? ⟨w.heap.size, 2, none⟩ = some (.string dn))) ∧ (w'.cell? ⟨w.heap.size + 1, 0, none⟩ = some (.bool neg2) ∧ (w'.cell? ⟨w.heap.size + 1, 1, none⟩ = some (.string up2) ∧ w'.cell? ⟨w.heap.size + 1, 2, none⟩ = some (.string dn2))))
      ((repeat' apply And.intro) <;> first | (with_reducible assumption) | ((with_reducible refine keep_set (keep_set (keep_set ?_ ?_) ?_) ?_) <;> first | omega | assumption) | (go_keep; done))
      (first
        | (go_at_call_of 43 (Value.string up2); refine (l1Mul_any up up2 u u2 _ (by omega) (by omega) D1.out D3.out).mono ?_; rintro e w5 ⟨⟨t1, rfl, h5⟩, hb5⟩; have T1 : Hid (Dm.isDec t1.data.toList (u * u2)) := h5; have HB5 : Hid (Below w.heap.size w w5) := (HB4.out.trans ((below_drew _).mono HB4.out.size)).trans (hb5.mono HB4.out.size)
           have P0 : Hid (boxAt w5 _ _ _) := V0.out.drew.on hb5; have P1 : Hid (boxAt w5 _ _ _) := V1.out.drew.on hb5; have P2 : Hid (boxAt w5 _ _ _) := V2.out.drew.on hb5; have pk00 := P0.out.cell 0 rfl; have pk01 := P0.out.cell 1 rfl; have pk02 := P0.out.cell 2 rfl; have pk10 := P1.out.cell 0 rfl; have pk11 := P1.out.cell 1 rfl; have pk12 := P1.out.cell 2 rfl; clear hb5 h5)
        | (go_at_call_of 43 (Value.string dn2); refine (l1Mul_any dn dn2 d d2 _ (by omega) (by omega) D2.out D4.out).mono ?_; rintro e w6 ⟨⟨t2, rfl, h6⟩, hb6⟩; have T2 : Hid (Dm.isDec t2.data.toList (d * d2)) := h6; have HB6 : Hid (Below w.heap.size w w6) := HB5.out.trans (hb6.mono HB5.out.size)
           have J0 : Hid (boxAt w6 _ _ _) := P0.out.on hb6; have J1 : Hid (boxAt w6 _ _ _) := P1.out.on hb6; have J2 : Hid (boxAt w6 _ _ _) := P2.out.on hb6; have jk00 := J0.out.cell 0 rfl; have jk01 := J0.out.cell 1 rfl; have jk02 := J0.out.cell 2 rfl; have jk10 := J1.out.cell 0 rfl; have jk11 := J1.out.cell 1 rfl; have jk12 := J1.out.cell 2 rfl; clear hb6 h6)
        | (go_at_call 59; refine (HA.out _ t1 t2 _ (by first | rfl | (cases neg <;> cases neg2 <;> rfl)) T1 T2).mono ?_; rintro e w7 ⟨rfl, hb7⟩; have HB7 : Hid (Below w.heap.size w w7) := HB6.out.trans (hb7.mono HB6.out.size)
           have M0 : Hid (boxAt w7 _ _ _) := J0.out.on hb7; have M1 : Hid (boxAt w7 _ _ _) := J1.out.on hb7; have M2 : Hid (boxAt w7 _ _ _) := J2.out.on hb7; have mk00 := M0.out.cell 0 rfl; have mk01 := M0.out.cell 1 rfl; have mk02 := M0.out.cell 2 rfl; have mk10 := M1.out.cell 0 rfl; have mk11 := M1.out.cell 1 rfl; have mk12 := M1.out.cell 2 rfl; have q20 := M2.out.cell 0 rfl; have g20 := M2.out.frozen 0; have q21 := M2.out.cell 1 rfl; have g21 := M2.out.frozen 1; have q22 := M2.out.cell 2 rfl; have g22 := M2.out.frozen 2; clear hb7))
    all_goals
      have hz2 := M2.out.lt
      refine ⟨⟨_, rfl, rfl, rfl⟩, ⟨?_, ?_, ?_⟩, ?_⟩
      · go_simp
      · go_simp
      · go_simp
      · exact bel_set (bel_set (bel_set HB7.out (by show _ ≤ w.heap.size + 1 + 1; omega)) (by show _ ≤ w.heap.size + 1 + 1; omega)) (by show _ ≤ w.heap.size + 1 + 1; omega)
  · intro e a' w' hq
    cases e
    case normal =>
      obtain ⟨⟨us, rfl, hus4, hus5⟩, ⟨hv0, hv1, hv2⟩, hb⟩ := hq
      go_wp2
      simp only [bodyPost]
      refine ⟨trivial, _, ?_, rfl, hb⟩
      simp only [results, Tryd.results36]
      go_simp
    all_goals exact hq.elim

end Go.Proofs.YtaggfbffdbompaaDoor
