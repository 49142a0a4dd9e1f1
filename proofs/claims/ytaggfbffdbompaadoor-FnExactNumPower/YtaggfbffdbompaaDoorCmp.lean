/-
  The contract of comparing the program's whole numbers.
-/
import Derived.Test.YtaggfbffdbompaaDoorDivW
import Derived.Test.YtaggfbffdbompaaDoorSpec1
namespace Go.Proofs.YtaggfbffdbompaaDoor
set_option maxRecDepth 100000
set_option linter.unusedVariables false
set_option linter.unusedSimpArgs false
open Go.RowKit Go.Shelf

attribute [local go_sem] Oper.semAt_some

/-- c tells how a and b stand. -/
def cmpIs (a b c : Int) : Prop := (a < b → c = -1) ∧ (b < a → c = 1) ∧ (a = b → c = 0)

theorem cmpIs_lt {a b : Int} (h : a < b) : cmpIs a b (-1) := ⟨fun _ => rfl, fun h => by omega, fun h => by omega⟩

theorem cmpIs_eq (a : Int) : cmpIs a a 0 := ⟨fun h => by omega, fun h => by omega, fun _ => rfl⟩

theorem cmpIs_gt {a b : Int} (h : b < a) : cmpIs a b 1 := ⟨fun h => by omega, fun _ => rfl, fun h => by omega⟩

set_option maxHeartbeats 400000 in
theorem cmpInt_any (a b : Int) (w : World) :
    Calls Tryd.prog 84 #[.int .i64 a, .int .i64 b] w fun e w' => (∃ c : Int, e = .returned (.int .i64 c) ∧ cmpIs a b c ∧ -1 ≤ c ∧ c ≤ 1) ∧ w' = w := by
  have hna : (a != a) = false := by simp
  have hnb : (b != b) = false := by simp
  rcases Int.lt_trichotomy a b with h | h | h
  · have h2 : ¬ b < a := by omega
    have h3 : (a == b) = false := beq_eq_false_iff_ne.2 (by omega)
    go_enter Tryd.func84, Tryd.ntmps84
    go_wp2
    go_ret
    exact ⟨⟨-1, rfl, cmpIs_lt h, by omega, by omega⟩, rfl⟩
  · subst h
    go_enter Tryd.func84, Tryd.ntmps84
    go_wp2
    go_ret
    exact ⟨⟨0, rfl, cmpIs_eq a, by omega, by omega⟩, rfl⟩
  · have h2 : ¬ a < b := by omega
    have h3 : (a == b) = false := beq_eq_false_iff_ne.2 (by omega)
    go_enter Tryd.func84, Tryd.ntmps84
    go_wp2
    go_ret
    exact ⟨⟨1, rfl, cmpIs_gt h, by omega, by omega⟩, rfl⟩

set_option maxHeartbeats 400000 in
theorem cmpU64_any (a b : Int) (w : World) :
    Calls Tryd.prog 85 #[.int .u64 a, .int .u64 b] w fun e w' => (∃ c : Int, e = .returned (.int .i64 c) ∧ cmpIs a b c ∧ -1 ≤ c ∧ c ≤ 1) ∧ w' = w := by
  have hna : (a != a) = false := by simp
  have hnb : (b != b) = false := by simp
  rcases Int.lt_trichotomy a b with h | h | h
  · have h2 : ¬ b < a := by omega
    have h3 : (a == b) = false := beq_eq_false_iff_ne.2 (by omega)
    go_enter Tryd.func85, Tryd.ntmps85
    go_wp2
    go_ret
    exact ⟨⟨-1, rfl, cmpIs_lt h, by omega, by omega⟩, rfl⟩
  · subst h
    go_enter Tryd.func85, Tryd.ntmps85
    go_wp2
    go_ret
    exact ⟨⟨0, rfl, cmpIs_eq a, by omega, by omega⟩, rfl⟩
  · have h2 : ¬ a < b := by omega
    have h3 : (a == b) = false := beq_eq_false_iff_ne.2 (by omega)
    go_enter Tryd.func85, Tryd.ntmps85
    go_wp2
    go_ret
    exact ⟨⟨1, rfl, cmpIs_gt h, by omega, by omega⟩, rfl⟩

/-- What stands between two rounds of compare. -/
def CmInv (w : World) (B : Nat) (xs zs : List Nat) (u : Value) (pre : List (Fin xs.length)) (W : World) : Prop :=
  Boxed W w.heap.size 42 u ∧ Boxed W (w.heap.size + 1) 3 (.int .i64 0) ∧ rowN W u zs ∧ (pre = dnk xs.length pre.length → xs.drop (xs.length - pre.length) = zs.drop (xs.length - pre.length)) ∧ Below w.heap.size w W ∧ B ≤ W.heap.size
/-- How a round of compare is left by a return. -/
def CmOut (w : World) (B : Nat) (xs : List Nat) (r : Int) (c : Code) (pre : List (Fin xs.length)) (W : World) : Prop :=
  c = .ret ∧ (∃ k : Int, Boxed W (w.heap.size + 1) 3 (.int .i64 k) ∧ (pre = dnk xs.length pre.length → k = r)) ∧ Below w.heap.size w W ∧ B ≤ W.heap.size

set_option maxRecDepth 100000 in
set_option maxHeartbeats 2000000 in
theorem compare_any (v u : Value) (n m : Nat) (w : World) (hv : isN w v n) (hu : isN w u m) (hL : n < 1000000000 ^ 10000) (hM : m < 1000000000 ^ 10000) :
    Calls Tryd.prog 55 #[v, u] w fun e w' => (∃ c : Int, e = .returned (.int .i64 c) ∧ Hid (c = cmpI n m) ∧ -1 ≤ c ∧ c ≤ 1) ∧ Below w.heap.size w w' := by
  obtain ⟨xs, hr, hn⟩ := hv
  obtain ⟨zs, hq, hm⟩ := hu
  have hlen := Lm.isNat_length xs n 10000 hn hL
  have hlen2 := Lm.isNat_length zs m 10000 hm hM
  obtain ⟨ao, cap, rfl, hao⟩ := rowN_open hr
  obtain ⟨ao2, cap2, rfl, hao2⟩ := rowN_open hq
  have HN : Hid (Lm.isNat xs n) := hn
  have HM : Hid (Lm.isNat zs m) := hm
  by_cases hne : xs.length = zs.length
  · have hne2 : ((xs.length : Int) != zs.length) = false := by rw [bne_eq_false_iff_eq]; omega
    have hlt3 : ∀ g, (Value.slice ao xs.length cap).ownBlock = some g → g < w.heap.size := fun g hg => (World.ownsRow.lt hr g hg).2
    have q1 := Boxed.new w 42 (.slice ao2 zs.length cap2)
    have r1 := Boxed.new (w.alloc (Obj.cells #[Value.slice ao2 zs.length cap2] 42)) 3 (.int .i64 0)
    have s1 := Boxed.new ((w.alloc (Obj.cells #[Value.slice ao2 zs.length cap2] 42)).alloc (Obj.cells #[Value.int IntKind.i64 0] 3)) 42 (.slice ao xs.length cap)
    have q3 := (q1.alloc (Obj.cells #[Value.int IntKind.i64 0] 3)).alloc (Obj.cells #[Value.slice ao xs.length cap] 42)
    have r3 := r1.alloc (Obj.cells #[Value.slice ao xs.length cap] 42)
    have b3 := (((Below.refl _ w).alloc (Nat.le_refl _) (Obj.cells #[Value.slice ao2 zs.length cap2] 42)).alloc (by simp) (Obj.cells #[Value.int IntKind.i64 0] 3)).alloc (by simp; omega) (Obj.cells #[Value.slice ao xs.length cap] 42)
    have hsz : (((w.alloc (Obj.cells #[Value.slice ao2 zs.length cap2] 42)).alloc (Obj.cells #[Value.int IntKind.i64 0] 3)).alloc (Obj.cells #[Value.slice ao xs.length cap] 42)).heap.size = w.heap.size + 3 := by simp
    simp only [World.size_alloc] at r1 r3 s1
    have hr3 := rowN_below hr b3
    have hq3 := rowN_below hq b3
    have HH : Hid ((Value.slice ao2 zs.length cap2).ownBlock = none ∨ ∀ g, (Value.slice ao2 zs.length cap2).ownBlock = some g → g < w.heap.size) := .inr (fun g hg => (World.ownsRow.lt hq g hg).2)
    refine (callsIn_wide (n := 9)).1 ?_
    refine callsIn_of_wp_marks Tryd.func55 rfl trivial ?_ rfl
    simp only [Tryd.ntmps55, List.size_toArray, List.length_cons, List.length_nil, Nat.reduceAdd, Nat.reduceSub, Array.replicate_succ, Array.replicate_zero, List.push_toArray, List.append_toArray, List.nil_append, List.cons_append]
    have HNE : Hid (xs.length = zs.length) := hne
    clear hn hm hL hM hr hq q1 r1 hne
    gi_wp2_with fail
    refine ⟨trivial, (back_in Fence.wide 8 trivial rfl _ _ ⟨_, _, _, rfl⟩).mono ?_⟩
    rintro e w' ⟨rfl, rfl⟩
    gi_wp2_with fail
    generalize ((w.alloc (Obj.cells #[Value.slice ao2 zs.length cap2] 42)).alloc (Obj.cells #[Value.int IntKind.i64 0] 3)).alloc (Obj.cells #[Value.slice ao xs.length cap] 42) = L at *
    refine wpIn_rangeFunc_ownG rfl (by omega) (gf := 95) (lb := #[.pointer (some ⟨w.heap.size + 1 + 1, 0, none⟩)]) rfl trivial (enters_of Tryd.func95 (by kernel_rfl) rfl)
      (back_stops Fence.wide 8 trivial rfl (by omega) (w.heap.size + 1 + 1) w.heap.size (.slice ao xs.length cap) xs (by omega) L (by omega) (by omega) s1.cell hr3 hlt3) KpB.trans (KpB_b (by omega) (by omega)) (Below.refl _ _) (fun _ => rfl)
      (CmInv w L.heap.size xs zs (.slice ao2 zs.length cap2))
      (CmOut w L.heap.size xs (cmpI n m))
      (ownFrom_of (fun s W h => h.2.2.2.2.2) (fun s W W' h hb => ⟨boxed_below h.1 hb (by omega), boxed_below h.2.1 hb (by omega), own_belowB h.2.2.1 hb (fun g hg => by rcases HH.out with h' | h'; (rw [h'] at hg; cases hg); have := h' g hg; omega), h.2.2.2.1, h.2.2.2.2.1.trans (hb.mono (by omega)), Nat.le_trans h.2.2.2.2.2 hb.size⟩))
      (fun c => ownFrom_of (fun s W h => h.2.2.2) (fun s W W' h hb => ⟨h.1, by obtain ⟨k, h1, h2⟩ := h.2.1; exact ⟨k, boxed_below h1 hb (by omega), h2⟩, h.2.2.1.trans (hb.mono (by omega)), Nat.le_trans h.2.2.2 hb.size⟩))
      ⟨q3, r3, hq3, fun _ => by rw [List.length_nil, Nat.sub_zero, List.drop_length, HNE.out, List.drop_length], b3, Nat.le_refl _⟩
      (fun x => { tmps := #[.slice ao xs.length cap, .slice ao2 zs.length cap2, undef, .pointer (some ⟨w.heap.size, 0, none⟩), .pointer (some ⟨w.heap.size + 1, 0, none⟩), .int .i64 (x.1 : Nat), .int .u64 (xs[x.1]'x.2 : Nat), .slice ao xs.length cap, .int .i64 xs.length, .slice ao2 zs.length cap2, .int .i64 zs.length, .bool false, undef, undef, undef, undef, undef, .slice ao xs.length cap, .func (.func 95) #[] #[.pointer (some ⟨w.heap.size + 1 + 1, 0, none⟩)], .int .i64 (x.1 : Nat), .int .u64 (xs[x.1]'x.2 : Nat), undef, undef, undef, undef, undef, undef, undef, undef, undef, undef, undef, undef], defers := [] }) ?assign ?body ?done ?stop
    case assign =>
      intro l x W K hK
      simp only [encG]
      gi_wp2
      exact hK
    case body =>
      rintro l pre x W ⟨a1, a2, a3, a4, a5, a6⟩ hpre
      have c1 := a1.cell
      have c2 := a2.cell
      have f2 := a2.frozen
      obtain ⟨i, hi⟩ := x
      dsimp only
      have hiz : i < zs.length := by have := HNE.out; omega
      obtain ⟨g2, rfl, hg2⟩ := hao2 i hiz
      have cz := rowN_cell a3 rfl i hiz
      obtain ⟨x, hx⟩ : ∃ x, x = xs[i] := ⟨_, rfl⟩
      obtain ⟨z, hz⟩ : ∃ z, z = zs[i] := ⟨_, rfl⟩
      rw [← hz] at cz
      rw [← hx]
      have HX : Hid (x = xs[i]) := hx
      have HZ : Hid (z = zs[i]) := hz
      have A4 : Hid _ := a4
      clear hx hz a4 q3 r3 b3 hr3 hq3 s1
      by_cases he : x = z
      · have hb : ((x : Int) != z) = false := by rw [bne_eq_false_iff_eq]; omega
        have HE : Hid (x = z) := he
        clear he
        gi_wp2
        refine ⟨KeepsFrom.refl _ _, KpB.refl _ _ _, a1, a2, a3, ?_, a5, a6⟩
        intro hp
        obtain ⟨hp1, hp2⟩ := dnk_snoc hp hpre
        dsimp only at hp2
        have e1 : xs.length - (pre ++ [(⟨i, hi⟩ : Fin xs.length)]).length = i := by simp; omega
        have e2 : xs.length - pre.length = i + 1 := by omega
        have h4 := A4.out hp1
        rw [e2] at h4
        rw [e1, List.drop_eq_getElem_cons hi, List.drop_eq_getElem_cons hiz, h4, ← HX.out, ← HZ.out, HE.out]
      · have hb : ((x : Int) != z) = true := by rw [bne_iff_ne]; omega
        have HE : Hid (¬ x = z) := he
        clear he
        gi_wp2_with fail
        refine ⟨trivial, (CallsIn.inRound l (callsIn_wide.2 (cmpU64_any _ _ _))).mono ?_⟩
        rintro e w' ⟨⟨c, rfl, hc, h1, h2⟩, rfl⟩
        have HC : Hid (cmpIs x z c) := hc
        clear hc
        gi_wp2
        refine ⟨(KeepsOthers.setCell _ _ _).from _, rfl, ⟨c, a2.set _, ?_⟩, a5.setCell (p := ⟨w.heap.size + 1, 0, none⟩) (by simp) _, by rw [World.size_setCell]; exact a6⟩
        intro hp
        obtain ⟨hp1, hp2⟩ := dnk_snoc hp hpre
        dsimp only at hp2
        have e2 : xs.length - pre.length = i + 1 := by omega
        have h4 := A4.out hp1
        rw [e2] at h4
        have hv1 := HN.out.1
        have hv2 := HM.out.1
        rcases Nat.lt_trichotomy x z with h | h | h
        · have hl := Lm.lval_lt_of_top xs zs HN.out.2.1 i hi HNE.out h4 (by rw [← HX.out, ← HZ.out]; exact h)
          rw [hv1, hv2] at hl
          rw [HC.out.1 (by omega), cmpI_lt hl]
        · exact absurd h HE.out
        · have hl := Lm.lval_lt_of_top zs xs HM.out.2.1 i hiz HNE.out.symm h4.symm (by rw [← HX.out, ← HZ.out]; exact h)
          rw [hv1, hv2] at hl
          rw [HC.out.2.1 (by omega), cmpI_gt hl]
    case done =>
      rintro D ps W hD rfl ⟨a1, a2, a3, a4, a5, a6⟩ hK
      have hdl : (dnk xs.length xs.length).length = xs.length := dnk_length _ _ (Nat.le_refl _)
      rw [hdl, Nat.sub_self, List.drop_zero, List.drop_zero] at a4
      have hnm : n = m := by rw [← HN.out.1, ← HM.out.1, a4 rfl]
      have HNM : Hid (n = m) := hnm
      have c2 := a2.cell
      have f2 := a2.frozen
      clear hnm a4 q3 r3 b3 hr3 hq3 s1
      gi_wp2
      have hK' := (KeepsOthers.setCell W ⟨w.heap.size + 1, 0, none⟩ (.int .i64 0)).same D _ hK rfl
      refine ⟨by simp, .inl ⟨_, _, rfl, run_takeDeferred hK', ?_⟩⟩
      have hc5 := cell_kept ((a2.set (.int .i64 0)).cell) (grownBy_putObj' _ D (.deferred none)) (fun r e => by cases e; exact ⟨_, hK', rfl⟩)
      refine ⟨.int .i64 0, ?_, ⟨0, rfl, by rw [HNM.out]; exact (cmpI_eq m).symm, by omega, by omega⟩, (a5.setCell (p := ⟨w.heap.size + 1, 0, none⟩) (by simp) _).trans (belowK_b (w := w) (Nat.le_refl _) _ D _ _ (by omega) hK' rfl rfl)⟩
      simp [results, Tryd.results55, go_sem, hc5]
    case stop =>
      rintro D c pre W hD ⟨k, hk, rfl⟩ ⟨rfl, ⟨r, h1, h2⟩, h3, h4⟩ hK
      have hr : Hid (r = cmpI n m) := h2 (by rw [dnk_length _ _ hk])
      gi_wp2
      refine ⟨by simp, .inl ⟨_, _, rfl, run_takeDeferred hK, ?_⟩⟩
      have hc5 := cell_kept h1.cell (grownBy_putObj' _ D (.deferred none)) (fun r e => by cases e; exact ⟨_, hK, rfl⟩)
      refine ⟨.int .i64 r, ?_, ⟨r, rfl, hr, by rw [hr.out]; unfold cmpI; split <;> (try split) <;> omega, by rw [hr.out]; unfold cmpI; split <;> (try split) <;> omega⟩, h3.trans (belowK_b (w := w) (Nat.le_refl _) _ D _ _ (by omega) hK rfl rfl)⟩
      simp [results, Tryd.results55, go_sem, hc5]
  · have hne2 : ((xs.length : Int) != zs.length) = true := by rw [bne_iff_ne]; omega
    have hlt : ∀ c : Int, cmpIs xs.length zs.length c → c = cmpI n m := by
      intro c hc
      rcases Nat.lt_or_ge xs.length zs.length with h | h
      · rw [hc.1 (by omega), cmpI_lt (Lm.isNat_len_lt xs zs n m hn hm h)]
      · rw [hc.2.1 (by omega), cmpI_gt (Lm.isNat_len_lt zs xs m n hm hn (by omega))]
    have HL : Hid (∀ c : Int, cmpIs xs.length zs.length c → c = cmpI n m) := hlt
    clear hn hm hL hM hlt hao hao2 hr hq hne
    go_enter Tryd.func55, Tryd.ntmps55
    go_wp2_with fail
    refine (cmpInt_any _ _ _).mono ?_
    rintro e w' ⟨⟨c, rfl, hc, h1, h2⟩, rfl⟩
    have HC : Hid (c = cmpI n m) := HL.out c hc
    clear hc
    go_wp2
    have hc5 := (Boxed.new (w.alloc (Obj.cells #[Value.slice ao2 zs.length cap2] 42)) 3 (.int .i64 c)).cell
    rw [World.size_alloc] at hc5
    refine bodyPost_ret (v := .int .i64 c) ?_ rfl ⟨⟨c, rfl, HC, h1, h2⟩, ((Below.refl _ _).alloc (Nat.le_refl _) _).alloc (by simp) _⟩
    simp [results, Tryd.results55, go_sem, hc5]

end Go.Proofs.YtaggfbffdbompaaDoor
