/-
  Contracts of the specification's numbers: adding, multiplying.
-/
import Derived.Test.YtaggfbffdbompaaDoorSpec2
import Derived.Test.YtaggfbffdbompaaDoorMathT
namespace Go.Proofs.YtaggfbffdbompaaDoor
set_option maxRecDepth 100000
set_option linter.unusedVariables false
set_option linter.unusedSimpArgs false
open Go.RowKit

theorem isDec_pos (s : ByteArray) (x : Nat) (h : Dm.isDec s.data.toList x) : 0 < s.size := by
  have h1 := List.length_pos_iff.2 h.1
  simpa using h1

theorem isDec_lt (s : ByteArray) (x k : Nat) (h : Dm.isDec s.data.toList x) (hk : s.size ≤ k) : x < 10 ^ k := by
  have h1 := Dm.isDec_high _ x h
  have e : s.data.toList.length = s.size := Array.length_toList
  rw [e] at h1
  exact Nat.lt_of_lt_of_le h1 (Nat.pow_le_pow_right (by omega) hk)

set_option maxHeartbeats 800000 in
theorem l1Add_any (a b : ByteArray) (x y : Nat) (w : World) (ha : a.size ≤ 100000) (hb : b.size ≤ 100000) (hx : Dm.isDec a.data.toList x) (hy : Dm.isDec b.data.toList y) :
    Calls Tryd.prog 44 #[.string a, .string b] w fun e w' => (∃ t : ByteArray, e = .returned (.string t) ∧ Dm.isDec t.data.toList (x + y)) ∧ Below w.heap.size w w' := by
  obtain ⟨i0, hi, hz0, hz1, hz2⟩ := info_parts infoInt
  obtain ⟨M, hM⟩ : ∃ M, M = max a.size b.size := ⟨_, rfl⟩
  have hMa : a.size ≤ M := by omega
  have hMb : b.size ≤ M := by omega
  have hMM : M ≤ 100000 := by omega
  have hMab : M = a.size ∨ M = b.size := by omega
  have hxl := isDec_lt a x M hx hMa
  have hyl := isDec_lt b y M hy hMb
  have HXL : Hid (x < 10 ^ M) := hxl
  have HYL : Hid (y < 10 ^ M) := hyl
  have HX : Hid (Dm.isDec a.data.toList x) := hx
  have HY : Hid (Dm.isDec b.data.toList y) := hy
  have hap := isDec_pos a x hx
  have hMAB : Hid (M = a.size ∨ M = b.size) := hMab
  clear hxl hyl hx hy hM hMab
  go_enter Tryd.func44, Tryd.ntmps44
  go_wp2
  go_loopw [5, 6, 7] (fun v l k wr => ∃ (vv : Value) (i c : Nat) (ds : List Nat), vv = v ∧ i ≤ M + 1 ∧ k = .int .i64 i ∧ l = .int .i64 c ∧ c ≤ 1 ∧ (M + 1 ≤ i → c = 0) ∧ ds.length = i ∧ Hid (∀ d ∈ ds, d < 10) ∧ Hid (Dm.lv ds + 10 ^ i * c = x % 10 ^ i + y % 10 ^ i) ∧
      wr.ownsRow w.heap.size 3 1 vv i (intsV ds) ∧ Below w.heap.size w wr)
    (fun _ _ k _ => M + 1 - (intOf k).toNat)
  case atStart =>
    exact ⟨_, 0, 0, [], rfl, Nat.zero_le _, rfl, rfl, Nat.zero_le _, fun _ => rfl, rfl, fun d h => absurd h (by simp), by show Dm.lv [] + 10 ^ 0 * 0 = _; simp [Dm.lv, Nat.mod_one], World.ownsRow_lit w #[] 0 (Nat.le_refl _) (Nat.zero_le _) rfl, (Below.refl _ _).alloc (Nat.le_refl _) _⟩
  case round =>
    obtain ⟨vv, i, c, ds, rfl, hi', rfl, rfl, hc, hcl, hl, hd, hv, ho, hb'⟩ := hrel
    have m1 : a.size ≤ maxLen := by unfold maxLen; omega
    have m2 : b.size ≤ maxLen := by unfold maxLen; omega
    have m3 : i ≤ maxLen := by unfold maxLen; omega
    have hBs := hb'.size
    by_cases hgo : i < a.size ∨ i < b.size ∨ 0 < c
    · have hiM : i ≤ M := by
        rcases hgo with h | h | h
        · omega
        · omega
        · rcases Nat.lt_or_ge M i with h1 | h1
          · have := hcl (by omega); omega
          · exact h1
      have step : ∀ p q : Nat, Hid (p = x / 10 ^ i % 10) → p < 10 → Hid (q = y / 10 ^ i % 10) → q < 10 →
          Hid (Dm.lv (ds ++ [(p + q + c) % 10]) + 10 ^ (i + 1) * ((p + q + c) / 10) = x % 10 ^ (i + 1) + y % 10 ^ (i + 1)) ∧ (p + q + c) / 10 ≤ 1 ∧ (M + 1 ≤ i + 1 → (p + q + c) / 10 = 0) := by
        intro p q hp hp10 hq hq10
        refine ⟨?_, by omega, ?_⟩
        · have := Dm.add_step x y i c ds hl hv.out
          rw [← hp.out, ← hq.out] at this
          exact this
        · intro h
          have e1 : p = 0 := by
            rw [hp.out, Nat.div_eq_of_lt (Nat.lt_of_lt_of_le HXL.out (Nat.pow_le_pow_right (by omega) (by omega)))]
          have e2 : q = 0 := by
            rw [hq.out, Nat.div_eq_of_lt (Nat.lt_of_lt_of_le HYL.out (Nat.pow_le_pow_right (by omega) (by omega)))]
          omega
      have HSTEP : Hid (∀ p q : Nat, Hid (p = x / 10 ^ i % 10) → p < 10 → Hid (q = y / 10 ^ i % 10) → q < 10 →
          Hid (Dm.lv (ds ++ [(p + q + c) % 10]) + 10 ^ (i + 1) * ((p + q + c) / 10) = x % 10 ^ (i + 1) + y % 10 ^ (i + 1)) ∧ (p + q + c) / 10 ≤ 1 ∧ (M + 1 ≤ i + 1 → (p + q + c) / 10 = 0)) := step
      clear step hv hcl
      have hbr : i < a.size ∨ (¬ i < a.size ∧ i < b.size) ∨ (¬ i < a.size ∧ ¬ i < b.size ∧ 0 < c) := by
        by_cases h1 : i < a.size
        · exact .inl h1
        · by_cases h2 : i < b.size
          · exact .inr (.inl ⟨h1, h2⟩)
          · refine .inr (.inr ⟨h1, h2, ?_⟩)
            rcases hgo with h | h | h
            · exact absurd h h1
            · exact absurd h h2
            · exact h
      clear hgo
      rcases hbr with h1 | ⟨h1, h2⟩ | ⟨h1, h2, h3⟩
      all_goals
        go_wp2_with fail
        refine (l1At_ex a x i _ m1 m3 HX.out).mono ?_
        rintro e w' ⟨⟨p, rfl, hp, hp10⟩, rfl⟩
        go_wp2_with fail
        refine (l1At_ex b y i _ m2 m3 HY.out).mono ?_
        rintro e w' ⟨⟨q, rfl, hq, hq10⟩, rfl⟩
        obtain ⟨g1, g2, g3⟩ := HSTEP.out p q hp hp10 hq hq10
        obtain ⟨d, hdd⟩ : ∃ d, d = (p + q + c) % 10 := ⟨_, rfl⟩
        obtain ⟨c', hcc⟩ : ∃ c', c' = (p + q + c) / 10 := ⟨_, rfl⟩
        rw [← hdd, ← hcc] at g1
        rw [← hcc] at g2 g3
        have hd10 : d < 10 := by omega
        have hdi : ((p : Int) + q + c) % 10 = (d : Int) := by omega
        have hci : ((p : Int) + q + c) / 10 = (c' : Int) := by omega
        have hdt : Int.tmod ((p : Int) + q + c) 10 = (d : Int) := by rw [Int.tmod_eq_emod_of_nonneg (by omega)]; exact hdi
        have hct : Int.tdiv ((p : Int) + q + c) 10 = (c' : Int) := by rw [Int.tdiv_eq_ediv_of_nonneg (by omega)]; exact hci
        clear HSTEP hp hq hdd hcc
        go_wp2_with (at_builtin; refine wpList_append_own _ rfl _ _ 81 rfl w.heap.size 3 i0 (.int .i64 0) 1 8 Tryd.underlying81 hi hz0 hz1 hz2 rfl (by decide) _ _ _ rfl (ho.alloc _) ⟨w'.heap.size, 0, none⟩ 1 1 [.int .i64 d] rfl rfl (cell_one_new _ _ _) (by simp [Value.oneCell']) (by unfold maxLen; omega) (by omega) (by simp; omega) ?_)
        intro v' w1 hown' hgrow _
        rw [intsV_snoc] at hown'
        have hb2 : Below w.heap.size w w1 := (hb'.alloc hBs _).grown hgrow (by simp; omega) (fun k hk => (ho.lt k hk).1)
        have hdl : Hid (∀ z ∈ ds ++ [d], z < 10) := forall_snoc hd.out hd10
        have hll : Hid ((ds ++ [d]).length = i + 1) := by show _ = _; simp [hl]
        have hg3 : Hid (M + 1 ≤ i + 1 → c' = 0) := g3
        clear hgrow ho hb' g3 hd
        go_wp2
        go_roundw
        case rel => exact ⟨v', i + 1, c', ds ++ [d], rfl, by omega, by go_num, rfl, g2, hg3.out, hll.out, hdl, g1, hown', hb2⟩
        case measure => simp [intOf]; omega
    · have h1 : ¬ i < a.size := fun h => hgo (.inl h)
      have h2 : ¬ i < b.size := fun h => hgo (.inr (.inl h))
      obtain rfl : c = 0 := by
        rcases Nat.eq_zero_or_pos c with h | h
        · exact h
        · exact absurd (.inr (.inr h)) hgo
      have hMi : M ≤ i := by rcases hMAB.out with h | h <;> omega
      have e1 : x % 10 ^ i = x := Nat.mod_eq_of_lt (Nat.lt_of_lt_of_le HXL.out (Nat.pow_le_pow_right (by omega) hMi))
      have e2 : y % 10 ^ i = y := Nat.mod_eq_of_lt (Nat.lt_of_lt_of_le HYL.out (Nat.pow_le_pow_right (by omega) hMi))
      have hend : Dm.lv ds = x + y := by have := hv.out; rw [e1, e2] at this; omega
      have hpos : ds ≠ [] := by
        intro e
        rw [e] at hl
        simp only [List.length_nil] at hl
        omega
      have htx := Dm.text_dec ds hpos hd.out
      rw [hend] at htx
      have HT : Hid (Dm.isDec (Dm.trimZ ((ds.map Dm.sg).reverse)) (x + y)) := htx
      have ho2 := own_base ho (Nat.zero_le _)
      rw [← hl] at ho2
      have hds : ds.length ≤ 1000000 := by omega
      clear htx hend hv hgo hcl e1 e2
      go_wp2_with fail
      refine (l1Text_any _ ds _ hd.out hds ho2).mono ?_
      rintro e w' ⟨⟨t, rfl, ht, _⟩, hb3⟩
      have ht' := ht hpos
      have HT2 : Hid (Dm.isDec t.data.toList (x + y)) := by rw [ht']; exact HT.out
      clear ht ht' HT
      go_wp2
      go_ret
      exact ⟨⟨t, rfl, HT2.out⟩, hb'.trans (hb3.mono hBs)⟩

end Go.Proofs.YtaggfbffdbompaaDoor
