/-
  Contracts of the specification's numbers: multiplying.
-/
import Derived.Test.YtaggfbffdbompaaDoorSpec4
import Derived.Deep.RegionWith
namespace Go.Proofs.YtaggfbffdbompaaDoor
set_option maxRecDepth 100000
set_option linter.unusedVariables false
set_option linter.unusedSimpArgs false
open Go.RowKit

theorem l1At_v (s : ByteArray) (x k d : Nat) (w : World) (hs : s.size ≤ maxLen) (hk : k ≤ maxLen) (hx : Dm.isDec s.data.toList x) (hd : Hid (d = x / 10 ^ k % 10)) :
    Calls Tryd.prog 52 #[.string s, .int .i64 k] w fun e w' => e = .returned (.int .i64 d) ∧ w' = w :=
  (l1At_any s x k w hs hk hx).mono fun _ _ h => ⟨by rw [h.1, ← hd.out], h.2⟩

theorem intsV_length (P : List Nat) : (intsV P).length = P.length := by simp [intsV]

theorem intsV_get (P : List Nat) (j : Nat) (h : j < P.length) : (intsV P)[j]? = some (.int .i64 (P[j] : Nat)) := by simp [intsV, h]

theorem intsV_set (P : List Nat) (j x : Nat) : (intsV P).set j (.int .i64 x) = intsV (P.set j x) := by simp [intsV, List.map_set]

theorem below_set {P : List Nat} {b : Nat} (h : Dm.allBelow P b) (k v : Nat) (hv : v < b) : Dm.allBelow (P.set k v) b := by
  intro j hj
  by_cases e : k = j
  · subst e; rw [List.getElem_set_self]; exact hv
  · rw [List.getElem_set_ne e]; exact h j (by simpa using hj)

set_option maxHeartbeats 1600000 in
theorem l1Mul_any (a b : ByteArray) (x y : Nat) (w : World) (ha : a.size ≤ 50000) (hb : b.size ≤ 50000) (hx : Dm.isDec a.data.toList x) (hy : Dm.isDec b.data.toList y) :
    Calls Tryd.prog 43 #[.string a, .string b] w fun e w' => (∃ t : ByteArray, e = .returned (.string t) ∧ Dm.isDec t.data.toList (x * y)) ∧ Below w.heap.size w w' := by
  obtain ⟨i0, hi, hz0, hz1, hz2⟩ := info_parts infoInt
  obtain ⟨L, hL⟩ : ∃ L, L = a.size + b.size := ⟨_, rfl⟩
  have HX : Hid (Dm.isDec a.data.toList x) := hx
  have HY : Hid (Dm.isDec b.data.toList y) := hy
  have hap := isDec_pos a x hx
  have hbp := isDec_pos b y hy
  have hxl := isDec_lt a x a.size hx (Nat.le_refl _)
  have hyl := isDec_lt b y b.size hy (Nat.le_refl _)
  have HXL : Hid (x < 10 ^ a.size) := hxl
  have HYL : Hid (y < 10 ^ b.size) := hyl
  have HLL : Hid (L = a.size + b.size) := hL
  have hL3 : L ≤ 100000 := by omega
  have m1 : a.size ≤ maxLen := by unfold maxLen; omega
  have m2 : b.size ≤ maxLen := by unfold maxLen; omega
  clear hx hy hxl hyl hL
  go_enter Tryd.func43, Tryd.ntmps43
  go_wp2_with (at_make; refine wpList_make_full w rfl _ _ 81 rfl w.heap.size 3 i0 (.int .i64 0) 1 Tryd.underlying81 hi hz0 hz1 .i64 .i64 _ _ L rfl rfl (by have := HLL.out; omega) (by have := HLL.out; omega) (by rw [hz2]; omega) (by unfold maxLen; omega) (Nat.le_refl _) ?_)
  intro w1 hown1 hgr1
  rw [toList_madeCells_one] at hown1
  have hb1 : Below w.heap.size w w1 := (Below.refl _ _).grown hgr1 (Nat.le_refl _) (by intro k hk; cases hk)
  have hc0 : w1.ownsRow w.heap.size 3 1 (.slice (some ⟨w.heap.size, 0, none⟩) L L) L (intsV (List.replicate L 0)) := by
    simpa [intsV] using hown1
  clear hgr1 hown1
  go_wp2
  go_loopw [6] (fun k wr => ∃ (i : Nat) (P : List Nat), i ≤ a.size ∧ k = .int .i64 i ∧ Hid (P.length = L) ∧ Hid (Dm.allBelow P 10) ∧ Hid (Dm.lv P = x % 10 ^ i * y) ∧
      wr.ownsRow w.heap.size 3 1 (.slice (some ⟨w.heap.size, 0, none⟩) L L) L (intsV P) ∧ Below w.heap.size w wr)
    (fun k _ => a.size - (intOf k).toNat)
  case atStart => exact ⟨0, List.replicate L 0, by omega, rfl, by show _ = _; simp, by intro k hk; simp, by show Dm.lv _ = _; rw [Dm.lv_zeros]; simp [Nat.mod_one], hc0, hb1⟩
  case round =>
    obtain ⟨i, P, hi', rfl, hl, hbl, hval, ho, hb⟩ := hrel
    clear hc0 hb1
    by_cases hlt : i < a.size
    · obtain ⟨d, hd⟩ : ∃ d, d = x / 10 ^ i % 10 := ⟨_, rfl⟩
      have hd10 : d < 10 := by omega
      have HD : Hid (d = x / 10 ^ i % 10) := hd
      have m3 : i ≤ maxLen := by unfold maxLen; omega
      have HV : Hid (Dm.lv P = x % 10 ^ i * y + 10 ^ i * (d * (y % 10 ^ 0))) := by show _ = _; rw [hval.out]; simp [Nat.mod_one]
      have hbl2 : Hid (Dm.allBelow P 91) := fun k hk => Nat.lt_of_lt_of_le (hbl.out k hk) (by omega)
      have htl : Hid (∀ t (h : t < P.length), i + 0 ≤ t → P[t] < 10) := fun t h _ => hbl.out t h
      clear hd hval hbl
      go_wp2
      go_loopw [7] (fun u wr => ∃ (k : Nat) (P : List Nat), k ≤ b.size ∧ u = .int .i64 k ∧ Hid (P.length = L) ∧ Hid (Dm.allBelow P 91) ∧ Hid (∀ t (h : t < P.length), i + k ≤ t → P[t] < 10) ∧ Hid (Dm.lv P = x % 10 ^ i * y + 10 ^ i * (d * (y % 10 ^ k))) ∧
          wr.ownsRow w.heap.size 3 1 (.slice (some ⟨w.heap.size, 0, none⟩) L L) L (intsV P) ∧ Below w.heap.size w wr)
        (fun u _ => b.size - (intOf u).toNat)
      case atStart => exact ⟨0, P, by omega, rfl, hl, hbl2, htl, HV, ho, hb⟩
      case round =>
        clear hl hbl2 htl HV ho hb P
        obtain ⟨k, P, hk', rfl, hl, hbl, htl, hval, ho, hb⟩ := hrel
        by_cases hkt : k < b.size
        · have hik : i + k < L := by have := HLL.out; omega
          have hpl : i + k < P.length := by rw [hl.out]; exact hik
          have hcp : wr.cell? ⟨w.heap.size, i + k, none⟩ = some (.int .i64 (P[i + k]'hpl : Nat)) := by
            have h1 := ho.cellAt (i + k) (by omega)
            rw [h1, intsV_get P (i + k) hpl]
          have hp10 := htl.out (i + k) hpl (Nat.le_refl _)
          have hmul := Dm.mul_add P i k d y (x % 10 ^ i * y) hpl hval.out
          obtain ⟨p, hp⟩ : ∃ p, p = P[i + k]'hpl := ⟨_, rfl⟩
          obtain ⟨q, hq⟩ : ∃ q, q = y / 10 ^ k % 10 := ⟨_, rfl⟩
          have HQ : Hid (q = y / 10 ^ k % 10) := hq
          have hq10 : q < 10 := by omega
          rw [← hp] at hcp hp10 hmul
          rw [← hq] at hmul
          obtain ⟨z, hz⟩ : ∃ z, z = d * q := ⟨_, rfl⟩
          have hz81 : z ≤ 81 := by rw [hz]; exact Nat.le_trans (Nat.mul_le_mul (show d ≤ 9 by omega) (show q ≤ 9 by omega)) (by decide)
          rw [← hz] at hmul
          have hw : IntKind.i64.wrap ((d : Int) * (q : Int)) = (z : Int) := by
            rw [hz, IntKind.wrap_i64, ← Int.natCast_mul, ← hz]; omega
          have hst := ho.drew.stored (i + k) (.int .i64 ((p + z : Nat) : Int))
          rw [intsV_set] at hst
          have hst1 := hst.1
          have hfz := ho.frozenAt (i + k)
          have hb2 := (hb.drew).setCell (p := ⟨w.heap.size, i + k, none⟩) (Nat.le_refl _) (.int .i64 ((p + z : Nat) : Int))
          have hcast : ((p + z : Nat) : Int) = (p : Int) + (z : Int) := by omega
          rw [hcast] at hst1 hb2
          have m4 : k ≤ maxLen := by unfold maxLen; omega
          have HL2 : Hid ((P.set (i + k) (p + z)).length = L) := by show _ = _; rw [List.length_set]; exact hl.out
          have HB2 : Hid (Dm.allBelow (P.set (i + k) (p + z)) 91) := below_set hbl.out _ _ (by omega)
          have HT2 : Hid (∀ t (h : t < (P.set (i + k) (p + z)).length), i + (k + 1) ≤ t → (P.set (i + k) (p + z))[t] < 10) := by
            intro t ht h
            rw [List.getElem_set_ne (by omega)]
            exact htl.out t (by simpa using ht) (by omega)
          have HV2 : Hid (Dm.lv (P.set (i + k) (p + z)) = x % 10 ^ i * y + 10 ^ i * (d * (y % 10 ^ (k + 1)))) := hmul
          have HST1 : Hid _ := hst1
          have HBB : Hid _ := hb2
          clear hst hst1 hb2 hmul hval htl hbl hl hp hq hz hcast ho hb
          have hiw : IntKind.i64.wrap ((i : Int) + (k : Int)) = (i : Int) + (k : Int) := by rw [IntKind.wrap_i64]; omega
          have hik2 : (i : Int) + (k : Int) < (L : Int) := by omega
          have hik0 : (0 : Int) ≤ (i : Int) + (k : Int) := by omega
          have htn : ((i : Int) + (k : Int)).toNat = i + k := by omega
          have hpz : IntKind.i64.wrap ((p : Int) + (z : Int)) = (p : Int) + (z : Int) := by rw [IntKind.wrap_i64]; omega
          go_wp2
          go_region_with (first
            | (go_at_call_of 52 (Value.string a); refine (l1At_v a x i d _ m1 m3 HX.out HD).mono ?_; rintro e w' ⟨rfl, rfl⟩)
            | (go_at_call_of 52 (Value.string b); refine (l1At_v b y k q _ m2 m4 HY.out HQ).mono ?_; rintro e w' ⟨rfl, rfl⟩))
          all_goals
            simp only [Exit.inBlock]
            go_wp2
            go_roundw
            case rel => exact ⟨k + 1, P.set (i + k) (p + z), by omega, by go_num, HL2, HB2, HT2, HV2, HST1.out, HBB.out⟩
            case measure => simp [intOf]; omega
        · obtain rfl : k = b.size := by omega
          have HV3 : Hid (Dm.lv P = x % 10 ^ (i + 1) * y) := by
            show _ = _
            rw [hval.out, Nat.mod_eq_of_lt HYL.out, HD.out]
            exact Dm.mul_next x y i
          have hbl2 : Hid (Dm.allBelow P 101) := fun t ht => Nat.lt_of_lt_of_le (hbl.out t ht) (by omega)
          have hup : Hid (∀ t (h : t < P.length), 0 < t → P[t] < 91) := fun t ht _ => hbl.out t ht
          have hlo : Hid (∀ t (h : t < P.length), t < 0 → P[t] < 10) := fun t ht h => absurd h (by omega)
          have hL2 : 2 ≤ L := by have := HLL.out; omega
          clear hval htl hbl
          go_wp2
          go_loopw [8] (fun u wr => ∃ (j : Nat) (P : List Nat), j + 1 ≤ L ∧ u = .int .i64 j ∧ Hid (P.length = L) ∧ Hid (Dm.allBelow P 101) ∧ Hid (∀ t (h : t < P.length), j < t → P[t] < 91) ∧ Hid (∀ t (h : t < P.length), t < j → P[t] < 10) ∧ Hid (Dm.lv P = x % 10 ^ (i + 1) * y) ∧
              wr.ownsRow w.heap.size 3 1 (.slice (some ⟨w.heap.size, 0, none⟩) L L) L (intsV P) ∧ Below w.heap.size w wr)
            (fun u _ => L - (intOf u).toNat)
          case atStart => exact ⟨0, P, by omega, rfl, hl, hbl2, hup, hlo, HV3, ho, hb⟩
          case round =>
            clear hl hbl2 hup hlo HV3 ho hb P
            obtain ⟨j, P, hj', rfl, hl, hbl, hup, hlo, hval, ho, hb⟩ := hrel
            by_cases hjt : j + 1 < L
            · have hpl1 : j + 1 < P.length := by rw [hl.out]; exact hjt
              have hpl0 : j < P.length := by omega
              have hcp1 : wr.cell? ⟨w.heap.size, j + 1, none⟩ = some (.int .i64 (P[j + 1]'hpl1 : Nat)) := by
                have h1 := ho.cellAt (j + 1) (by omega)
                rw [h1, intsV_get P (j + 1) hpl1]
              have hcp0 : wr.cell? ⟨w.heap.size, j, none⟩ = some (.int .i64 (P[j]'hpl0 : Nat)) := by
                have h1 := ho.cellAt j (by omega)
                rw [h1, intsV_get P j hpl0]
              have hb91 := hup.out (j + 1) hpl1 (by omega)
              have hb101 := hbl.out j hpl0
              have hcl := Dm.carry_lv P j hpl1
              obtain ⟨p1, hp1⟩ : ∃ p, p = P[j + 1]'hpl1 := ⟨_, rfl⟩
              obtain ⟨p0, hp0⟩ : ∃ p, p = P[j]'hpl0 := ⟨_, rfl⟩
              rw [← hp1] at hcp1 hb91 hcl
              rw [← hp0] at hcp0 hb101 hcl
              obtain ⟨c, hc⟩ : ∃ c, c = p0 / 10 := ⟨_, rfl⟩
              obtain ⟨r, hr⟩ : ∃ r, r = p0 % 10 := ⟨_, rfl⟩
              rw [← hc, ← hr] at hcl
              have hc10 : c ≤ 10 := by omega
              have hr10 : r < 10 := by omega
              have hst := ho.stored (j + 1) (.int .i64 ((p1 + c : Nat) : Int))
              rw [intsV_set] at hst
              have hst2 := hst.1.drew.stored j (.int .i64 (r : Nat))
              rw [intsV_set] at hst2
              have hst3 := hst2.1
              have hb2 := ((hb.setCell (p := ⟨w.heap.size, j + 1, none⟩) (Nat.le_refl _) (.int .i64 ((p1 + c : Nat) : Int))).drew).setCell (p := ⟨w.heap.size, j, none⟩) (Nat.le_refl _) (.int .i64 (r : Nat))
              have hcast : ((p1 + c : Nat) : Int) = (p1 : Int) + (c : Int) := by omega
              rw [hcast] at hst3 hb2
              have hfz1 := ho.frozenAt (j + 1)
              have hfz0 := ho.frozenAt j
              have HL2 : Hid (((P.set (j + 1) (p1 + c)).set j r).length = L) := by show _ = _; rw [List.length_set, List.length_set]; exact hl.out
              have HB2 : Hid (Dm.allBelow ((P.set (j + 1) (p1 + c)).set j r) 101) := below_set (below_set hbl.out _ _ (by omega)) _ _ (by omega)
              have HU2 : Hid (∀ t (h : t < ((P.set (j + 1) (p1 + c)).set j r).length), j + 1 < t → ((P.set (j + 1) (p1 + c)).set j r)[t] < 91) := by
                intro t ht h
                rw [List.getElem_set_ne (by omega), List.getElem_set_ne (by omega)]
                exact hup.out t (by simpa using ht) (by omega)
              have HO2 : Hid (∀ t (h : t < ((P.set (j + 1) (p1 + c)).set j r).length), t < j + 1 → ((P.set (j + 1) (p1 + c)).set j r)[t] < 10) := by
                intro t ht h
                by_cases e : t = j
                · subst e; rw [List.getElem_set_self]; exact hr10
                · rw [List.getElem_set_ne (by omega), List.getElem_set_ne (by omega)]
                  exact hlo.out t (by simpa using ht) (by omega)
              have HV2 : Hid (Dm.lv ((P.set (j + 1) (p1 + c)).set j r) = x % 10 ^ (i + 1) * y) := hcl.trans hval.out
              have HST1 : Hid _ := hst3
              have HBB : Hid _ := hb2
              have hct : (p0 : Int).tdiv 10 = (c : Int) := by rw [Int.tdiv_eq_ediv_of_nonneg (by omega)]; omega
              have hrt : (p0 : Int).tmod 10 = (r : Int) := by rw [Int.tmod_eq_emod_of_nonneg (by omega)]; omega
              have hce : (p0 : Int) / 10 = (c : Int) := by omega
              have hre : (p0 : Int) % 10 = (r : Int) := by omega
              have hiw : IntKind.i64.wrap ((j : Int) + 1) = (j : Int) + 1 := by rw [IntKind.wrap_i64]; omega
              have hik2 : (j : Int) + 1 < (L : Int) := by omega
              have hik0 : (0 : Int) ≤ (j : Int) + 1 := by omega
              have hj2 : (j : Int) < (L : Int) := by omega
              have hj0 : (0 : Int) ≤ (j : Int) := by omega
              have htn : ((j : Int) + 1).toNat = j + 1 := by omega
              have hpz : IntKind.i64.wrap ((p1 : Int) + (c : Int)) = (p1 : Int) + (c : Int) := by rw [IntKind.wrap_i64]; omega
              have hwc : IntKind.i64.wrap (c : Int) = (c : Int) := by rw [IntKind.wrap_i64]; omega
              clear hst hst2 hst3 hb2 hval hup hlo hbl hl hp1 hp0 hcast ho hb hc hr hcl
              go_wp2
              go_region_with (fail)
              all_goals
                go_wp2
                go_roundw
                case rel => exact ⟨j + 1, (P.set (j + 1) (p1 + c)).set j r, by omega, by go_num, HL2, HB2, HU2, HO2, HV2, HST1.out, HBB.out⟩
                case measure => simp [intOf]; omega
            · obtain rfl : L = j + 1 := by omega
              have hlt10 : Dm.lv P < 10 ^ (j + 1) := by
                rw [hval.out]
                have h1 : x % 10 ^ (i + 1) < 10 ^ (i + 1) := Nat.mod_lt _ (Nat.pow_pos (by decide))
                have h2 := HYL.out
                have h3 : x % 10 ^ (i + 1) * y ≤ x % 10 ^ (i + 1) * 10 ^ b.size := Nat.mul_le_mul_left _ (Nat.le_of_lt h2)
                have h4 : x % 10 ^ (i + 1) * 10 ^ b.size < 10 ^ (i + 1) * 10 ^ b.size := Nat.mul_lt_mul_of_pos_right h1 (Nat.pow_pos (by decide))
                have h5 : 10 ^ (i + 1) * 10 ^ b.size ≤ 10 ^ (j + 1) := by
                  rw [← Nat.pow_add]
                  exact Nat.pow_le_pow_right (by decide) (by have := HLL.out; omega)
                omega
              have htop := Dm.top_lt P (j + 1) hl.out (by omega) hlt10
              have HB3 : Hid (Dm.allBelow P 10) := by
                intro t ht
                by_cases e : t = j
                · subst e; exact htop
                · exact hlo.out t ht (by have := hl.out; omega)
              have hV : Hid (Dm.lv P = x % 10 ^ (i + 1) * y) := hval
              clear hlt10 htop hlo hup hbl hval
              go_wp2
              go_roundw
              case rel => exact ⟨i + 1, P, by omega, by go_num, hl, HB3, hV, ho, hb⟩
              case measure => simp [intOf]; omega
    · obtain rfl : i = a.size := by omega
      have hV : Dm.lv P = x * y := by rw [hval.out, Nat.mod_eq_of_lt HXL.out]
      have hd10 : ∀ d ∈ P, d < 10 := by
        intro d hd
        obtain ⟨t, ht, rfl⟩ := List.mem_iff_getElem.1 hd
        exact hbl.out t ht
      have hpos : P ≠ [] := by
        intro e
        have := hl.out
        rw [e] at this
        simp only [List.length_nil] at this
        have := HLL.out
        omega
      have htx := Dm.text_dec P hpos hd10
      rw [hV] at htx
      have HT : Hid (Dm.isDec (Dm.trimZ ((P.map Dm.sg).reverse)) (x * y)) := htx
      have ho2 := own_base ho (Nat.zero_le _)
      have ho3 : wr.ownsRow 0 3 1 (.slice (some ⟨w.heap.size, 0, none⟩) L L) P.length (intsV P) := by
        rw [hl.out]; exact ho2
      have HO : Hid _ := ho3
      have hds : P.length ≤ 1000000 := by rw [hl.out]; omega
      have hdh : Hid (∀ d ∈ P, d < 10) := hd10
      have hbs := hb.size
      clear htx hV hbl hval hd10 ho2 ho3 ho hl
      go_wp2_with fail
      refine (l1Text_any _ P _ hdh.out hds HO.out).mono ?_
      rintro e w' ⟨⟨t, rfl, ht, _⟩, hb3⟩
      have ht' := ht hpos
      have HT2 : Hid (Dm.isDec t.data.toList (x * y)) := by rw [ht']; exact HT.out
      clear ht ht' HT
      go_wp2
      go_ret
      exact ⟨⟨t, rfl, HT2.out⟩, hb.trans (hb3.mono hbs)⟩

end Go.Proofs.YtaggfbffdbompaaDoor
