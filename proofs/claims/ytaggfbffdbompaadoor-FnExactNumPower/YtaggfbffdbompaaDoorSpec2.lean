/-
  Contracts of the specification's numbers: from digits to a text; what is left; dividing; the greatest that divides both.
-/
import Derived.Test.YtaggfbffdbompaaDoorSpec1
namespace Go.Proofs.YtaggfbffdbompaaDoor
set_option maxRecDepth 100000
open Go.RowKit

/-- A digit's sign, as a value. -/
def sgV (d : Nat) : Value := .int .u8 (48 + d : Nat)

/-- What l1Text has written behind i rounds. -/
def textCur (ds : List Nat) (i : Nat) : List Value := List.replicate (ds.length - i) (.int .u8 0) ++ ((ds.take i).map sgV).reverse

theorem textCur_set (ds : List Nat) (i : Nat) (h : i < ds.length) : (textCur ds i).set (ds.length - 1 - i) (sgV ds[i]) = textCur ds (i + 1) := by
  unfold textCur
  rw [List.set_append_left _ _ (by simp; omega)]
  have e : ds.length - i = (ds.length - 1 - i) + 1 := by omega
  have e2 : ds.length - (i + 1) = ds.length - 1 - i := by omega
  rw [e, e2, List.take_succ_eq_append_getElem h, List.replicate_succ', List.set_append_right _ _ (by simp), List.map_append, List.reverse_append]
  simp

set_option maxHeartbeats 400000 in
theorem l1Text_any (v : Value) (ds : List Nat) (w : World) (hd : ∀ d ∈ ds, d < 10) (hl : ds.length ≤ 1000000) (hown : w.ownsRow 0 3 1 v ds.length (ds.map (fun d : Nat => Value.int .i64 d))) :
    Calls Tryd.prog 53 #[v] w fun e w' => (∃ t : ByteArray, e = .returned (.string t) ∧ (ds ≠ [] → t.data.toList = Dm.trimZ ((ds.map Dm.sg).reverse)) ∧ (ds = [] → t.data.toList = [48])) ∧ Below w.heap.size w w' := by
  obtain ⟨i0, hi, hz0, hz1, hz2⟩ := info_parts infoU8
  by_cases hne : ds = []
  · subst hne
    rcases own_shape hown with ⟨rfl, _⟩ | ⟨g, cap, rfl, hg0, hg, hc, hcm⟩
    all_goals
      go_enter Tryd.func53, Tryd.ntmps53
      go_wp2_with (at_make; refine wpList_make_full w rfl _ _ 73 rfl w.heap.size 5 i0 (.int .u8 0) 1 Tryd.underlying73 hi hz0 hz1 .i64 .i64 0 0 0 rfl rfl rfl rfl (by omega) (by unfold maxLen; omega) (Nat.le_refl _) ?_)
      intro w1 hown1 hgr1
      go_wp2
      refine wp_loop_rounds 1 ?_; rw [rounds_succ]
      go_wp2
      go_ret
      exact ⟨⟨_, rfl, fun h => absurd rfl h, fun _ => rfl⟩, (Below.refl _ _).grown hgr1 (Nat.le_refl _) (by intro k hk; cases hk)⟩
  · obtain ⟨g, cap, rfl, hg0, hg, hc, hcm⟩ := own_some hown (by simpa using hne)
    have hp : 0 < ds.length := List.length_pos_iff.2 hne
    go_enter Tryd.func53, Tryd.ntmps53
    go_wp2_with (at_make; refine wpList_make_full w rfl _ _ 73 rfl w.heap.size 5 i0 (.int .u8 0) 1 Tryd.underlying73 hi hz0 hz1 .i64 .i64 ds.length ds.length ds.length rfl rfl rfl rfl (by rw [hz2]; omega) (by unfold maxLen; omega) (Nat.le_refl _) ?_)
    intro w1 hown1 hgr1
    have hc0 : List.replicate ds.length (Value.int .u8 0) = textCur ds 0 := by simp [textCur]
    rw [toList_madeCells_one, hc0] at hown1
    have hb1 : Below w.heap.size w w1 := (Below.refl _ _).grown hgr1 (Nat.le_refl _) (by intro k hk; cases hk)
    have hd1 := own_below hown hb1
    clear hgr1 hc0 hown
    go_wp2
    go_loopw [4] (fun k wr => ∃ i : Nat, i ≤ ds.length ∧ k = .int .i64 i ∧ wr.ownsRow w.heap.size 5 1 (.slice (some ⟨w.heap.size, 0, none⟩) ds.length ds.length) ds.length (textCur ds i) ∧ wr.ownsRow 0 3 1 (.slice (some ⟨g, 0, none⟩) ds.length cap) ds.length (ds.map (fun d : Nat => Value.int .i64 d)) ∧ Below w.heap.size w wr)
      (fun k _ => ds.length - (intOf k).toNat)
    case atStart => exact ⟨0, by omega, rfl, hown1, hd1, hb1⟩
    case round =>
      obtain ⟨i, hi, rfl, ho, hds, hb⟩ := hrel
      clear hown1 hd1 hb1
      by_cases hlt : i < ds.length
      · have hcd : wr.cell? ⟨g, i, none⟩ = some (.int .i64 (ds[i] : Nat)) := by
          have := hds.cellAt i (by omega)
          rw [this]; simp [hlt]
        have hcw : ∃ u, wr.cell? ⟨w.heap.size, ds.length - 1 - i, none⟩ = some u := by
          have := ho.cellAt (ds.length - 1 - i) (by omega)
          rw [this]
          have h1 := ho.1
          exact ⟨_, List.getElem?_eq_getElem (by omega)⟩
        obtain ⟨u, hcw⟩ := hcw
        have hfz := ho.frozenAt (ds.length - 1 - i)
        have hlt10 := hd ds[i] (List.getElem_mem _)
        have hst := ho.stored (ds.length - 1 - i) (sgV ds[i])
        rw [textCur_set ds i hlt] at hst
        have hst1 := hst.1
        have hb2 := hb.setCell (p := ⟨w.heap.size, ds.length - 1 - i, none⟩) (Nat.le_refl _) (sgV ds[i])
        have hds2 := hds.kept hst.2 (by right; simp [Value.ownBlock]; omega)
        clear hst hb hds ho
        go_wp2
        go_roundw
        case rel => exact ⟨i + 1, by omega, by go_num, hst1, hds2, hb2⟩
        case measure => simp [intOf]; omega
      · obtain rfl : i = ds.length := by omega
        have hz : ((ds.length : Int) == 0) = false := beq_eq_false_iff_ne.2 (by omega)
        have e1 : textCur ds ds.length = (((ds.map Dm.sg).reverse).map (fun b : UInt8 => Value.int .u8 b.toNat)) := by
          unfold textCur
          simp only [Nat.sub_self, List.replicate_zero, List.nil_append, List.take_length, List.map_reverse, List.map_map]
          congr 1
          apply List.map_congr_left
          intro d hd'
          simp [sgV, Dm.sg_toNat d (hd d hd')]
        rw [e1] at ho
        have hcv := own_string ((ds.map Dm.sg).reverse) (by simp) ho
        have hsz : (⟨((ds.map Dm.sg).reverse).toArray⟩ : ByteArray).size = ds.length := by simp [ByteArray.size]
        clear hds ho e1
        generalize hS : (⟨((ds.map Dm.sg).reverse).toArray⟩ : ByteArray) = S at *
        have HS : Hid ((⟨((ds.map Dm.sg).reverse).toArray⟩ : ByteArray) = S) := hS
        clear hS
        have b1 : S.size ≤ maxLen := by unfold maxLen; omega
        have b2 : 0 < S.size := by omega
        clear hsz
        go_wp2_with fail
        refine (l1Trim_any S _ b1 b2).mono ?_
        rintro e w' ⟨⟨t, rfl, ht⟩, rfl⟩
        go_wp2
        go_ret
        exact ⟨⟨t, rfl, fun _ => by rw [ht, ← HS.out], fun h => absurd h hne⟩, hb⟩

/-- Whole numbers as values of type int. -/
def intsV (ds : List Nat) : List Value := ds.map (fun d : Nat => Value.int .i64 d)

theorem intsV_snoc (ds : List Nat) (d : Nat) : intsV ds ++ [Value.int .i64 d] = intsV (ds ++ [d]) := by simp [intsV]

theorem forall_snoc {α : Type} {P : α → Prop} {l : List α} {d : α} (h : ∀ x ∈ l, P x) (hd : P d) : ∀ x ∈ l ++ [d], P x := by
  intro x hx
  rcases List.mem_append.1 hx with h1 | h1
  · exact h x h1
  · simp at h1; rw [h1]; exact hd

theorem l1At_ex (s : ByteArray) (x k : Nat) (w : World) (hs : s.size ≤ maxLen) (hk : k ≤ maxLen) (hx : Dm.isDec s.data.toList x) :
    Calls Tryd.prog 52 #[.string s, .int .i64 k] w fun e w' => (∃ d : Nat, e = .returned (.int .i64 d) ∧ Hid (d = x / 10 ^ k % 10) ∧ d < 10) ∧ w' = w :=
  (l1At_any s x k w hs hk hx).mono fun _ _ h => ⟨⟨_, h.1, rfl, by omega⟩, h.2⟩

set_option maxHeartbeats 800000 in
theorem l1Sub_any (a b : ByteArray) (x y : Nat) (w : World) (ha : a.size ≤ 100000) (hb : b.size ≤ 100000) (hx : Dm.isDec a.data.toList x) (hy : Dm.isDec b.data.toList y) (hyx : y ≤ x) :
    Calls Tryd.prog 28 #[.string a, .string b] w fun e w' => (∃ t : ByteArray, e = .returned (.string t) ∧ Dm.isDec t.data.toList (x - y)) ∧ Below w.heap.size w w' := by
  obtain ⟨i0, hi, hz0, hz1, hz2⟩ := info_parts infoInt
  go_enter Tryd.func28, Tryd.ntmps28
  go_wp2
  go_loopw [5, 6, 7] (fun v l k wr => ∃ (i c : Nat) (ds : List Nat), i ≤ a.size ∧ k = .int .i64 i ∧ l = .int .i64 c ∧ c ≤ 1 ∧ ds.length = i ∧ (∀ d ∈ ds, d < 10) ∧ Hid (Dm.lv ds + y % 10 ^ i = x % 10 ^ i + 10 ^ i * c) ∧
      wr.ownsRow w.heap.size 3 1 v i (intsV ds) ∧ Below w.heap.size w wr)
    (fun _ _ k _ => a.size - (intOf k).toNat)
  case atStart =>
    exact ⟨0, 0, [], Nat.zero_le _, rfl, rfl, Nat.zero_le _, rfl, fun d h => absurd h (by simp), by show Dm.lv [] + y % 10 ^ 0 = _; simp [Dm.lv, Nat.mod_one], World.ownsRow_lit w #[] 0 (Nat.le_refl _) (Nat.zero_le _) rfl, (Below.refl _ _).alloc (Nat.le_refl _) _⟩
  case round =>
    obtain ⟨i, c, ds, hi', rfl, rfl, hc, hl, hd, hv, ho, hb'⟩ := hrel
    by_cases hlt : i < a.size
    · have m1 : a.size ≤ maxLen := by unfold maxLen; omega
      have m2 : b.size ≤ maxLen := by unfold maxLen; omega
      have m3 : i ≤ maxLen := by unfold maxLen; omega
      go_wp2_with fail
      refine (l1At_ex a x i _ m1 m3 hx).mono ?_
      rintro e w' ⟨⟨p, rfl, hp, hp10⟩, rfl⟩
      go_wp2_with fail
      refine (l1At_ex b y i _ m2 m3 hy).mono ?_
      rintro e w' ⟨⟨q, rfl, hq, hq10⟩, rfl⟩
      have HST : Hid (∀ (d c' : Nat), d + (q + c) = p + 10 * c' → Dm.lv (ds ++ [d]) + y % 10 ^ (i + 1) = x % 10 ^ (i + 1) + 10 ^ (i + 1) * c') := by
        intro d c' h
        exact Dm.sub_step x y i c d c' ds hl hv.out (by rw [← hp.out, ← hq.out]; exact h)
      clear hp hq hv
      have hBs := hb'.size
      by_cases hbo : (p : Int) - q - c < 0
      · obtain ⟨d, hd'⟩ : ∃ d : Nat, (p : Int) - q - c + 10 = (d : Int) := ⟨(p + 10 - q - c), by omega⟩
        have hd10 : d < 10 := by omega
        have hnew : Hid (Dm.lv (ds ++ [d]) + y % 10 ^ (i + 1) = x % 10 ^ (i + 1) + 10 ^ (i + 1) * 1) := HST.out d 1 (by omega)
        clear HST
        go_wp2_with (at_builtin; refine wpList_append_own _ rfl _ _ 81 rfl w.heap.size 3 i0 (.int .i64 0) 1 8 Tryd.underlying81 hi hz0 hz1 hz2 rfl (by decide) _ _ _ rfl (ho.alloc _) ⟨w'.heap.size, 0, none⟩ 1 1 [.int .i64 d] rfl rfl (cell_one_new _ _ _) (by simp [Value.oneCell']) (by unfold maxLen; omega) (by omega) (by simp; omega) ?_)
        intro v' w1 hown' hgrow _
        rw [intsV_snoc] at hown'
        have hb2 : Below w.heap.size w w1 := (hb'.alloc hBs _).grown hgrow (by simp; omega) (fun k hk => (ho.lt k hk).1)
        clear hgrow ho hb'
        go_wp2
        go_roundw
        case rel => exact ⟨i + 1, 1, ds ++ [d], by omega, by go_num, rfl, by omega, by simp [hl], forall_snoc hd hd10, hnew, hown', hb2⟩
        case measure => simp [intOf]; omega
      · obtain ⟨d, hd'⟩ : ∃ d : Nat, (p : Int) - q - c = (d : Int) := ⟨(p - q - c), by omega⟩
        have hd10 : d < 10 := by omega
        have hnew : Hid (Dm.lv (ds ++ [d]) + y % 10 ^ (i + 1) = x % 10 ^ (i + 1) + 10 ^ (i + 1) * 0) := HST.out d 0 (by omega)
        clear HST
        go_wp2_with (at_builtin; refine wpList_append_own _ rfl _ _ 81 rfl w.heap.size 3 i0 (.int .i64 0) 1 8 Tryd.underlying81 hi hz0 hz1 hz2 rfl (by decide) _ _ _ rfl (ho.alloc _) ⟨w'.heap.size, 0, none⟩ 1 1 [.int .i64 d] rfl rfl (cell_one_new _ _ _) (by simp [Value.oneCell']) (by unfold maxLen; omega) (by omega) (by simp; omega) ?_)
        intro v' w1 hown' hgrow _
        rw [intsV_snoc] at hown'
        have hb2 : Below w.heap.size w w1 := (hb'.alloc hBs _).grown hgrow (by simp; omega) (fun k hk => (ho.lt k hk).1)
        clear hgrow ho hb'
        go_wp2
        go_roundw
        case rel => exact ⟨i + 1, 0, ds ++ [d], by omega, by go_num, rfl, by omega, by simp [hl], forall_snoc hd hd10, hnew, hown', hb2⟩
        case measure => simp [intOf]; omega
    · obtain rfl : i = a.size := by omega
      have hla : a.data.toList.length = a.size := by simp
      have hxl := Dm.isDec_high _ x hx
      rw [hla] at hxl
      have hlv := Dm.lv_lt ds hd
      rw [hl] at hlv
      have hend := Dm.sub_end x y a.size c ds hxl hyx hlv hv.out
      have hpos : ds ≠ [] := by
        intro e
        rw [e] at hl
        simp only [List.length_nil] at hl
        exact hx.1 (List.length_eq_zero_iff.1 (by omega))
      have htx := Dm.text_dec ds hpos hd
      rw [hend] at htx
      have HT : Hid (Dm.isDec (Dm.trimZ ((ds.map Dm.sg).reverse)) (x - y)) := htx
      have ho2 := own_base ho (Nat.zero_le _)
      rw [← hl] at ho2
      have hds : ds.length ≤ 1000000 := by omega
      clear htx hend hlv hxl hv hx hy
      go_wp2_with fail
      refine (l1Text_any _ ds _ hd hds ho2).mono ?_
      rintro e w' ⟨⟨t, rfl, ht, _⟩, hb3⟩
      have ht' := ht hpos
      have HT2 : Hid (Dm.isDec t.data.toList (x - y)) := by rw [ht']; exact HT.out
      clear ht ht' HT
      go_wp2
      go_ret
      exact ⟨⟨t, rfl, HT2.out⟩, hb'.trans (hb3.mono hb'.size)⟩

end Go.Proofs.YtaggfbffdbompaaDoor
