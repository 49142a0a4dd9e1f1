/-
  The program's way into a level.
-/
import Derived.Test.YtooeapjlfmknfaaTrI2
namespace Go.Proofs.Ytooeapjlfmknfaa.Tr
set_option maxRecDepth 100000
set_option linter.unusedVariables false
set_option linter.unusedSimpArgs false
open Go.RowKit Go.Deep
attribute [local go_sem ↓] Go.wp_at_zero Go.wp_at_succ

theorem infoI : (Try.prog.info? 3).map (fun i => (i.zero, i.size, i.bytes)) = some (some (.int .i64 0), 1, 8) := by kernel_rfl

theorem infoLv : (Try.prog.info? 44).map (fun i => (i.zero, i.size, i.bytes)) = some (some (.agg #[.slice none 0 0, .slice none 0 0, .slice none 0 0, .slice none 0 0]), 4, 96) := by kernel_rfl

theorem timesOf_short (f : BA × BA → BA) (env : TEnv) (a : BA) : (timesOf f env a).length ≤ env.length := by
  unfold timesOf
  rw [List.length_reverse, List.length_map]
  exact List.length_filter_le _ _

theorem bindN_length : ∀ (zs : List (BA × BA)) (p : Nat) (env : TEnv), (bindN p zs env).length = zs.length + env.length
  | [], p, env => by simp [bindN]
  | z :: zs, p, env => by rw [bindN, bindN_length zs]; simp; omega

theorem cell_four_new (w : World) (x y z u' : Value) (t : Nat) : ∀ j u, [x, y, z, u'][j]? = some u → (w.alloc (.cells #[x, y, z, u'] t)).cell? ((⟨w.heap.size, 0, none⟩ : Addr).add j) = some u := by
  intro j u hj
  match j, hj with
  | 0, hj => simp at hj; subst hj; simp [Addr.add]
  | 1, hj => simp at hj; subst hj; simp [Addr.add]
  | 2, hj => simp at hj; subst hj; simp [Addr.add]
  | 3, hj => simp at hj; subst hj; simp [Addr.add]

theorem heap_alloc_old {w : World} {o : Obj} {b : Nat} (h : b < w.heap.size) : (w.alloc o).heap[b]? = w.heap[b]? := Below.heap_alloc w o b h

set_option maxHeartbeats 8000000 in
theorem within_any (w0 W : World) (M A B : Nat) (SA SB : Nat → Prop) (ov : Value) (p n : Nat) (st : List Lv) (qs : List (Value × Value × Value × Value)) (env : TEnv) (h : St w0 W M A B SA SB ov p n n (timesOf (·.1) env) (timesOf (·.2) env) st qs)
    (l : Lv) (ka kn : Nat) (aa : Option Addr) (ca : Nat) (ab : Option Addr) (cb : Nat) (an : Option Addr) (cn : Nat) (an2 : Option Addr) (cn2 : Nat) (hl : LvAt w0 l (.slice aa ka ca, .slice ab ka cb, .slice an kn cn, .slice an2 kn cn2))
    (e3 : l.na.length = kn) (e4 : l.nb.length = kn) (hs1 : ∀ j (h : j < l.na.length), l.na[j].size ≤ maxLen) (hs2 : ∀ j (h : j < l.nb.length), l.nb[j].size ≤ maxLen)
    (hn : n + kn ≤ 16777216) (hp : p + kn ≤ 16777216) (henv : env.length + kn ≤ 16777216) (hst : st.length ≤ 16777216) :
    Calls Try.prog 12 #[.pointer (some ⟨M, 0, none⟩), .agg #[.slice aa ka ca, .slice ab ka cb, .slice an kn cn, .slice an2 kn cn2]] W fun e w' => e = .returned (.bool true) ∧
      ∃ (SA' SB' : Nat → Prop) (ov' : Value), St w0 w' M A B SA' SB' ov' (p + kn) (n + kn) (n + kn) (timesOf (·.1) (bindN p (l.na.zip l.nb) env)) (timesOf (·.2) (bindN p (l.na.zip l.nb) env)) (l :: st) ((.slice aa ka ca, .slice ab ka cb, .slice an kn cn, .slice an2 kn cn2) :: qs) := by
  obtain ⟨i0, hi0, hz0, hz1, hz2⟩ := info_parts infoI
  obtain ⟨j0, hj0, hy0, hy1, hy2⟩ := info_parts infoLv
  obtain ⟨V, hV⟩ : ∃ V, W.alloc (.cells #[Value.slice aa ka ca, Value.slice ab ka cb, Value.slice an kn cn, Value.slice an2 kn cn2] 44) = V := ⟨_, rfl⟩
  have hbv : Below W.heap.size W V := by rw [← hV]; exact belA (Below.refl _ _)
  have hLB : boxAt V W.heap.size #[Value.slice aa ka ca, Value.slice ab ka cb, Value.slice an kn cn, Value.slice an2 kn cn2] 44 := by rw [← hV]; exact boxAt_new _ _ _
  have HS : Hid (St w0 V M A B SA SB ov p n n (timesOf (·.1) env) (timesOf (·.2) env) st qs) := h.below hbv
  have HLB : Hid (boxAt V W.heap.size #[Value.slice aa ka ca, Value.slice ab ka cb, Value.slice an kn cn, Value.slice an2 kn cn2] 44) := hLB
  have HML : Hid (M < W.heap.size) := h.box.lt
  have HOV : Hid (∀ g, ov.ownBlock = some g → g < W.heap.size) := fun g hg => (h.row.lt g hg).2
  have HL : Hid (LvAt w0 l (.slice aa ka ca, .slice ab ka cb, .slice an kn cn, .slice an2 kn cn2)) := hl
  have E3 : Hid (l.na.length = kn) := e3
  have E4 : Hid (l.nb.length = kn) := e4
  have HS1 : Hid (∀ j (h : j < l.na.length), l.na[j].size ≤ maxLen) := hs1
  have HS2 : Hid (∀ j (h : j < l.nb.length), l.nb[j].size ≤ maxLen) := hs2
  obtain ⟨Z, hZ⟩ : ∃ Z, l.na.zip l.nb = Z := ⟨_, rfl⟩
  have HZ : Hid (l.na.zip l.nb = Z) := hZ
  have HZL : Hid (Z.length = kn) := by show _ = _; rw [← hZ, List.length_zip, e3, e4, Nat.min_self]
  rw [hZ]
  have HV : Hid (W.alloc (.cells #[Value.slice aa ka ca, Value.slice ab ka cb, Value.slice an kn cn, Value.slice an2 kn cn2] 44) = V) := hV
  clear h hl e3 e4 hs1 hs2 hbv hLB hZ hV
  go_enter Try.func12, Try.ntmps12
  go_wp2_with fail
  rw [HV.out]
  clear HV
  go_loopw [25] (fun u wr => ∃ (i : Nat), u = .int .i64 i ∧ i ≤ kn ∧ Hid (∃ SA SB, St w0 wr M A B SA SB ov (p + i) (n + i) (n + i) (timesOf (·.1) (bindN p (Z.take i) env)) (timesOf (·.2) (bindN p (Z.take i) env)) st qs) ∧ Hid (boxAt wr W.heap.size #[Value.slice aa ka ca, Value.slice ab ka cb, Value.slice an kn cn, Value.slice an2 kn cn2] 44))
    (fun u _ => (kn : Int).toNat - (intOf u).toNat)
  case atStart => exact ⟨0, by go_num, Nat.zero_le _, ⟨SA, SB, HS.out⟩, HLB.out⟩
  case round =>
    obtain ⟨i, rfl, hi, hs, hlb⟩ := hrel
    obtain ⟨SAi, SBi, hs⟩ := hs.out
    by_cases hlt : i < kn
    · have h1 : i < l.na.length := by rw [E3.out]; exact hlt
      have h2 : i < l.nb.length := by rw [E4.out]; exact hlt
      obtain ⟨b, o, rfl, hbb, hc⟩ := Strs.at HL.out.na i h1
      obtain ⟨b2, o2, rfl, hbb2, hc2⟩ := Strs.at HL.out.nb i h2
      have hbl := cell_lt hc
      have hbl2 := cell_lt hc2
      obtain ⟨x, hx⟩ : ∃ x, l.na[i] = x := ⟨_, rfl⟩
      obtain ⟨y, hy⟩ : ∃ y, l.nb[i] = y := ⟨_, rfl⟩
      have hxs := HS1.out i h1
      have hys := HS2.out i h2
      rw [hx] at hc hxs
      rw [hy] at hc2 hys
      have HT : Hid (Z.take (i + 1) = Z.take i ++ [(x, y)]) := by
        show _ = _
        rw [List.take_succ_eq_append_getElem (by rw [HZL.out]; exact hlt)]
        congr 2
        have := HZ.out
        subst this
        rw [List.getElem_zip, hx, hy]
      have HE : Hid (bindN p (Z.take (i + 1)) env = (p + i, x, y) :: bindN p (Z.take i) env) := by
        show _ = _
        rw [HT.out, bindN_snoc, List.length_take, HZL.out, Nat.min_eq_left (by omega)]
      have hel : (bindN p (Z.take i) env).length ≤ 16777216 := by rw [bindN_length, List.length_take, HZL.out]; omega
      obtain ⟨ei, hei⟩ : ∃ ei, bindN p (Z.take i) env = ei := ⟨_, rfl⟩
      have HEI : Hid (bindN p (Z.take i) env = ei) := hei
      rw [hei] at hs hel
      obtain ⟨q, hq⟩ : ∃ q, p + i = q := ⟨_, rfl⟩
      obtain ⟨m, hm⟩ : ∃ m, n + i = m := ⟨_, rfl⟩
      have HQ : Hid (p + i = q) := hq
      have HM : Hid (n + i = m) := hm
      rw [hq, hm] at hs
      have hqb : q < 16777216 := by omega
      have hmb : m < 16777216 := by omega
      obtain ⟨v, hlook, hrow, hbind⟩ := hs.mapA.bind (by unfold maxLen; omega) x hxs
      have hll := timesOf_short (·.1) ei x
      obtain ⟨L, hL⟩ : ∃ L, timesOf (·.1) ei x = L := ⟨_, rfl⟩
      rw [hL] at hrow hbind hll
      have HLE : Hid (timesOf (·.1) ei x = L) := hL
      have HBI : Hid _ := hbind
      have HRO : Hid (RowIn wr w0.heap.size SAi v L) := hrow
      have HSt : Hid (St w0 wr M A B SAi SBi ov q m m (timesOf (·.1) ei) (timesOf (·.2) ei) st qs) := hs
      have HLBr : Hid (boxAt wr W.heap.size #[Value.slice (some ⟨b, o, none⟩) kn cn, Value.slice aa ka ca] 44 ∨ True) := .inr trivial
      have hl0 := hlook wr.drew rfl
      have hl1 := hlook (wr.alloc (.cells #[.int .i64 q] 3)).drew (heap_alloc_old (w := wr) hs.mapA.lt)
      have cM1 := hs.box.cell 1 rfl
      have cM2 := hs.box.cell 2 rfl
      have cL2 := hlb.out.cell 2 rfl
      have cN := (Stays.below hs.bel 0).cell (Nat.zero_le _) hc
      have hLl : L.length ≤ 16777216 := Nat.le_trans hll hel
      have hwb : w0.heap.size ≤ wr.heap.size := hs.bel.size
      have HNE : Hid (∀ b' o' u, b' < w0.heap.size ∨ (∃ cs t, boxAt wr b' cs t ∧ t ≠ 3) → wr.cell? ⟨b', o', none⟩ = some u → ∀ w1, wr.grownBy w1 v.ownBlock → w1.cell? ⟨b', o', none⟩ = some u) := by
        intro b' o' u hor hcell w1 hg
        refine hg.cell hcell (fun e => ?_)
        rcases hor with h3 | ⟨cs, t, h3, h4⟩
        · have := (hrow.1.lt b' e.symm).1; omega
        · exact row_ne_box hrow.1 h3 h4 e.symm
      have HLBr2 := hlb
      have HC : Hid (w0.cell? ⟨b, o + i, none⟩ = some (.string x)) := hc
      have HC2 : Hid (w0.cell? ⟨b2, o2 + i, none⟩ = some (.string y)) := hc2
      clear hlook hrow hbind hs HLBr hlb hx hy hq hm hei HT hc hc2 h1 h2 hll hL HLB HS
      have hlt2 : (i : Int) < (kn : Int) := by omega
      go_wp2_with fail
      go_region_held3 (fun w' => w'.cell? ⟨M, 1, none⟩ = some (.int .i64 q) ∧ w'.cell? ⟨M, 2, none⟩ = some (.map (some A)) ∧ w'.cell? ⟨W.heap.size, 2, none⟩ = some (.slice (some ⟨b, o, none⟩) kn cn) ∧ w'.cell? ⟨b, o + i, none⟩ = some (.string x))
        ((repeat' apply And.intro) <;> first | (with_reducible assumption) | (go_keep; done))
        (first
          | (refine step_append_own rfl (.tmp 46) (.tmp 51) 52 rfl w0.heap.size 3 i0 _ 1 8 Try.underlying52 hi0 hz0 hz1 hz2 rfl (by decide) v L.length (intCells L) (by simp [Act.eval, Act.put]) (HRO.out.1.alloc (w := wr.drew) _) ⟨wr.heap.size, 0, none⟩ 1 1 [.int .i64 q] (by simp [Act.eval, Act.put]) rfl (cell_one_new wr.drew _ _) (by intro u hu; simp at hu; subst hu; rfl) (by unfold maxLen; omega) (by omega) (by show _ ≤ (wr.drew.alloc _).heap.size; rw [size_alloc]; exact Nat.le_succ_of_le hwb) ?_
             intro v' w1 hown hgrow hnil hat
             have hgA : wr.grownBy w1 v.ownBlock := grown_t (grown_b (row := v.ownBlock) (belA (belD (Below.refl _ _)))) hgrow
             obtain ⟨w2, SA2, hrun, hmap2, hS2, hg2⟩ := HBI.out w1 v' q (wr.heap.size + 1) hgA hown (hat.imp id (fun h => h.trans (congrArg some (size_alloc wr.drew _)))) (Nat.le_succ _)
             have HAFT : Hid _ := HSt.out.afterA HRO.out hgA hg2 hmap2 hS2 (Nat.le_succ _)
             have dM1 := HNE.out M 1 _ (.inr ⟨_, _, HSt.out.box, by decide⟩) cM1 w1 hgA
             have dM2 := HNE.out M 2 _ (.inr ⟨_, _, HSt.out.box, by decide⟩) cM2 w1 hgA
             have dL2 := HNE.out W.heap.size 2 _ (.inr ⟨_, _, HLBr2.out, by decide⟩) cL2 w1 hgA
             have dN := HNE.out b (o + i) _ (.inl hbl) cN w1 hgA
             have fM1 := HAFT.out.1.box.cell 1 rfl
             have fM2 := HAFT.out.1.box.cell 2 rfl
             have fL2 := (HAFT.out.2 _ _ _ HLBr2.out (by decide)).cell 2 rfl
             have fN := (Stays.below HAFT.out.1.bel 0).cell (Nat.zero_le _) HC.out
             clear hown hgrow hnil hat hgA hg2 hmap2 hS2))
      all_goals
        have HS2' : Hid (St w0 w2 M A B SA2 SBi ov q (m + 1) m (timesOf (·.1) ((q, x, y) :: ei)) (timesOf (·.2) ei) st qs) := by
          have h4 := HAFT.out.1
          rw [← HLE.out, funext (timesA_step q x y ei)] at h4
          exact h4
        have HLB2 : Hid (boxAt w2 W.heap.size #[Value.slice aa ka ca, Value.slice ab ka cb, Value.slice (some ⟨b, o, none⟩) kn cn, Value.slice (some ⟨b2, o2, none⟩) kn cn2] 44) := HAFT.out.2 _ _ _ HLBr2.out (by decide)
        clear dM1 dM2 dL2 dN fM1 fM2 fL2 fN cM1 cM2 cL2 cN hl0 hl1 hrun HRO HBI HNE HAFT HSt HLBr2 HLE hLl hwb
        obtain ⟨v2, hlook, hrow, hbind⟩ := HS2'.out.mapB.bind (by unfold maxLen; omega) y hys
        have hll := timesOf_short (·.2) ei y
        obtain ⟨L2, hL⟩ : ∃ L2, timesOf (·.2) ei y = L2 := ⟨_, rfl⟩
        rw [hL] at hrow hbind hll
        have HLE : Hid (timesOf (·.2) ei y = L2) := hL
        have HBI : Hid _ := hbind
        have HRO : Hid (RowIn w2 w0.heap.size SBi v2 L2) := hrow
        have hl0 := hlook w2.drew rfl
        have hl1 := hlook (w2.alloc (.cells #[.int .i64 q] 3)).drew (heap_alloc_old (w := w2) HS2'.out.mapB.lt)
        have cM1 := HS2'.out.box.cell 1 rfl
        have cM2 := HS2'.out.box.cell 3 rfl
        have cL2 := HLB2.out.cell 3 rfl
        have cN := (Stays.below HS2'.out.bel 0).cell (Nat.zero_le _) HC2.out
        have hLl : L2.length ≤ 16777216 := Nat.le_trans hll hel
        have hwb : w0.heap.size ≤ w2.heap.size := HS2'.out.bel.size
        have HNE : Hid (∀ b' o' u, b' < w0.heap.size ∨ (∃ cs t, boxAt w2 b' cs t ∧ t ≠ 3) → w2.cell? ⟨b', o', none⟩ = some u → ∀ w1, w2.grownBy w1 v2.ownBlock → w1.cell? ⟨b', o', none⟩ = some u) := by
          intro b' o' u hor hcell w1 hg
          refine hg.cell hcell (fun e => ?_)
          rcases hor with h3 | ⟨cs, t, h3, h4⟩
          · have := (hrow.1.lt b' e.symm).1; omega
          · exact row_ne_box hrow.1 h3 h4 e.symm
        clear hlook hrow hbind hll hL
        go_wp2_with fail
        go_region_held3 (fun w' => w'.cell? ⟨M, 1, none⟩ = some (.int .i64 q) ∧ w'.cell? ⟨M, 3, none⟩ = some (.map (some B)) ∧ w'.cell? ⟨W.heap.size, 3, none⟩ = some (.slice (some ⟨b2, o2, none⟩) kn cn2) ∧ w'.cell? ⟨b2, o2 + i, none⟩ = some (.string y))
          ((repeat' apply And.intro) <;> first | (with_reducible assumption) | (go_keep; done))
          (first
            | (refine step_append_own rfl (.tmp 71) (.tmp 76) 52 rfl w0.heap.size 3 i0 _ 1 8 Try.underlying52 hi0 hz0 hz1 hz2 rfl (by decide) v2 L2.length (intCells L2) (by simp [Act.eval, Act.put]) (HRO.out.1.alloc (w := w2.drew) _) ⟨w2.heap.size, 0, none⟩ 1 1 [.int .i64 q] (by simp [Act.eval, Act.put]) rfl (cell_one_new w2.drew _ _) (by intro u hu; simp at hu; subst hu; rfl) (by unfold maxLen; omega) (by omega) (by show _ ≤ (w2.drew.alloc _).heap.size; rw [size_alloc]; exact Nat.le_succ_of_le hwb) ?_
               intro v3 w3 hown hgrow hnil hat
               have hgA : w2.grownBy w3 v2.ownBlock := grown_t (grown_b (row := v2.ownBlock) (belA (belD (Below.refl _ _)))) hgrow
               obtain ⟨w4, SB2, hrun, hmap2, hS2, hg2⟩ := HBI.out w3 v3 q (w2.heap.size + 1) hgA hown (hat.imp id (fun h => h.trans (congrArg some (size_alloc w2.drew _)))) (Nat.le_succ _)
               have HAFT : Hid _ := HS2'.out.afterB HRO.out hgA hg2 hmap2 hS2 (Nat.le_succ _)
               have dM1 := HNE.out M 1 _ (.inr ⟨_, _, HS2'.out.box, by decide⟩) cM1 w3 hgA
               have dM2 := HNE.out M 3 _ (.inr ⟨_, _, HS2'.out.box, by decide⟩) cM2 w3 hgA
               have dL2 := HNE.out W.heap.size 3 _ (.inr ⟨_, _, HLB2.out, by decide⟩) cL2 w3 hgA
               have dN := HNE.out b2 (o2 + i) _ (.inl hbl2) cN w3 hgA
               have fM1 := HAFT.out.1.box.cell 1 rfl
               have fM2 := HAFT.out.1.box.cell 3 rfl
               have fL2 := (HAFT.out.2 _ _ _ HLB2.out (by decide)).cell 3 rfl
               have fN := (Stays.below HAFT.out.1.bel 0).cell (Nat.zero_le _) HC2.out
               clear hown hgrow hnil hat hgA hg2 hmap2 hS2))
        all_goals
          have HS4 : Hid (St w0 w4 M A B SA2 SB2 ov q (m + 1) (m + 1) (timesOf (·.1) ((q, x, y) :: ei)) (timesOf (·.2) ((q, x, y) :: ei)) st qs) := by
            have h4 := HAFT.out.1
            rw [← HLE.out, funext (timesB_step q x y ei)] at h4
            exact h4
          have HLB4 : Hid (boxAt w4 W.heap.size #[Value.slice aa ka ca, Value.slice ab ka cb, Value.slice (some ⟨b, o, none⟩) kn cn, Value.slice (some ⟨b2, o2, none⟩) kn cn2] 44) := HAFT.out.2 _ _ _ HLB2.out (by decide)
          clear dM1 dM2 dL2 dN fM1 fM2 fL2 fN cM1 cM2 cL2 cN hl0 hl1 hrun HRO HBI HNE HAFT HS2' HLB2 HLE hLl hwb
          have cM1 := HS4.out.box.cell 1 rfl
          have gM1 := HS4.out.box.frozen 1
          go_wp2
          have HS5 : Hid (St w0 (w4.setCell ⟨M, 1, none⟩ (.int .i64 ((q : Int) + 1))) M A B SA2 SB2 ov (q + 1) (m + 1) (m + 1) (timesOf (·.1) ((q, x, y) :: ei)) (timesOf (·.2) ((q, x, y) :: ei)) st qs) :=
            HS4.out.setBox 1 _ (by rw [show ((q + 1 : Nat) : Int) = (q : Int) + 1 by omega]; rfl) HS4.out.row HS4.out.lvs HS4.out.sO
          have HLB5 : Hid (boxAt (w4.setCell ⟨M, 1, none⟩ (.int .i64 ((q : Int) + 1))) W.heap.size #[Value.slice aa ka ca, Value.slice ab ka cb, Value.slice (some ⟨b, o, none⟩) kn cn, Value.slice (some ⟨b2, o2, none⟩) kn cn2] 44) := HLB4.out.set (by have := HML.out; omega)
          go_roundw
          case rel =>
            refine ⟨i + 1, by go_num, by omega, ⟨SA2, SB2, ?_⟩, HLB5.out⟩
            rw [HE.out, HEI.out, ← Nat.add_assoc, ← Nat.add_assoc, HQ.out, HM.out]
            exact HS5.out
          case measure => simp [intOf] <;> omega
    · have hie : i = kn := by omega
      subst hie
      have HSt : Hid (St w0 wr M A B SAi SBi ov (p + i) (n + i) (n + i) (timesOf (·.1) (bindN p Z env)) (timesOf (·.2) (bindN p Z env)) st qs) := by
        have h4 := hs
        rw [List.take_of_length_le (by rw [HZL.out]; exact Nat.le_refl _)] at h4
        exact h4
      have cM0 := HSt.out.box.cell 0 rfl
      have gM0 := HSt.out.box.frozen 0
      have cL0 := hlb.out.cell 0 rfl
      have cL1 := hlb.out.cell 1 rfl
      have cL2 := hlb.out.cell 2 rfl
      have cL3 := hlb.out.cell 3 rfl
      have hwb : w0.heap.size ≤ wr.heap.size := HSt.out.bel.size
      have cM0a : (wr.alloc (.cells #[.slice aa ka ca, .slice ab ka cb, .slice an i cn, .slice an2 i cn2] 44)).cell? ⟨M, 0, none⟩ = some ov := cell_on (belA (Below.refl _ _)) cM0
      have hql : (lcells qs).length = st.length * 4 := by rw [lcells_length, HSt.out.lvs.length]
      have HLBr : Hid _ := hlb
      clear hs hlb
      go_wp2_with fail
      go_region_law
        (first
          | (refine step_append_own rfl (.tmp 90) (.tmp 92) 39 rfl w0.heap.size 44 j0 _ 4 96 Try.underlying39 hj0 hy0 hy1 hy2 rfl (by decide) ov st.length (lcells qs) (by simp [Act.eval, Act.put]) (HSt.out.row.alloc (w := wr.drew) _) ⟨wr.heap.size, 0, none⟩ 1 1 [.slice aa ka ca, .slice ab ka cb, .slice an i cn, .slice an2 i cn2] (by simp [Act.eval, Act.put]) rfl (cell_four_new wr.drew _ _ _ _ _) (by intro u hu; simp at hu; rcases hu with rfl | rfl | rfl | rfl <;> rfl) (by unfold maxLen; omega) (by omega) (by show _ ≤ (wr.drew.alloc _).heap.size; rw [size_alloc]; exact Nat.le_succ_of_le hwb) ?_
             intro v' w1 hown hgrow hnil hat
             obtain ⟨g', cap', hv'⟩ : ∃ g' cap', v' = .slice (some ⟨g', 0, none⟩) (st.length + 1) cap' := by
               rcases hown.2 with ⟨_, h5⟩ | ⟨g', cap', _, h5, _⟩
               · exact absurd h5 (Nat.succ_ne_zero _)
               · exact ⟨g', cap', h5⟩
             subst hv'
             have hgA : wr.grownBy w1 ov.ownBlock := grown_t (grown_b (row := ov.ownBlock) (belA (belD (Below.refl _ _)))) hgrow
             have HPU : Hid _ := HSt.out.push (st' := l :: st) (qs' := (.slice aa ka ca, .slice ab ka cb, .slice an i cn, .slice an2 i cn2) :: qs) (G := wr.heap.size + 1) hgA (by rw [lcells_cons]; exact hown) ⟨HL.out, HSt.out.lvs⟩ (hat.imp id (fun h => h.trans (congrArg some (size_alloc wr.drew _)))) (Nat.le_succ _)
             have hb1 := HSt.out.box.grown hgA (fun e => row_ne_box HSt.out.row HSt.out.box (by decide) e.symm)
             have hb2 := HLBr.out.grown hgA (fun e => Nat.lt_irrefl _ (HOV.out _ e.symm))
             have dL0 := hb2.cell 0 rfl
             have dL1 := hb2.cell 1 rfl
             have dL2 := hb2.cell 2 rfl
             have dL3 := hb2.cell 3 rfl
             have hne := Nat.ne_of_gt HML.out
             have eL0 := keep_set (b' := M) (o' := 0) (u := .slice (some ⟨g', 0, none⟩) (st.length + 1) cap') dL0 hne
             have eL1 := keep_set (b' := M) (o' := 0) (u := .slice (some ⟨g', 0, none⟩) (st.length + 1) cap') dL1 hne
             have eL2 := keep_set (b' := M) (o' := 0) (u := .slice (some ⟨g', 0, none⟩) (st.length + 1) cap') dL2 hne
             have eL3 := keep_set (b' := M) (o' := 0) (u := .slice (some ⟨g', 0, none⟩) (st.length + 1) cap') dL3 hne
             have dM0 := hb1.cell 0 rfl
             have fM0 := hb1.frozen 0
             clear hown hgrow hnil hat hgA hb1 hb2 hne))
      all_goals
        clear dL0 dL1 dL2 dL3 eL0 eL1 eL2 eL3 dM0 fM0 cM0 gM0 cM0a cL0 cL1 cL2 cL3
        go_wp2
        go_ret
        exact ⟨rfl, _, _, _, HPU.out.1⟩

end Go.Proofs.Ytooeapjlfmknfaa.Tr
