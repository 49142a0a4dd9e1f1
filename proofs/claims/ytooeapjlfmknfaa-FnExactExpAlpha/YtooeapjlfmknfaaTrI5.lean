/-
  The program's step: goOn.
-/
import Derived.Test.YtooeapjlfmknfaaTrI4
namespace Go.Proofs.Ytooeapjlfmknfaa.Tr
set_option maxRecDepth 100000
set_option linter.unusedVariables false
set_option linter.unusedSimpArgs false
open Go.RowKit Go.Deep
attribute [local go_sem ↓] Go.wp_at_zero Go.wp_at_succ

set_option maxHeartbeats 4000000 in
theorem goOn_pop (w0 W : World) (M A B : Nat) (SA SB : Nat → Prop) (ov : Value) (p n : Nat) (l : Lv) (st : List Lv) (aa : Option Addr) (ca : Nat) (ab : Option Addr) (cb : Nat) (an : Option Addr) (cn : Nat) (an2 : Option Addr) (cn2 kn : Nat) (qs : List (Value × Value × Value × Value)) (pre env : TEnv)
    (h : St w0 W M A B SA SB ov p n n (timesOf (·.1) (pre ++ env)) (timesOf (·.2) (pre ++ env)) (l :: st) ((.slice aa 0 ca, .slice ab 0 cb, .slice an kn cn, .slice an2 kn cn2) :: qs))
    (hpre : pre.map (·.2) = (l.na.zip l.nb).reverse) (e3 : l.na.length = kn) (e4 : l.nb.length = kn) (hs1 : ∀ j (h : j < l.na.length), l.na[j].size ≤ maxLen) (hs2 : ∀ j (h : j < l.nb.length), l.nb[j].size ≤ maxLen)
    (hn : n + kn ≤ 16777216) (hst : st.length ≤ 16777216) :
    Calls Try.prog 13 #[.pointer (some ⟨M, 0, none⟩)] W fun e w' => e = .returned (.bool true) ∧
      ∃ (ov' : Value), St w0 w' M A B SA SB ov' p (n + kn) (n + kn) (timesOf (·.1) env) (timesOf (·.2) env) st qs := by
  obtain ⟨g, cap, rfl, hcap⟩ := h.open_
  obtain ⟨c0, c1, c2, c3, cf⟩ := h.cells
  have hlv : LvAt w0 l (.slice aa 0 ca, .slice ab 0 cb, .slice an kn cn, .slice an2 kn cn2) := h.lvs.1
  have hz1 : (pre.map (fun q => q.2.1)) = l.na.reverse := by
    have := congrArg (List.map Prod.fst) hpre
    rw [List.map_map, List.map_reverse, List.map_fst_zip (by omega)] at this
    exact this
  have hz2 : (pre.map (fun q => q.2.2)) = l.nb.reverse := by
    have := congrArg (List.map Prod.snd) hpre
    rw [List.map_map, List.map_reverse, List.map_snd_zip (by omega)] at this
    exact this
  have HSt : Hid (St w0 W M A B SA SB (.slice (some ⟨g, 0, none⟩) (st.length + 1) cap) p n n (timesOf (·.1) (pre ++ env)) (timesOf (·.2) (pre ++ env)) (l :: st) ((.slice aa 0 ca, .slice ab 0 cb, .slice an kn cn, .slice an2 kn cn2) :: qs)) := h
  have HM0 := h.box.cell 0 rfl
  have HM2 := h.box.cell 2 rfl
  have HM3 := h.box.cell 3 rfl
  have hrow := h.row
  have hgA : g ≠ A := fun e => row_ne_map hrow h.mapA (by rw [← e]; rfl)
  have hgB : g ≠ B := fun e => row_ne_map hrow h.mapB (by rw [← e]; rfl)
  have hMA : M ≠ A := box_ne_map h.box h.mapA
  have hMB : M ≠ B := box_ne_map h.box h.mapB
  have hno : ∀ {X : Nat} {ax : Option Addr} {nx : List ByteArray} {cx : Nat}, Strs w0 0 (.slice ax kn cx) nx → nx.length = kn → w0.heap.size ≤ X → 0 < kn → ∀ b o, ax = some ⟨b, o, none⟩ → b ≠ X := by
    intro X ax nx cx h5 h6 h7 h8 b o hb
    obtain ⟨b2, o2, h9, _, h10⟩ := Strs.at h5 0 (by omega)
    have h11 := cell_lt h10
    rw [h9] at hb
    cases hb
    omega
  -- the first map
  have HDA : Hid (∀ W', Below W.heap.size W W' → Calls Try.prog 19 #[.map (some A), .slice an kn cn] W' fun e w' => e = .returned (.tuple #[]) ∧ MapIs w' w0.heap.size A SA (n + kn) (timesOf (·.1) env) ∧ W'.grownBy w' (some A)) := fun W' hb =>
    drop_any (·.1) pre env l.na an kn cn W' w0.heap.size 0 A n SA ((h.mapA.below hb).congr (fun t => (dropped_all (·.1) pre env l.na hz1.symm t).symm)) hz1.symm e3 (by omega) (Strs.on hlv.na (Stays.below (h.bel.trans (hb.mono h.bel.size)) 0)) (hno hlv.na e3 h.hA) (by unfold maxLen; omega) hs1
  have HDB : Hid (∀ W' w1, St w0 W' M A B SA SB (.slice (some ⟨g, 0, none⟩) (st.length + 1) cap) p (n + kn) n (timesOf (·.1) env) (timesOf (·.2) (pre ++ env)) (l :: st) ((.slice aa 0 ca, .slice ab 0 cb, .slice an kn cn, .slice an2 kn cn2) :: qs) → Below W'.heap.size W' w1 → Calls Try.prog 19 #[.map (some B), .slice an2 kn cn2] w1 fun e w' => e = .returned (.tuple #[]) ∧ MapIs w' w0.heap.size B SB (n + kn) (timesOf (·.2) env) ∧ w1.grownBy w' (some B)) := fun W' w1 h' hb =>
    drop_any (·.2) pre env l.nb an2 kn cn2 w1 w0.heap.size 0 B n SB ((h'.mapB.below hb).congr (fun t => (dropped_all (·.2) pre env l.nb hz2.symm t).symm)) hz2.symm e4 (by omega) (Strs.on hlv.nb (Stays.below (h'.bel.trans (hb.mono h'.bel.size)) 0)) (hno hlv.nb e4 h'.hB) (by unfold maxLen; omega) hs2
  have hgl : g < W.heap.size := (hrow.lt g rfl).2
  clear h hz1 hz2 hno hpre e3 e4 hs1 hs2 hlv hrow
  go_enter Try.func13, Try.ntmps13
  go_wp2_with fail
  go_quiet (fail)
  have HBD : Hid (Below W.heap.size W (W.drewN nq)) := bel_drewN (Below.refl _ _) _
  obtain ⟨X, hX⟩ : ∃ X, W.drewN nq = X := ⟨_, rfl⟩
  rw [hX] at HBD ⊢
  clear hX c0 c1 c2 c3 cf HM0 HM2 HM3
  have HSX : Hid (St w0 X M A B SA SB (.slice (some ⟨g, 0, none⟩) (st.length + 1) cap) p n n (timesOf (·.1) (pre ++ env)) (timesOf (·.2) (pre ++ env)) (l :: st) ((.slice aa 0 ca, .slice ab 0 cb, .slice an kn cn, .slice an2 kn cn2) :: qs)) := HSt.out.below HBD.out
  obtain ⟨c0, _, c2, _, _⟩ := HSX.out.cells
  have cM2 := HSX.out.box.cell 2 rfl
  go_wp2_with fail
  go_region_held3 (fun w' => w'.cell? ⟨M, 2, none⟩ = some (.map (some A)) ∧ w'.cell? ⟨g, st.length * 4 + 2, none⟩ = some (.slice an kn cn))
    ((repeat' apply And.intro) <;> first | (with_reducible assumption) | (go_keep; done))
    (first
      | (go_at_call 19
         refine (HDA.out X.drew (belD HBD.out)).mono ?_
         rintro e w1 ⟨rfl, hm1, hg1⟩
         have HS1 : Hid _ := (HSX.out.below (belD (Below.refl _ _))).onlyA hg1 hm1
         have dM2 := hg1.cell (a := ⟨M, 2, none⟩) cM2 (by intro e; cases e; exact hMA rfl)
         have dg2 := hg1.cell (a := ⟨g, st.length * 4 + 2, none⟩) c2 (by intro e; cases e; exact hgA rfl)
         clear hm1 hg1))
  have HS1' : Hid (St w0 w1 M A B SA SB (.slice (some ⟨g, 0, none⟩) (st.length + 1) cap) p (n + kn) n (timesOf (·.1) env) (timesOf (·.2) (pre ++ env)) (l :: st) ((.slice aa 0 ca, .slice ab 0 cb, .slice an kn cn, .slice an2 kn cn2) :: qs)) := HS1.out
  clear HS1 c0 c2 cM2 dM2 dg2
  obtain ⟨_, _, _, c3, _⟩ := HS1'.out.cells
  have cM3 := HS1'.out.box.cell 3 rfl
  go_wp2_with fail
  go_region_held3 (fun w' => w'.cell? ⟨M, 3, none⟩ = some (.map (some B)) ∧ w'.cell? ⟨g, st.length * 4 + 3, none⟩ = some (.slice an2 kn cn2))
    ((repeat' apply And.intro) <;> first | (with_reducible assumption) | (go_keep; done))
    (first
      | (go_at_call 19
         refine (HDB.out w1 w1.drew HS1'.out (belD (Below.refl _ _))).mono ?_
         rintro e w2 ⟨rfl, hm1, hg1⟩
         have HS2 : Hid _ := (HS1'.out.below (belD (Below.refl _ _))).onlyB hg1 hm1
         have dM3 := hg1.cell (a := ⟨M, 3, none⟩) cM3 (by intro e; cases e; exact hMB rfl)
         have dg3 := hg1.cell (a := ⟨g, st.length * 4 + 3, none⟩) c3 (by intro e; cases e; exact hgB rfl)
         clear hm1 hg1))
  have HS2' : Hid (St w0 w2 M A B SA SB (.slice (some ⟨g, 0, none⟩) (st.length + 1) cap) p (n + kn) (n + kn) (timesOf (·.1) env) (timesOf (·.2) env) (l :: st) ((.slice aa 0 ca, .slice ab 0 cb, .slice an kn cn, .slice an2 kn cn2) :: qs)) := HS2.out
  clear HS2 c3 cM3 dM3 dg3
  have cM0 := HS2'.out.box.cell 0 rfl
  have fM0 := HS2'.out.box.frozen 0
  obtain ⟨r1, r2⟩ := HS2'.out.short
  have HS3 : Hid (St w0 (w2.setCell ⟨M, 0, none⟩ (.slice (some ⟨g, 0, none⟩) st.length cap)).drew M A B SA SB (.slice (some ⟨g, 0, none⟩) st.length cap) p (n + kn) (n + kn) (timesOf (·.1) env) (timesOf (·.2) env) st qs) :=
    (HS2'.out.setBox (ov' := .slice (some ⟨g, 0, none⟩) st.length cap) 0 (.slice (some ⟨g, 0, none⟩) st.length cap) rfl r1 r2 (fun g' hg' => HS2'.out.sO g' hg')).below (belD (Below.refl _ _))
  have hcap2 : (st.length : Int) ≤ (cap : Int) := by omega
  have hcap3 : st.length ≤ cap := by omega
  have hw1 : IntKind.i64.wrap (st.length : Int) = (st.length : Int) := by rw [IntKind.wrap_i64]; omega
  have hw2 : (0 : Int) ≤ (st.length : Int) := by omega
  clear r1 r2
  go_wp2_with fail
  go_region_law (fail)
  all_goals
    go_wp2
    go_ret
    exact ⟨rfl, _, HS3.out⟩

theorem keep_alloc {W : World} {b o : Nat} {v : Value} {ob : Obj} (h : W.cell? ⟨b, o, none⟩ = some v) : (W.alloc ob).cell? ⟨b, o, none⟩ = some v := cell_on (belA (Below.refl _ _)) h

theorem keep_drew {W : World} {b o : Nat} {v : Value} (h : W.cell? ⟨b, o, none⟩ = some v) : W.drew.cell? ⟨b, o, none⟩ = some v := h

theorem wtN_get : ∀ (ns : List ByteArray) (j : Nat) (h : j < ns.length), ns[j].size ≤ wtN ns
  | n :: ns, 0, _ => by simp [wtN]; omega
  | n :: ns, j + 1, h => by have := wtN_get ns j (by simpa using h); simp [wtN]; omega

/-- What a further part leaves, where it matches. -/
def NxGood (w0 : World) (M A B p n : Nat) (x y : T) (xs ys : List T) (na nb : List BA) (st : List Lv) (qs : List (Value × Value × Value × Value)) (env : TEnv) (w' : World) : Prop :=
  ∃ (SA' SB' : Nat → Prop) (ov' : Value) (q1 q2 : Value × Value × Value × Value), St w0 w' M A B SA' SB' ov' (p + x.names.length) (n + x.names.length) (n + x.names.length) (timesOf (·.1) (bindN p (x.names.zip y.names) env)) (timesOf (·.2) (bindN p (x.names.zip y.names) env)) (⟨x.kids, y.kids, x.names, y.names⟩ :: ⟨xs, ys, na, nb⟩ :: st) (q1 :: q2 :: qs)
def NextPost (ok : Bool) (w0 : World) (Good : World → Prop) (e : Ending) (w' : World) : Prop :=
  (ok = true → e = .returned (.bool true) ∧ Good w') ∧ (ok = false → e = .returned (.bool false) ∧ Below w0.heap.size w0 w')

set_option maxHeartbeats 8000000 in
theorem goOn_next (w0 W : World) (M A B : Nat) (SA SB : Nat → Prop) (ov : Value) (p n : Nat) (x y : T) (xs ys : List T) (na nb : List BA) (st : List Lv) (aa : Option Addr) (ca k : Nat) (ab : Option Addr) (cb : Nat) (vna vnb : Value) (qs : List (Value × Value × Value × Value)) (env : TEnv)
    (h : St w0 W M A B SA SB ov p n n (timesOf (·.1) env) (timesOf (·.2) env) (⟨x :: xs, y :: ys, na, nb⟩ :: st) ((.slice aa (k + 1) ca, .slice ab (k + 1) cb, vna, vnb) :: qs))
    (e1 : xs.length = k) (e2 : ys.length = k) (hx : x.wt ≤ 1048576) (hy : y.wt ≤ 1048576) (hk : k ≤ 1048576)
    (hn : n + x.wt ≤ 16777216) (hp : p + x.wt ≤ 16777216) (henv : env.length + x.wt ≤ 16777216) (hst : st.length + 1 ≤ 16777216) (hca : k + 1 ≤ ca) (hcb : k + 1 ≤ cb) :
    Calls Try.prog 13 #[.pointer (some ⟨M, 0, none⟩)] W fun e w' =>
      NextPost (mat env x y && (x.kids.length == y.kids.length && x.names.length == y.names.length)) w0 (NxGood w0 M A B p n x y xs ys na nb st qs env) e w' := by
  obtain ⟨g, cap, rfl, hcap⟩ := h.open_
  obtain ⟨c0, c1, c2, c3, cf⟩ := h.cells
  have hlv : LvAt w0 ⟨x :: xs, y :: ys, na, nb⟩ (.slice aa (k + 1) ca, .slice ab (k + 1) cb, vna, vnb) := h.lvs.1
  obtain ⟨b, o, nv, kv, haa, _, d0, d1, d2, d3, d4, hat⟩ := hlv.a.at 0 (by simp)
  obtain ⟨b2, o2, nv2, kv2, hab, _, f0, f1, f2, f3, f4, hat2⟩ := hlv.b.at 0 (by simp)
  subst haa hab
  have hla := hlv.a.drop 1 (ca - 1) (by simp) (by simp; omega)
  have hlb := hlv.b.drop 1 (cb - 1) (by simp) (by simp; omega)
  simp only [List.drop_succ_cons, List.drop_zero, List.length_cons, Nat.add_sub_cancel, Nat.one_mul, Nat.zero_mul, Nat.add_zero, List.getElem_cons_zero] at hla hlb d0 d1 d2 d3 d4 f0 f1 f2 f3 f4 hat hat2
  rw [e1] at hla
  rw [e2] at hlb
  have hcut : ∀ {b o c : Nat} {ts : List T}, k + 1 ≤ c → ts.length = k → Lies w0 0 (.slice (some ⟨b, o + 5, none⟩) k (c - 1)) ts → Lies w0 0 (.slice (if c = 1 then some ⟨b, o, none⟩ else some ⟨b, o + 5, none⟩) k (c - 1)) ts := by
    intro b o c ts h1 h2 h3
    by_cases h4 : c = 1
    · have h5 : ts = [] := List.length_eq_zero_iff.1 (by omega)
      subst h5
      rw [← h2]
      exact lies_nil _ _ _ _
    · rw [if_neg h4]; exact h3
  have HNL : Hid (LvAt w0 ⟨xs, ys, na, nb⟩ (.slice (if ca = 1 then some ⟨b, o, none⟩ else some ⟨b, o + 5, none⟩) k (ca - 1), .slice (if cb = 1 then some ⟨b2, o2, none⟩ else some ⟨b2, o2 + 5, none⟩) k (cb - 1), vna, vnb)) := ⟨hcut hca e1 hla, hcut hcb e2 hlb, hlv.na, hlv.nb⟩
  have hk1 : (1 : Int) ≤ (k : Int) + 1 := by omega
  clear hcut
  obtain ⟨an, cn, rfl⟩ := hat.names.slice
  obtain ⟨ak, ck, rfl⟩ := hat.kids.slice
  obtain ⟨an2, cn2, rfl⟩ := hat2.names.slice
  obtain ⟨ak2, ck2, rfl⟩ := hat2.kids.slice
  have HAT : Hid (LiesAt w0 0 x (.slice an x.names.length cn) (.slice ak x.kids.length ck)) := hat
  have HAT2 : Hid (LiesAt w0 0 y (.slice an2 y.names.length cn2) (.slice ak2 y.kids.length ck2)) := hat2
  have HSt : Hid (St w0 W M A B SA SB (.slice (some ⟨g, 0, none⟩) (st.length + 1) cap) p n n (timesOf (·.1) env) (timesOf (·.2) env) (⟨x :: xs, y :: ys, na, nb⟩ :: st) ((.slice (some ⟨b, o, none⟩) (k + 1) ca, .slice (some ⟨b2, o2, none⟩) (k + 1) cb, vna, vnb) :: qs)) := h
  have HM0 := h.box.cell 0 rfl
  have HD : Hid (w0.cell? ⟨b, o, none⟩ = some (.int .i64 x.sort) ∧ w0.cell? ⟨b, o + 1, none⟩ = some (.string x.text) ∧ w0.cell? ⟨b, o + 2, none⟩ = some (.bool x.rest) ∧ w0.cell? ⟨b, o + 3, none⟩ = some (.slice an x.names.length cn) ∧ w0.cell? ⟨b, o + 4, none⟩ = some (.slice ak x.kids.length ck)) := ⟨d0, d1, d2, d3, d4⟩
  have HF : Hid (w0.cell? ⟨b2, o2, none⟩ = some (.int .i64 y.sort) ∧ w0.cell? ⟨b2, o2 + 1, none⟩ = some (.string y.text) ∧ w0.cell? ⟨b2, o2 + 2, none⟩ = some (.bool y.rest) ∧ w0.cell? ⟨b2, o2 + 3, none⟩ = some (.slice an2 y.names.length cn2) ∧ w0.cell? ⟨b2, o2 + 4, none⟩ = some (.slice ak2 y.kids.length ck2)) := ⟨f0, f1, f2, f3, f4⟩
  obtain ⟨nl, hnl⟩ : ∃ nl, x.names.length = nl := ⟨_, rfl⟩
  obtain ⟨nl2, hnl2⟩ : ∃ nl, y.names.length = nl := ⟨_, rfl⟩
  obtain ⟨kl, hkl⟩ : ∃ nl, x.kids.length = nl := ⟨_, rfl⟩
  obtain ⟨kl2, hkl2⟩ : ∃ nl, y.kids.length = nl := ⟨_, rfl⟩
  have HNL1 : Hid (x.names.length = nl) := hnl
  have HNL2 : Hid (y.names.length = nl2) := hnl2
  have HKL1 : Hid (x.kids.length = kl) := hkl
  have HKL2 : Hid (y.kids.length = kl2) := hkl2
  rw [hnl, hkl] at HAT HD
  rw [hnl2, hkl2] at HAT2 HF
  rw [hnl, hnl2, hkl, hkl2]
  have hwx := wt_eq x
  have hnx := wtN_len x.names
  have hkx := wts_len x.kids
  rw [hnl] at hnx
  have hnlb : nl ≤ x.wt := by omega
  have htx : x.text.size ≤ maxLen := by unfold maxLen; omega
  have hwy := wt_eq y
  have hty : y.text.size ≤ maxLen := by unfold maxLen; omega
  have HTX : Hid (x.text.size ≤ maxLen) := htx
  have HNS1 : Hid (∀ j (h : j < x.names.length), x.names[j].size ≤ maxLen) := fun j h => by have := wtN_get x.names j h; unfold maxLen; omega
  have HNS2 : Hid (∀ j (h : j < y.names.length), y.names[j].size ≤ maxLen) := fun j h => by have := wtN_get y.names j h; unfold maxLen; omega
  have HTY : Hid (y.text.size ≤ maxLen) := hty
  have hgA : g ≠ M := fun e => row_ne_box h.row h.box (by decide) (by rw [← e]; rfl)
  clear h c1 c2 c3 cf hlv d0 d1 d2 d3 d4 f0 f1 f2 f3 f4 hla hlb hat hat2 hnl hnl2 hkl hkl2 hwx hnx hkx htx hwy hty e1 e2
  go_enter Try.func13, Try.ntmps13
  go_wp2_with fail
  go_quiet (fail)
  have HBD : Hid (Below W.heap.size W (W.drewN nq)) := bel_drewN (Below.refl _ _) _
  go_wp2_with fail
  obtain ⟨X, hX⟩ : ∃ X, W.drewN nq = X := ⟨_, rfl⟩
  rw [hX] at HBD ⊢
  clear hX c0 HM0
  have HSX : Hid (St w0 X M A B SA SB (.slice (some ⟨g, 0, none⟩) (st.length + 1) cap) p n n (timesOf (·.1) env) (timesOf (·.2) env) (⟨x :: xs, y :: ys, na, nb⟩ :: st) ((.slice (some ⟨b, o, none⟩) (k + 1) ca, .slice (some ⟨b2, o2, none⟩) (k + 1) cb, vna, vnb) :: qs)) := HSt.out.below HBD.out
  obtain ⟨c0, c1, _, _, _⟩ := HSX.out.cells
  have hst0 := Stays.below HSX.out.bel 0
  have d0 := hst0.cell (Nat.zero_le _) HD.out.1
  have d1 := hst0.cell (Nat.zero_le _) HD.out.2.1
  have d2 := hst0.cell (Nat.zero_le _) HD.out.2.2.1
  have d3 := hst0.cell (Nat.zero_le _) HD.out.2.2.2.1
  have d4 := hst0.cell (Nat.zero_le _) HD.out.2.2.2.2
  have f0 := hst0.cell (Nat.zero_le _) HF.out.1
  have f1 := hst0.cell (Nat.zero_le _) HF.out.2.1
  have f2 := hst0.cell (Nat.zero_le _) HF.out.2.2.1
  have f3 := hst0.cell (Nat.zero_le _) HF.out.2.2.2.1
  have f4 := hst0.cell (Nat.zero_le _) HF.out.2.2.2.2
  clear hst0
  have c0' : X.cell? ⟨g, st.length * 4, none⟩ = some (.slice (some ⟨b, o, none⟩) (k + 1) ca) := c0
  have c1' : X.cell? ⟨g, st.length * 4 + 1, none⟩ = some (.slice (some ⟨b2, o2, none⟩) (k + 1) cb) := c1
  have hbX := cell_lt d0
  have hb2X := cell_lt f0
  have hgX := cell_lt c0'
  clear c0 c1
  go_wp2_with fail
  go_region_held3 (fun w' => (w'.cell? ⟨g, st.length * 4, none⟩ = some (.slice (some ⟨b, o, none⟩) (k + 1) ca) ∧ w'.cell? ⟨g, st.length * 4 + 1, none⟩ = some (.slice (some ⟨b2, o2, none⟩) (k + 1) cb)) ∧
      (w'.cell? ⟨b, o, none⟩ = some (.int .i64 x.sort) ∧ w'.cell? ⟨b, o + 1, none⟩ = some (.string x.text) ∧ w'.cell? ⟨b, o + 2, none⟩ = some (.bool x.rest) ∧ w'.cell? ⟨b, o + 3, none⟩ = some (.slice an nl cn) ∧ w'.cell? ⟨b, o + 4, none⟩ = some (.slice ak kl ck)) ∧
      (w'.cell? ⟨b2, o2, none⟩ = some (.int .i64 y.sort) ∧ w'.cell? ⟨b2, o2 + 1, none⟩ = some (.string y.text) ∧ w'.cell? ⟨b2, o2 + 2, none⟩ = some (.bool y.rest) ∧ w'.cell? ⟨b2, o2 + 3, none⟩ = some (.slice an2 nl2 cn2) ∧ w'.cell? ⟨b2, o2 + 4, none⟩ = some (.slice ak2 kl2 ck2)))
    (repeat' first | (with_reducible assumption) | (with_reducible refine And.intro ?_ ?_) | (with_reducible refine keep_set ?_ ?_) | (with_reducible refine keep_alloc ?_) | (with_reducible refine keep_drew ?_) | omega)
    (fail)
  all_goals
    first
      | (obtain ⟨V, hV, hBV, _, xb, yb⟩ := boxes2 X #[Value.int .i64 x.sort, Value.string x.text, Value.bool x.rest, Value.slice an nl cn, Value.slice ak kl ck] #[Value.int .i64 y.sort, Value.string y.text, Value.bool y.rest, Value.slice an2 nl2 cn2, Value.slice ak2 kl2 ck2] 35 35
         rw [← hV]
         obtain ⟨BY, hBY⟩ : ∃ BY, X.heap.size + 1 = BY := ⟨_, rfl⟩
         rw [hBY] at yb ⊢
         obtain ⟨BX, hBX⟩ : ∃ BX, X.heap.size = BX := ⟨_, rfl⟩
         rw [hBX] at xb ⊢
         clear hBY hBX)
      | (obtain ⟨V, hV, hBV, _, yb, xb⟩ := boxes2 X #[Value.int .i64 y.sort, Value.string y.text, Value.bool y.rest, Value.slice an2 nl2 cn2, Value.slice ak2 kl2 ck2] #[Value.int .i64 x.sort, Value.string x.text, Value.bool x.rest, Value.slice an nl cn, Value.slice ak kl ck] 35 35
         rw [← hV]
         obtain ⟨BX, hBX⟩ : ∃ BX, X.heap.size + 1 = BX := ⟨_, rfl⟩
         rw [hBX] at xb ⊢
         obtain ⟨BY, hBY⟩ : ∃ BY, X.heap.size = BY := ⟨_, rfl⟩
         rw [hBY] at yb ⊢
         clear hBY hBX)
    clear hV
    obtain ⟨U, hU⟩ : ∃ U, V.drew = U := ⟨_, rfl⟩
    have HSU : Hid (St w0 U M A B SA SB (.slice (some ⟨g, 0, none⟩) (st.length + 1) cap) p n n (timesOf (·.1) env) (timesOf (·.2) env) (⟨x :: xs, y :: ys, na, nb⟩ :: st) ((.slice (some ⟨b, o, none⟩) (k + 1) ca, .slice (some ⟨b2, o2, none⟩) (k + 1) cb, vna, vnb) :: qs)) := by rw [← hU]; exact HSX.out.below (belD hBV)
    have XB : Hid (boxAt U BX #[Value.int .i64 x.sort, Value.string x.text, Value.bool x.rest, Value.slice an nl cn, Value.slice ak kl ck] 35) := by rw [← hU]; exact xb
    have YB : Hid (boxAt U BY #[Value.int .i64 y.sort, Value.string y.text, Value.bool y.rest, Value.slice an2 nl2 cn2, Value.slice ak2 kl2 ck2] 35) := by rw [← hU]; exact yb
    rw [hU]
    clear hU xb yb hBV c0' c1' d0 d1 d2 d3 d4 f0 f1 f2 f3 f4 hbX hb2X hgX HSX
    obtain ⟨c0, c1, _, _, cf⟩ := HSU.out.cells
    have c0' : U.cell? ⟨g, st.length * 4, none⟩ = some (.slice (some ⟨b, o, none⟩) (k + 1) ca) := c0
    have c1' : U.cell? ⟨g, st.length * 4 + 1, none⟩ = some (.slice (some ⟨b2, o2, none⟩) (k + 1) cb) := c1
    have z0 := cf (st.length * 4)
    have z1 := cf (st.length * 4 + 1)
    clear c0 c1 cf
    go_wp2_with fail
    go_region_law (fail)
    all_goals
      obtain ⟨a1, ha1⟩ : ∃ a1, (if ca = 1 then (some ⟨b, o, none⟩ : Option Addr) else some ⟨b, o + 5, none⟩) = a1 := ⟨_, rfl⟩
      obtain ⟨b1, hb1⟩ : ∃ b1, (if cb = 1 then (some ⟨b2, o2, none⟩ : Option Addr) else some ⟨b2, o2 + 5, none⟩) = b1 := ⟨_, rfl⟩
      have hnl := HNL.out
      rw [ha1, hb1] at hnl ⊢
      have HNL' : Hid _ := hnl
      clear hnl ha1 hb1
      obtain ⟨h1, h2⟩ := HSU.out.next (l' := ⟨xs, ys, na, nb⟩) HNL'.out
      obtain ⟨Y, hY⟩ : ∃ Y, ((U.setCell ⟨g, st.length * 4, none⟩ (.slice a1 k (ca - 1))).setCell ⟨g, st.length * 4 + 1, none⟩ (.slice b1 k (cb - 1))).drew = Y := ⟨_, rfl⟩
      have h3 := h1.below (belD (Below.refl _ _))
      have h4 := (h2 _ _ _ XB.out (by decide)).drew
      have h5 := (h2 _ _ _ YB.out (by decide)).drew
      rw [hY] at h3 h4 h5 ⊢
      have HSY : Hid (St w0 Y M A B SA SB (.slice (some ⟨g, 0, none⟩) (st.length + 1) cap) p n n (timesOf (·.1) env) (timesOf (·.2) env) (⟨xs, ys, na, nb⟩ :: st) ((.slice a1 k (ca - 1), .slice b1 k (cb - 1), vna, vnb) :: qs)) := h3
      have YX : Hid (boxAt Y BX #[Value.int .i64 x.sort, Value.string x.text, Value.bool x.rest, Value.slice an nl cn, Value.slice ak kl ck] 35) := h4
      have YY : Hid (boxAt Y BY #[Value.int .i64 y.sort, Value.string y.text, Value.bool y.rest, Value.slice an2 nl2 cn2, Value.slice ak2 kl2 ck2] 35) := h5
      clear h1 h2 h3 h4 h5 hY c0' c1' z0 z1 HSU XB YB
      have x0 := YX.out.cell 0 rfl
      have x1 := YX.out.cell 1 rfl
      have x2 := YX.out.cell 2 rfl
      have x3 := YX.out.cell 3 rfl
      have x4 := YX.out.cell 4 rfl
      have y0 := YY.out.cell 0 rfl
      have y1 := YY.out.cell 1 rfl
      have y2 := YY.out.cell 2 rfl
      have y3 := YY.out.cell 3 rfl
      have y4 := YY.out.cell 4 rfl
      go_wp2_with fail
      refine (matches_any x y (.slice an nl cn) (.slice ak kl ck) (.slice an2 nl2 cn2) (.slice ak2 kl2 ck2) Y w0.heap.size M A B n SA SB env _ _ HSY.out.box HSY.out.mapA HSY.out.mapB (by unfold maxLen; omega) HTX.out HTY.out ⟨_, _, _, rfl⟩ ⟨_, _, _, rfl⟩ ⟨_, _, _, rfl⟩ ⟨_, _, _, rfl⟩).mono ?_
      rintro e w1 ⟨rfl, hb1⟩
      have HB1 : Hid (Below Y.heap.size Y w1) := hb1
      have HS1 : Hid _ := HSY.out.below hb1
      clear hb1 x0 x1 x2 x3 x4 y0 y1 y2 y3 y4
      cases hm : mat env x y
      · have HM : Hid _ := hm
        clear hm
        go_wp2
        go_ret
        exact ⟨fun h => absurd h (by rw [HM.out, Bool.false_and]; decide), fun _ => ⟨rfl, HS1.out.bel⟩⟩
      · have HM : Hid _ := hm
        clear hm
        have x3 := (YX.out.on HB1.out).cell 3 rfl
        have x4 := (YX.out.on HB1.out).cell 4 rfl
        have y3 := (YY.out.on HB1.out).cell 3 rfl
        have y4 := (YY.out.on HB1.out).cell 4 rfl
        go_wp2_with fail
        by_cases hlen : kl = kl2 ∧ nl = nl2
        · obtain ⟨ek, en⟩ := hlen
          subst ek en
          refine (within_any w0 w1 M A B SA SB _ p n _ _ env HS1.out ⟨x.kids, y.kids, x.names, y.names⟩ kl nl ak ck ak2 ck2 an cn an2 cn2 ⟨HAT.out.kids, HAT2.out.kids, HAT.out.names, HAT2.out.names⟩ HNL1.out HNL2.out HNS1.out HNS2.out (by omega) (by omega) (by omega) (by simp; omega)).mono ?_
          rintro e w2 ⟨rfl, SA', SB', ov', hst'⟩
          have HR : Hid _ := hst'
          clear hst' x3 x4 y3 y4
          go_wp2
          go_ret
          refine ⟨fun _ => ⟨rfl, ?_⟩, fun h => absurd h (by rw [HM.out]; simp)⟩
          unfold NxGood
          rw [HNL1.out]
          exact ⟨SA', SB', ov', _, _, HR.out⟩
        · have HLE : Hid (¬ (kl = kl2 ∧ nl = nl2)) := hlen
          refine (within_no w1 M ak kl ck ak2 kl2 ck2 an nl cn an2 nl2 cn2 hlen).mono ?_
          rintro e w2 ⟨rfl, hb2⟩
          have HB2 : Hid _ := HS1.out.bel.trans (hb2.mono HS1.out.bel.size)
          clear hb2 hlen x3 x4 y3 y4
          go_wp2
          go_ret
          refine ⟨fun h => absurd h ?_, fun _ => ⟨rfl, HB2.out⟩⟩
          have := HLE.out
          rw [HM.out, Bool.true_and, Bool.and_eq_true, beq_iff_eq, beq_iff_eq]
          exact this

end Go.Proofs.Ytooeapjlfmknfaa.Tr
