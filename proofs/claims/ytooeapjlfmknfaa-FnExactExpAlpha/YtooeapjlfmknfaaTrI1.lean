/-
  The program's names and their places: the last one, whether two stand for the same, whether two parts match, what is dropped.
-/
import Derived.Test.YtooeapjlfmknfaaTrMap
namespace Go.Proofs.Ytooeapjlfmknfaa.Tr
set_option maxRecDepth 100000
set_option linter.unusedVariables false
set_option linter.unusedSimpArgs false
open Go.RowKit Go.Deep
attribute [local go_sem ↓] Go.wp_at_zero Go.wp_at_succ

def lastI (l : List Nat) : Int := match l.getLast? with | some t => (t : Int) | none => -1

set_option maxHeartbeats 400000 in
theorem last_any (W : World) (base A n : Nat) (S : Nat → Prop) (L : ByteArray → List Nat) (h : MapIs W base A S n L) (hn : n < maxLen) (s : ByteArray) (hs : s.size ≤ maxLen) :
    Calls Try.prog 23 #[.map (some A), .string s] W fun e w' => e = .returned (.int .i64 (lastI (L s))) ∧ w' = W := by
  obtain ⟨v, hlook, hrow, _⟩ := h.look hn s hs
  have hl1 := hlook W rfl
  obtain ⟨l, hle⟩ : ∃ l, L s = l := ⟨_, rfl⟩
  rw [hle] at hrow ⊢
  have hl : l.length ≤ 9223372036854775807 := Nat.le_trans hrow.len (by decide)
  clear hlook h hle
  rcases hrow.shape with ⟨rfl, rfl⟩ | ⟨g, cap, rfl⟩
  · go_enter Try.func23, Try.ntmps23
    go_wp2
    go_ret
    exact ⟨rfl, rfl⟩
  · rcases Nat.eq_zero_or_pos l.length with h0 | h0
    · have hl0 : l = [] := List.length_eq_zero_iff.1 h0
      subst hl0
      simp only [List.length_nil] at hl1
      go_enter Try.func23, Try.ntmps23
      go_wp2
      go_ret
      exact ⟨rfl, rfl⟩
    · obtain ⟨k, hk⟩ : ∃ k, l.length = k + 1 := ⟨l.length - 1, by omega⟩
      have hc := hrow.cellAt rfl k (by omega)
      have HE : Hid (lastI l = ((l[k]'(by omega) : Nat) : Int)) := by
        have : l.getLast? = some (l[k]'(by omega)) := by
          rw [List.getLast?_eq_getElem?, show l.length - 1 = k by omega, List.getElem?_eq_getElem]
        show lastI l = _
        unfold lastI; rw [this]
      obtain ⟨x, hx⟩ : ∃ x, l[k]'(by omega) = x := ⟨_, rfl⟩
      rw [hx] at hc
      have HE2 : Hid (lastI l = (x : Int)) := by have := HE.out; rw [hx] at this; exact this
      rw [hk] at hl1 hl
      rw [HE2.out]
      clear hrow HE HE2 hx hk h0
      go_enter Try.func23, Try.ntmps23
      go_wp2
      go_ret
      exact ⟨rfl, rfl⟩

theorem lastI_lastA (env : TEnv) (a : BA) : lastI (timesOf (·.1) env a) = match lastA env a with | some t => (t : Int) | none => -1 := by
  unfold lastI; rw [lastA_of]

theorem lastI_lastB (env : TEnv) (a : BA) : lastI (timesOf (·.2) env a) = match lastB env a with | some t => (t : Int) | none => -1 := by
  unfold lastI; rw [lastB_of]

/-- What the places say, in numbers. -/

theorem placed_num (env : TEnv) (a b : BA) : placed env a b = (if lastI (timesOf (·.1) env a) < 0 ∧ lastI (timesOf (·.2) env b) < 0 then a == b else lastI (timesOf (·.1) env a) == lastI (timesOf (·.2) env b)) := by
  rw [lastI_lastA, lastI_lastB]
  unfold placed
  cases h1 : lastA env a <;> cases h2 : lastB env b <;> simp
  · omega
  · omega
  · rename_i x y
    rw [if_neg (by omega)]
    rw [Bool.eq_iff_iff, beq_iff_eq, beq_iff_eq]; omega

set_option maxHeartbeats 800000 in
theorem standForSame_any (W : World) (base M A B n : Nat) (SA SB : Nat → Prop) (env : TEnv) (ov pv : Value) (hM : boxAt W M #[ov, pv, .map (some A), .map (some B)] 41) (hA : MapIs W base A SA n (timesOf (·.1) env)) (hB : MapIs W base B SB n (timesOf (·.2) env)) (hn : n < maxLen) (a b : ByteArray) (ha : a.size ≤ maxLen) (hb : b.size ≤ maxLen) :
    Calls Try.prog 22 #[.pointer (some ⟨M, 0, none⟩), .string a, .string b] W fun e w' => e = .returned (.bool (placed env a b)) ∧ Below W.heap.size W w' := by
  have c2 := hM.cell 2 rfl
  have c3 := hM.cell 3 rfl
  have HA : Hid _ := hA
  have HB : Hid _ := hB
  have hpl := placed_num env a b
  rw [beq_toList] at hpl
  obtain ⟨R, hR⟩ : ∃ R, placed env a b = R := ⟨_, rfl⟩
  obtain ⟨x, hx⟩ : ∃ x, lastI (timesOf (·.1) env a) = x := ⟨_, rfl⟩
  obtain ⟨y, hy⟩ : ∃ y, lastI (timesOf (·.2) env b) = y := ⟨_, rfl⟩
  rw [hR, hx, hy] at hpl
  rw [hR]
  have HCA : Hid (∀ k, Calls Try.prog 23 #[.map (some A), .string a] (W.drewN k) fun e w' => e = .returned (.int .i64 x) ∧ w' = W.drewN k) := fun k => by
    rw [← hx]; exact last_any _ base A n SA _ (MapIs.below hA (bel_drewN (Below.refl _ _) _)) hn a ha
  have HCB : Hid (∀ k, Calls Try.prog 23 #[.map (some B), .string b] (W.drewN k) fun e w' => e = .returned (.int .i64 y) ∧ w' = W.drewN k) := fun k => by
    rw [← hy]; exact last_any _ base B n SB _ (MapIs.below hB (bel_drewN (Below.refl _ _) _)) hn b hb
  have HPL : Hid _ := hpl
  clear hM hA hB hx hy hpl hR HA HB ha hb
  go_enter Try.func22, Try.ntmps22
  go_wp2_with fail
  go_quiet (first
    | (go_at_call_of 23 (Value.map (some A)); exact Calls.quiet_of_same (HCA.out _))
    | (go_at_call_of 23 (Value.map (some B)); exact Calls.quiet_of_same (HCB.out _)))
  have HBD : Hid (Below W.heap.size W (W.drewN nq)) := bel_drewN (Below.refl _ _) _
  clear c2 c3 HCA HCB
  by_cases h1 : x < 0
  · by_cases h2 : y < 0
    · have e : Hid (R = (a.toList == b.toList)) := by have := HPL.out; rw [if_pos ⟨h1, h2⟩] at this; exact this
      clear HPL
      go_wp2
      go_ret
      rw [e.out]
      exact ⟨rfl, HBD.out⟩
    · have e : Hid (R = (x == y)) := by have := HPL.out; rw [if_neg (fun h => h2 h.2)] at this; exact this
      clear HPL
      go_wp2
      go_ret
      rw [e.out]
      exact ⟨rfl, HBD.out⟩
  · have e : Hid (R = (x == y)) := by have := HPL.out; rw [if_neg (fun h => h1 h.1)] at this; exact this
    clear HPL
    go_wp2
    go_ret
    rw [e.out]
    exact ⟨rfl, HBD.out⟩

/-- Whether two parts are the same but for names, their names and kids left out. -/
def mat (env : TEnv) (x y : T) : Bool := x.sort == y.sort && x.rest == y.rest && (if isNamed x.sort then placed env x.text y.text else x.text == y.text)

set_option maxHeartbeats 1600000 in
theorem matches_any (x y : T) (nv kv nv2 kv2 : Value) (W : World) (base M A B n : Nat) (SA SB : Nat → Prop) (env : TEnv) (ov pv : Value) (hM : boxAt W M #[ov, pv, .map (some A), .map (some B)] 41) (hA : MapIs W base A SA n (timesOf (·.1) env)) (hB : MapIs W base B SB n (timesOf (·.2) env)) (hn : n < maxLen) (ha : x.text.size ≤ maxLen) (hb : y.text.size ≤ maxLen)
    (hnv : ∃ ao l c, nv = .slice ao l c) (hkv : ∃ ao l c, kv = .slice ao l c) (hnv2 : ∃ ao l c, nv2 = .slice ao l c) (hkv2 : ∃ ao l c, kv2 = .slice ao l c) :
    Calls Try.prog 20 #[.pointer (some ⟨M, 0, none⟩), .agg #[.int .i64 x.sort, .string x.text, .bool x.rest, nv, kv], .agg #[.int .i64 y.sort, .string y.text, .bool y.rest, nv2, kv2]] W fun e w' => e = .returned (.bool (mat env x y)) ∧ Below W.heap.size W w' := by
  have HM : Hid (boxAt W M #[ov, pv, .map (some A), .map (some B)] 41) := hM
  have HA : Hid (MapIs W base A SA n (timesOf (·.1) env)) := hA
  have HB : Hid (MapIs W base B SB n (timesOf (·.2) env)) := hB
  obtain ⟨ao1, l1, c1, rfl⟩ := hnv
  obtain ⟨ao2, l2, c2, rfl⟩ := hkv
  obtain ⟨ao3, l3, c3, rfl⟩ := hnv2
  obtain ⟨ao4, l4, c4, rfl⟩ := hkv2
  obtain ⟨R, hR⟩ : ∃ R, mat env x y = R := ⟨_, rfl⟩
  have HR : Hid (R = (x.sort == y.sort && x.rest == y.rest && (if isNamed x.sort then placed env x.text y.text else x.text == y.text))) := hR.symm
  rw [hR]
  clear hM hA hB hR
  cases x with
  | mk s xx r ns ks =>
  cases y with
  | mk s2 yy r2 ns2 ks2 =>
  simp only [T.sort, T.text, T.rest] at *
  by_cases e1 : s = s2
  · subst e1
    by_cases e2 : r = r2
    · subst e2
      have HR1 : Hid (R = (if isNamed s then placed env xx yy else xx == yy)) := by have := HR.out; rw [beq_self_eq_true, beq_self_eq_true, Bool.true_and, Bool.true_and] at this; exact this
      clear HR
      have hcase : (s = 2 ∨ (¬ s = 2 ∧ s = 6) ∨ (¬ s = 2 ∧ ¬ s = 6 ∧ s = 9)) ∨ (¬ s = 2 ∧ ¬ s = 6 ∧ ¬ s = 9) := by omega
      rcases hcase with (rfl | ⟨m1, rfl⟩ | ⟨m1, m2, rfl⟩) | ⟨m1, m2, m3⟩
      rotate_left 3
      · have b2 : (s == 2) = false := by rw [beq_eq_false_iff_ne]; exact m1
        have b6 : (s == 6) = false := by rw [beq_eq_false_iff_ne]; exact m2
        have b9 : (s == 9) = false := by rw [beq_eq_false_iff_ne]; exact m3
        have HR2 : Hid (R = (xx.toList == yy.toList)) := by
          have := HR1.out
          rw [show isNamed s = false by unfold isNamed; rw [b2, b6, b9]; rfl, beq_toList] at this
          exact this
        clear HR1
        go_enter Try.func20, Try.ntmps20
        go_wp2
        go_ret
        rw [HR2.out]
        exact ⟨rfl, belA (belA (Below.refl _ _))⟩
      all_goals
        have HR2 : Hid (R = placed env xx yy) := HR1.out
        clear HR1
        go_enter Try.func20, Try.ntmps20
        go_wp2_with fail
        refine (standForSame_any _ base M A B n SA SB env ov pv ((HM.out.alloc _).alloc _) ((HA.out.alloc _).alloc _) ((HB.out.alloc _).alloc _) hn xx yy ha hb).mono ?_
        rintro e w1 ⟨rfl, hb1⟩
        have HB1 : Hid (Below W.heap.size W w1) := bel_go (belA (belA (Below.refl _ _))) hb1
        clear hb1
        rw [← HR2.out]
        go_wp2
        go_ret
        exact ⟨rfl, HB1.out⟩
    · have HR1 : Hid (R = false) := by
        have : (r == r2) = false := by rw [beq_eq_false_iff_ne]; exact e2
        show _ = _
        have h := HR.out
        rw [this] at h
        simpa using h
      clear HR
      cases r <;> cases r2 <;> first | exact absurd rfl e2 | skip
      all_goals
        go_enter Try.func20, Try.ntmps20
        go_wp2
        go_ret
        rw [HR1.out]
        exact ⟨rfl, belA (belA (Below.refl _ _))⟩
  · have t1 : (s == s2) = false := by rw [beq_eq_false_iff_ne]; exact e1
    have t2 : (s != s2) = true := by rw [bne, t1]; rfl
    have HR1 : Hid (R = false) := by show _ = _; have h := HR.out; rw [t1] at h; simpa using h
    clear HR
    go_enter Try.func20, Try.ntmps20
    go_wp2
    go_ret
    rw [HR1.out]
    exact ⟨rfl, belA (belA (Below.refl _ _))⟩

set_option maxHeartbeats 800000 in
theorem drop_any (f : BA × BA → BA) (pre env : TEnv) (ns : List ByteArray) (an : Option Addr) (k cn : Nat) (W : World) (base b0 A n : Nat) (S : Nat → Prop) (h : MapIs W base A S n (dropped f pre env ns)) (hpre : ns.reverse = pre.map (fun p => f p.2)) (hk : ns.length = k) (hk2 : k ≤ 16777216)
    (hS : Strs W b0 (.slice an k cn) ns) (hA : 0 < k → ∀ b o, an = some ⟨b, o, none⟩ → b ≠ A) (hn : n + k < maxLen) (hsz : ∀ j (h : j < ns.length), ns[j].size ≤ maxLen) :
    Calls Try.prog 19 #[.map (some A), .slice an k cn] W fun e w' => e = .returned (.tuple #[]) ∧ MapIs w' base A S (n + k) (timesOf f env) ∧ W.grownBy w' (some A) := by
  have H0 : Hid (MapIs W base A S n (dropped f pre env ns)) := h
  have HPRE : Hid (ns.reverse = pre.map (fun p => f p.2)) := hpre
  have HK : Hid (ns.length = k) := hk
  have HS : Hid (Strs W b0 (.slice an k cn) ns) := hS
  have HSZ : Hid (∀ j (h : j < ns.length), ns[j].size ≤ maxLen) := hsz
  have HNA : Hid (0 < k → ∀ b o, an = some ⟨b, o, none⟩ → b ≠ A) := hA
  clear h hpre hk hS hsz hA
  go_enter Try.func19, Try.ntmps19
  go_wp2_with fail
  go_loopw [8] (fun u wr => ∃ (i : Nat), u = .int .i64 i ∧ i ≤ k ∧ Hid (MapIs wr base A S (n + i) (dropped f pre env (ns.drop i))) ∧ Hid (W.grownBy wr (some A)))
    (fun u _ => (k : Int).toNat - (intOf u).toNat)
  case atStart => exact ⟨0, by go_num, Nat.zero_le _, by rw [List.drop_zero]; exact H0.out, World.grownBy.refl _ _⟩
  case round =>
    obtain ⟨i, rfl, hi, hm, hg⟩ := hrel
    by_cases hlt : i < k
    · have hil : i < ns.length := by rw [HK.out]; exact hlt
      obtain ⟨b, o, rfl, hbb, hc⟩ := Strs.at HS.out i hil
      have hbA : b ≠ A := HNA.out (by omega) b o rfl
      have hc' := hg.out.cell hc (by intro e; cases e; exact hbA rfl)
      obtain ⟨x, hx⟩ : ∃ x, ns[i] = x := ⟨_, rfl⟩
      have hxs := HSZ.out i hil
      rw [hx] at hc' hxs
      have hdr : ns.drop i = x :: ns.drop (i + 1) := by rw [List.drop_eq_getElem_cons hil, hx]
      have hcnt : (x :: ns.drop (i + 1)).count x ≤ (pre.map (fun p => f p.2)).count x := by
        rw [← HPRE.out, List.count_reverse, ← hdr]
        exact (List.drop_sublist i ns).count_le x
      have hm' := hm.out
      rw [hdr] at hm'
      obtain ⟨d1, d2⟩ := dropped_this f pre env x (ns.drop (i + 1)) hcnt
      obtain ⟨v, hlook, hrow, hback⟩ := hm'.look (by omega) x hxs
      have hl1 := hlook wr rfl
      obtain ⟨l, hl⟩ : ∃ l, dropped f pre env (x :: ns.drop (i + 1)) x = l := ⟨_, rfl⟩
      obtain ⟨m, hlm⟩ : ∃ m, l.length = m + 1 := ⟨_, by rw [← hl]; exact d1⟩
      rw [hl] at hrow d2
      have hlen : m + 1 ≤ 9223372036854775807 := by rw [← hlm]; exact Nat.le_trans hrow.len (by decide)
      obtain ⟨g, cap, rfl⟩ : ∃ g cap, v = .slice (some ⟨g, 0, none⟩) l.length cap := by
        rcases hrow.shape with ⟨_, h0⟩ | h0
        · rw [h0] at hlm; exact absurd hlm (by simp)
        · exact h0
      have hcap : m + 1 ≤ cap := by
        rcases hrow.1.2 with ⟨h0, _⟩ | ⟨_, _, _, h0, _, _, h1, _⟩
        · cases h0
        · cases h0; omega
      obtain ⟨w2, hrun, hmap2, hgr2⟩ := hback wr (.slice (some ⟨g, 0, none⟩) m cap) (l.take m) S (World.grownBy.refl _ _) (hrow.take m (by omega)) (fun _ h => h) (fun g hg => hm'.inS hg) (.inl rfl)
      have HM2 : Hid (MapIs w2 base A S (n + (i + 1)) (dropped f pre env (ns.drop (i + 1)))) := by
        refine MapIs.congr (by rw [← Nat.add_assoc]; exact hmap2) (fun t => ?_)
        unfold upd
        by_cases e : x = t
        · subst e; rw [if_pos rfl, d2, hlm]; rfl
        · rw [if_neg e]; exact dropped_other f pre env x _ t e
      have HG2 : Hid (W.grownBy w2 (some A)) := grown_t hg.out hgr2
      rw [hlm] at hl1
      have hlt2 : (i : Int) < (k : Int) := by omega
      clear hm hm' hg hc hx hdr hcnt d1 d2 hlook hrow hback hl hlm hmap2 hgr2 hxs
      go_wp2
      go_roundw
      case rel => exact ⟨i + 1, by go_num, by omega, HM2, HG2⟩
      case measure => simp [intOf] <;> omega
    · have hie : i = k := by omega
      subst hie
      have HR : Hid (MapIs wr base A S (n + i) (timesOf f env)) := by
        have := hm.out
        rw [List.drop_of_length_le (by rw [HK.out]; exact Nat.le_refl _)] at this
        exact this.congr (fun t => dropped_none f pre env t)
      clear hm
      go_wp2
      simp only [bodyPost]
      refine ⟨trivial, _, ?_, rfl, HR.out, hg.out⟩
      simp only [results, Try.results19]
      go_simp

end Go.Proofs.Ytooeapjlfmknfaa.Tr
