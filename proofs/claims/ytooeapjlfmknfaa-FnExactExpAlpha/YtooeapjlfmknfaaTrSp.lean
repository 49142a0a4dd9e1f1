/-
  The specification's way to tell whether two are the same but for names: pairs of names in a row.
-/
import Derived.Test.YtooeapjlfmknfaaTrB
import Derived.Deep.RegionLaw
import Derived.Maps.AppendAt
namespace Go.Proofs.Ytooeapjlfmknfaa.Tr
set_option maxRecDepth 100000
set_option linter.unusedVariables false
set_option linter.unusedSimpArgs false
open Go.RowKit Go.Deep
attribute [local go_sem ↓] Go.wp_at_zero Go.wp_at_succ

/-- append to a row of the call's own, as one step of a region that draws. -/

theorem step_append_own {P : Program} {ops : Array Oper} {o : Oper} {a : Act} {w : World} {K : Act → World → Prop} {Q : Exit → Act → World → Prop} {E : Prop}
    (hg : o.guard = none) (s x : Operand) (t : TypeId) (hop : o.op = Op.call { callee := Callee.builtin Builtin.append, args := #[s, x], argTypes := #[t, t] })
    (base : Nat) (e : TypeId) (i : TypeInfo) (z : Value) (size bytes : Nat) (h1 : P.underlying t = some (.slice e)) (h2 : P.info? e = some i) (h3 : i.zero = some z) (h4 : i.size = size) (h5 : i.bytes = bytes) (h6 : z.cells.size = size) (h7 : 0 < size)
    (v : Value) (n : Nat) (xs : List Value) (hs : a.eval s = v) (hown : w.ownsRow base e size v n xs)
    (ad : Addr) (m c : Nat) (news : List Value) (hx : a.eval x = .slice (some ad) m c) (hn : news.length = m * size) (hc : ∀ j u, news[j]? = some u → w.cell? (ad.add j) = some u) (h1c : ∀ u ∈ news, u.oneCell' = true)
    (b1 : n + m ≤ maxLen) (b2 : (n + m) * bytes ≤ 140737488355328) (hbase : base ≤ w.heap.size)
    (hK : ∀ v' w', w'.ownsRow base e size v' (n + m) (xs ++ news) → w.grownBy w' v.ownBlock → (v' = .slice none 0 0 ↔ v = .slice none 0 0 ∧ m = 0) → (v'.ownBlock = v.ownBlock ∨ v'.ownBlock = some w.heap.size) → K (a.put o.dst v') w') :
    if Region.wanted o (yielded ops a.tmps) = true then Oper.wp P o a w K Q else E := by
  have hw : Region.wanted o (yielded ops a.tmps) = true := by simp [Region.wanted, hg]
  rw [if_pos hw]
  obtain ⟨v', w', hr, r1, r2, r3, r4⟩ := run_append_own_at (P := P) w base t o.type e i z size bytes h1 h2 h3 h4 h5 h6 h7 v n xs hown ad m c news hn hc h1c b1 b2 hbase
  unfold Oper.wp execOp
  simp only [hop, resolve, invoke, builtin, Sem.run_bind, Sem.run_pure, Result.andThen_ok, List.map_toArray, List.map_cons, List.map_nil, hs, hx, hr]
  exact hK v' w' r1 r2 r3 r4

theorem infoPair : (Try.prog.info? 57).map (fun i => (i.zero, i.size, i.bytes)) = some (some (.agg #[.string ⟨#[]⟩, .string ⟨#[]⟩]), 2, 32) := by kernel_rfl

theorem cell_two_new (w : World) (x y : Value) (t : Nat) : ∀ j u, [x, y][j]? = some u → (w.alloc (.cells #[x, y] t)).cell? ((⟨w.heap.size, 0, none⟩ : Addr).add j) = some u := by
  intro j u hj
  match j, hj with
  | 0, hj =>
    simp at hj
    subst hj
    simp [Addr.add]
  | 1, hj =>
    simp at hj
    subst hj
    simp [Addr.add]

def pcells (ps : List (ByteArray × ByteArray)) : List Value := ps.flatMap (fun p => [.string p.1, .string p.2])

theorem pcells_length (ps : List (ByteArray × ByteArray)) : (pcells ps).length = ps.length * 2 := by
  unfold pcells
  induction ps with
  | nil => rfl
  | cons p ps ih => rw [List.flatMap_cons, List.length_append, ih]; simp; omega

theorem pcells_snoc (ps : List (ByteArray × ByteArray)) (p : ByteArray × ByteArray) : pcells (ps ++ [p]) = pcells ps ++ [.string p.1, .string p.2] := by
  unfold pcells; simp [List.flatMap_append]

theorem pcells_one (ps : List (ByteArray × ByteArray)) : ∀ u ∈ pcells ps, u.oneCell' = true := by
  intro u hu
  unfold pcells at hu
  obtain ⟨p, _, hp⟩ := List.mem_flatMap.1 hu
  simp at hp
  rcases hp with rfl | rfl <;> rfl

theorem pcells_get (ps : List (ByteArray × ByteArray)) (k : Nat) (h : k < ps.length) : (pcells ps)[k * 2]? = some (.string ps[k].1) ∧ (pcells ps)[k * 2 + 1]? = some (.string ps[k].2) := by
  induction ps generalizing k with
  | nil => exact absurd h (Nat.not_lt_zero _)
  | cons p ps ih =>
    cases k with
    | zero => exact ⟨rfl, rfl⟩
    | succ k =>
      have := ih k (by simpa using h)
      rw [show (k + 1) * 2 = k * 2 + 2 by omega]
      exact this

/-- Pairs of names in a row, the innermost last. -/
def PairsAt (w : World) (base : Nat) (v : Value) (ps : List (ByteArray × ByteArray)) : Prop :=
  (∃ g cap, v = .slice (some ⟨g, 0, none⟩) ps.length cap) ∧ w.ownsRow base 57 2 v ps.length (pcells ps)

theorem PairsAt.shape {w : World} {base : Nat} {v : Value} {ps : List (ByteArray × ByteArray)} (h : PairsAt w base v ps) : ∃ g cap, v = .slice (some ⟨g, 0, none⟩) ps.length cap := h.1

theorem PairsAt.on {w w' : World} {base : Nat} {v : Value} {ps : List (ByteArray × ByteArray)} (h : PairsAt w base v ps) (hs : Stays base w w') : PairsAt w' base v ps := by
  refine ⟨h.1, h.2.1, ?_⟩
  rcases h.2.2 with h1 | ⟨g, cap, cur, h1, h2, h3, h4⟩
  · exact .inl h1
  · exact .inr ⟨g, cap, cur, h1, h2, (hs g h2 (Array.getElem?_eq_some_iff.1 h3).1).trans h3, h4⟩

theorem PairsAt.mono {w : World} {base base' : Nat} {v : Value} {ps : List (ByteArray × ByteArray)} (h : PairsAt w base v ps) (hb : base' ≤ base) : PairsAt w base' v ps := by
  refine ⟨h.1, h.2.1, ?_⟩
  rcases h.2.2 with h1 | ⟨g, cap, cur, h1, h2, h3⟩
  · exact .inl h1
  · exact .inr ⟨g, cap, cur, h1, Nat.le_trans hb h2, h3⟩

theorem PairsAt.cell {w : World} {base g len cap : Nat} {ps : List (ByteArray × ByteArray)} (h : PairsAt w base (.slice (some ⟨g, 0, none⟩) len cap) ps) (k : Nat) (hk : k < ps.length) :
    w.cell? ⟨g, k * 2, none⟩ = some (.string ps[k].1) ∧ w.cell? ⟨g, k * 2 + 1, none⟩ = some (.string ps[k].2) := by
  obtain ⟨⟨g', cap', e⟩, h2⟩ := h
  cases e
  have e := pcells_get ps k hk
  exact ⟨(h2.cellAt (k * 2) (by omega)).trans e.1, (h2.cellAt (k * 2 + 1) (by omega)).trans e.2⟩

theorem pairs_nil (w : World) (base : Nat) (hb : base ≤ w.heap.size) : PairsAt (w.alloc (.cells #[] 57)) base (.slice (some ⟨w.heap.size, 0, none⟩) 0 0) [] :=
  ⟨⟨_, _, rfl⟩, World.ownsRow_made w #[] 0 hb (by unfold maxLen; omega) rfl⟩

theorem beq_toList (x a : ByteArray) : (x == a) = (x.toList == a.toList) := by
  have hlaw := lawfulBA
  rw [Bool.eq_iff_iff, beq_iff_eq, beq_iff_eq]
  constructor
  · intro h; rw [h]
  · intro h
    rw [ByteArray.toList_eq, ByteArray.toList_eq] at h
    cases x; cases a
    exact congrArg ByteArray.mk (Array.toList_inj.1 h)

set_option maxHeartbeats 400000 in
theorem l11Name_any (ps : List (ByteArray × ByteArray)) (v : Value) (a b : ByteArray) (w : World) (base : Nat) (hP : PairsAt w base v ps) (hl : ps.length ≤ 4194304) :
    Calls Try.prog 16 #[v, .string a, .string b] w fun e w' => e = .returned (.bool (nameR ps.reverse a b)) ∧ w' = w := by
  obtain ⟨g, cap, rfl⟩ := hP.shape
  have HP : Hid (PairsAt w base (.slice (some ⟨g, 0, none⟩) ps.length cap) ps) := hP
  obtain ⟨R, hR⟩ : ∃ R, R = nameR ps.reverse a b := ⟨_, rfl⟩
  have HR : Hid (R = nameR ps.reverse a b) := hR
  rw [← hR]
  clear hP hR
  go_enter Try.func16, Try.ntmps16
  go_wp2_with fail
  go_loopw [7] (fun u wr => ∃ (k : Nat), u = .int .i64 ((k : Int) - 1) ∧ k ≤ ps.length ∧ Hid (R = nameR (ps.take k).reverse a b) ∧ wr = w)
    (fun u _ => (intOf u + 1).toNat)
  case atStart => exact ⟨ps.length, by go_num, Nat.le_refl _, by rw [List.take_length]; exact HR.out, rfl⟩
  case round =>
    obtain ⟨k, rfl, hk, hv, rfl⟩ := hrel
    by_cases h0 : 0 < k
    · obtain ⟨j, rfl⟩ : ∃ j, k = j + 1 := ⟨k - 1, by omega⟩
      obtain ⟨c0, c1⟩ := PairsAt.cell HP.out j hk
      obtain ⟨x, hx⟩ : ∃ x, ps[j].1 = x := ⟨_, rfl⟩
      obtain ⟨y, hy⟩ : ∃ y, ps[j].2 = y := ⟨_, rfl⟩
      have hv2 : R = if x == a || y == b then x == a && y == b else nameR (ps.take j).reverse a b := by
        have := hv.out
        rw [List.take_succ_eq_append_getElem hk, List.reverse_append] at this
        rw [this]
        show nameR (ps[j] :: (ps.take j).reverse) a b = _
        rw [show ps[j] = (x, y) from Prod.ext hx hy, nameR]
      rw [beq_toList x a, beq_toList y b] at hv2
      rw [hx] at c0
      rw [hy] at c1
      have hj1 : ((j + 1 : Nat) : Int) - 1 = (j : Int) := by omega
      have hj2 : (0 : Int) ≤ (j : Int) := by omega
      have hj3 : (j : Int) < (ps.length : Int) := by omega
      rw [hj1]
      clear hv hx hy
      cases ha : x.toList == a.toList
      · cases hb : y.toList == b.toList
        · have hv3 : Hid (R = nameR (ps.take j).reverse a b) := by rw [ha, hb] at hv2; exact hv2
          clear hv2
          go_wp2
          go_roundw
          case rel => exact ⟨j, by first | rfl | go_num, by omega, hv3, by first | rfl | trivial⟩
          case measure => simp [intOf] <;> omega
        · have e : Hid (R = false) := by rw [ha, hb] at hv2; exact hv2
          clear hv2
          go_wp2
          go_ret
          rw [e.out]
          exact ⟨rfl, rfl⟩
      · have e : Hid (R = (y.toList == b.toList)) := by show _ = _; rw [ha] at hv2; simpa using hv2
        clear hv2
        go_wp2
        go_ret
        rw [e.out]
        exact ⟨rfl, rfl⟩
    · have hke : k = 0 := by omega
      subst hke
      have e : Hid (R = (a.toList == b.toList)) := by have := hv.out; rw [List.take_zero, List.reverse_nil, nameR, beq_toList] at this; exact this
      clear hv
      go_wp2
      go_ret
      rw [e.out]
      exact ⟨rfl, rfl⟩

set_option maxHeartbeats 800000 in
theorem l11Bound_any (ps : List (ByteArray × ByteArray)) (v : Value) (n : Nat) (ns : List ByteArray) (an : Option Addr) (cn : Nat) (ns2 : List ByteArray) (an2 : Option Addr) (cn2 : Nat) (w : World) (base base1 base2 : Nat) (hP : PairsAt w base v ps)
    (hn : ns.length = n) (hn2 : ns2.length = n) (hS : Strs w base1 (.slice an n cn) ns) (hS2 : Strs w base2 (.slice an2 n cn2) ns2) (hl : ps.length + n ≤ 4194304) :
    Calls Try.prog 17 #[v, .slice an n cn, .slice an2 n cn2] w fun e w' => (∃ v', e = .returned v' ∧ PairsAt w' w.heap.size v' (ps ++ ns.zip ns2)) ∧ Below w.heap.size w w' := by
  obtain ⟨g, cap, rfl⟩ := hP.shape
  have HP : Hid (PairsAt w base (.slice (some ⟨g, 0, none⟩) ps.length cap) ps) := hP
  have HS : Hid (Strs w base1 (.slice an n cn) ns) := hS
  have HS2 : Hid (Strs w base2 (.slice an2 n cn2) ns2) := hS2
  have HN : Hid (ns.length = n) := hn
  have HN2 : Hid (ns2.length = n) := hn2
  obtain ⟨i0, hi0, hz0, hz1, hz2⟩ := info_parts infoPair
  have hp2 := pcells_length ps
  obtain ⟨ZL, hZL⟩ : ∃ ZL, ZL = ns.zip ns2 := ⟨_, rfl⟩
  have HZ : Hid (ZL = ns.zip ns2) := hZL
  have HZN : Hid (ZL.length = n) := by show _ = _; rw [hZL, List.length_zip, HN.out, HN2.out, Nat.min_self]
  rw [← hZL]
  clear hP hS hS2 hn hn2 hZL
  go_enter Try.func17, Try.ntmps17
  go_wp2_with (at_builtin; refine wpList_append_own_at (w.alloc (.cells #[] 57)) rfl _ _ 33 rfl w.heap.size 57 i0 _ 2 32 Try.underlying33 hi0 hz0 hz1 hz2 rfl (by decide) _ 0 [] rfl (pairs_nil w w.heap.size (Nat.le_refl _)).2 ⟨g, 0, none⟩ ps.length cap (pcells ps) rfl hp2 ((PairsAt.on HP.out (Stays.alloc _)).2.cells rfl) (pcells_one ps) (by unfold maxLen; omega) (by omega) (by rw [size_alloc]; omega) ?_)
  intro v1 w1 hown hgrow hnil hat
  have HP1 : Hid (PairsAt w1 w.heap.size v1 ps) := by
    have hown' : w1.ownsRow w.heap.size 57 2 v1 ps.length (pcells ps) := by simpa using hown
    refine ⟨?_, hown'⟩
    rcases hown'.2 with ⟨h1, _⟩ | ⟨g', cap', cur, h1, _⟩
    · exact absurd h1 hnil
    · exact ⟨g', cap', h1⟩
  have HB1 : Hid (Below w.heap.size w w1) := grown_bel (belA (Below.refl _ _)) hgrow (Nat.le_refl _) (Nat.le_refl _)
  clear hown hgrow hnil hat
  go_wp2_with fail
  go_loopw [7, 8] (fun u q wr => ∃ (i : Nat) (vv : Value), vv = u ∧ q = .int .i64 i ∧ i ≤ n ∧ Hid (PairsAt wr w.heap.size vv (ps ++ ZL.take i)) ∧ Below w.heap.size w wr)
    (fun _ q _ => (n : Int).toNat - (intOf q).toNat)
  case atStart => exact ⟨0, _, rfl, by go_num, Nat.zero_le _, by rw [List.take_zero, List.append_nil]; exact HP1.out, HB1.out⟩
  case round =>
    obtain ⟨i, vv, rfl, rfl, hi, hv, hb⟩ := hrel
    have HB : Hid _ := hb
    clear hb
    by_cases hlt : i < n
    · obtain ⟨b, o, rfl, hbb, hc⟩ := Strs.at (Strs.on HS.out (Stays.below HB.out base1)) i (by rw [HN.out]; exact hlt)
      obtain ⟨b2, o2, rfl, hbb2, hc2⟩ := Strs.at (Strs.on HS2.out (Stays.below HB.out base2)) i (by rw [HN2.out]; exact hlt)
      obtain ⟨x, hx⟩ : ∃ x, ns[i]'(by rw [HN.out]; exact hlt) = x := ⟨_, rfl⟩
      obtain ⟨y, hy⟩ : ∃ y, ns2[i]'(by rw [HN2.out]; exact hlt) = y := ⟨_, rfl⟩
      rw [hx] at hc
      rw [hy] at hc2
      have HT : Hid (ZL.take (i + 1) = ZL.take i ++ [(x, y)]) := by
        show _ = _
        rw [List.take_succ_eq_append_getElem (by rw [HZN.out]; exact hlt)]
        congr 2
        have := HZ.out
        subst this
        rw [List.getElem_zip, hx, hy]
      have hlt2 : (i : Int) < (n : Int) := by omega
      have HO : Hid (wr.ownsRow w.heap.size 57 2 vv (ps ++ ZL.take i).length (pcells (ps ++ ZL.take i))) := hv.out.2
      have hlen : (ps ++ ZL.take i).length = ps.length + i := by rw [List.length_append, List.length_take, HZN.out, Nat.min_eq_left (by omega)]
      obtain ⟨LL, hLL⟩ : ∃ LL, (ps ++ ZL.take i).length = LL := ⟨_, rfl⟩
      have HLL : Hid ((ps ++ ZL.take i).length = LL) := hLL
      have hLb : LL ≤ 4194304 := by omega
      rw [hLL] at HO
      clear hx hy hlen hLL
      have i0' := hi0
      go_wp2_with fail
      go_region_law (refine step_append_own rfl (.tmp 24) (.tmp 34) 33 rfl w.heap.size 57 i0 _ 2 32 Try.underlying33 hi0 hz0 hz1 hz2 rfl (by decide) vv LL (pcells (ps ++ ZL.take i)) (by simp [Act.eval, Act.put]) (HO.out.alloc _) ⟨wr.heap.size, 0, none⟩ 1 1 [.string x, .string y] (by simp [Act.eval, Act.put]) rfl (cell_two_new wr.drew _ _ _) (by intro u hu; simp at hu; rcases hu with rfl | rfl <;> rfl) (by unfold maxLen; omega) (by omega) (by show _ ≤ (wr.drew.alloc _).heap.size; rw [size_alloc]; exact Nat.le_succ_of_le HB.out.size) ?_; intro v' w' hown hgrow hnil2 hat2)
      all_goals
        have hb2 : Below w.heap.size w w' := (belA (belD HB.out)).grown hgrow (by show _ ≤ (wr.drew.alloc _).heap.size; rw [size_alloc]; exact Nat.le_succ_of_le HB.out.size) (fun k hk => (HO.out.lt k hk).1)
        have HB2 : Hid (Below w.heap.size w w') := hb2
        have HP2 : Hid (PairsAt w' w.heap.size v' (ps ++ ZL.take (i + 1))) := by
          have hlen2 : (ps ++ ZL.take (i + 1)).length = LL + 1 := by rw [HT.out, ← List.append_assoc, List.length_append, HLL.out]; rfl
          have hown' : w'.ownsRow w.heap.size 57 2 v' (ps ++ ZL.take (i + 1)).length (pcells (ps ++ ZL.take (i + 1))) := by
            rw [hlen2, HT.out, ← List.append_assoc, pcells_snoc]; exact hown
          refine ⟨?_, hown'⟩
          rcases hown'.2 with ⟨_, h1⟩ | ⟨g', cap', cur, h1, _⟩
          · rw [hlen2] at h1; exact absurd h1 (by omega)
          · exact ⟨g', cap', h1⟩
        clear hown hgrow hnil2 hat2 hb2
        go_wp2
        go_roundw
        case rel => exact ⟨i + 1, v', rfl, by go_num, by omega, HP2.out, HB2.out⟩
        case measure => simp [intOf] <;> omega
    · have hie : i = n := by omega
      subst hie
      have HR : Hid (PairsAt wr w.heap.size vv (ps ++ ZL)) := by have := hv.out; rw [List.take_of_length_le (by rw [HZN.out]; exact Nat.le_refl _)] at this; exact this
      clear hv
      go_wp2
      go_ret
      exact ⟨⟨_, rfl, HR.out⟩, HB.out⟩

end Go.Proofs.Ytooeapjlfmknfaa.Tr
