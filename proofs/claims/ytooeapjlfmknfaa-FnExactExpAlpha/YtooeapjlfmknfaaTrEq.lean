/-
  Whether two lists of parts are the same: the laws' own, where they are.
-/
import Derived.Test.YtooeapjlfmknfaaTrB
namespace Go.Proofs.Ytooeapjlfmknfaa.Tr
set_option maxRecDepth 100000
set_option linter.unusedVariables false
set_option linter.unusedSimpArgs false
open Go.RowKit Go.Deep
attribute [local go_sem ↓] Go.wp_at_zero Go.wp_at_succ

set_option maxHeartbeats 400000 in
theorem eqStringS_any (ns : List ByteArray) (ao : Option Addr) (cap : Nat) (ao2 : Option Addr) (cap2 : Nat) (w : World) (base base2 : Nat) (hS : Strs w base (.slice ao ns.length cap) ns) (hS2 : Strs w base2 (.slice ao2 ns.length cap2) ns) (hl : ns.length ≤ 1048576) :
    Calls Try.prog 21 #[.slice ao ns.length cap, .slice ao2 ns.length cap2] w fun e w' => e = .returned (.bool true) ∧ Below w.heap.size w w' := by
  have HS : Hid (Strs w base (.slice ao ns.length cap) ns) := hS
  have HS2 : Hid (Strs w base2 (.slice ao2 ns.length cap2) ns) := hS2
  clear hS hS2
  go_enter Try.func21, Try.ntmps21
  go_wp2_with fail
  go_loopw [5] (fun b wr => ∃ (i : Nat), b = .int .i64 i ∧ i ≤ ns.length ∧ Below w.heap.size w wr)
    (fun b _ => (ns.length : Int).toNat - (intOf b).toNat)
  case atStart => exact ⟨0, by go_num, Nat.zero_le _, Below.refl _ _⟩
  case round =>
    obtain ⟨i, rfl, hi, hb⟩ := hrel
    have HB : Hid _ := hb
    clear hb
    by_cases hlt : i < ns.length
    · obtain ⟨b, o, rfl, hbb, hc⟩ := Strs.at (Strs.on HS.out (Stays.below HB.out base)) i hlt
      obtain ⟨b2, o2, rfl, hbb2, hc2⟩ := Strs.at (Strs.on HS2.out (Stays.below HB.out base2)) i hlt
      obtain ⟨x, hxx⟩ : ∃ x, ns[i] = x := ⟨_, rfl⟩
      rw [hxx] at hc hc2
      have hlt2 : (i : Int) < (ns.length : Int) := by omega
      clear hxx
      go_wp2_with fail
      go_quiet (fail)
      have HB2 : Hid (Below w.heap.size w (wr.drewN nq)) := bel_drewN HB.out _
      go_wp2
      go_roundw
      case rel => exact ⟨i + 1, by go_num, by omega, HB2.out⟩
      case measure => simp [intOf]; omega
    · have hie : i = ns.length := by omega
      subst hie
      go_wp2
      go_ret
      exact ⟨rfl, HB.out⟩

/-- What is asked of the comparison of two lists of parts. -/
def EqOk (ts : List T) : Prop := ∀ (ao : Option Addr) (cap : Nat) (ao2 : Option Addr) (cap2 : Nat) (w : World) (base base2 : Nat), Lies w base (.slice ao ts.length cap) ts → Lies w base2 (.slice ao2 ts.length cap2) ts → wts ts ≤ 1048576 →
    Calls Try.prog 8 #[.slice ao ts.length cap, .slice ao2 ts.length cap2] w fun e w' => e = .returned (.bool true) ∧ Below w.heap.size w w'

set_option maxHeartbeats 1600000 in
theorem eqExpCore_any (s : Int) (x : ByteArray) (r : Bool) (ns : List ByteArray) (ks : List T) (an : Option Addr) (cn : Nat) (ak : Option Addr) (ck : Nat) (an2 : Option Addr) (cn2 : Nat) (ak2 : Option Addr) (ck2 : Nat) (w : World) (base base2 : Nat)
    (hN : Strs w base (.slice an ns.length cn) ns) (hK : Lies w base (.slice ak ks.length ck) ks) (hN2 : Strs w base2 (.slice an2 ns.length cn2) ns) (hK2 : Lies w base2 (.slice ak2 ks.length ck2) ks) (hn : wtN ns ≤ 1048576) (hk : wts ks ≤ 1048576) (ih : EqOk ks) :
    Calls Try.prog 14 #[.agg #[.int .i64 s, .string x, .bool r, .slice an ns.length cn, .slice ak ks.length ck], .agg #[.int .i64 s, .string x, .bool r, .slice an2 ns.length cn2, .slice ak2 ks.length ck2]] w fun e w' => e = .returned (.bool true) ∧ Below w.heap.size w w' := by
  have HN : Hid (Strs w base (.slice an ns.length cn) ns) := hN
  have HK : Hid (Lies w base (.slice ak ks.length ck) ks) := hK
  have HN2 : Hid (Strs w base2 (.slice an2 ns.length cn2) ns) := hN2
  have HK2 : Hid (Lies w base2 (.slice ak2 ks.length ck2) ks) := hK2
  have IH : Hid (EqOk ks) := ih
  have hlen := wtN_len ns
  clear hN hK hN2 hK2 ih
  go_enter Try.func14, Try.ntmps14
  go_wp2_with fail
  obtain ⟨V, hV, hBV, hsz, x0, x1⟩ := boxes2 w #[Value.int .i64 s, Value.string x, Value.bool r, Value.slice an ns.length cn, Value.slice ak ks.length ck] #[Value.int .i64 s, Value.string x, Value.bool r, Value.slice an2 ns.length cn2, Value.slice ak2 ks.length ck2] 35 35
  rw [← hV]
  have HBV : Hid (Below w.heap.size w V) := hBV
  have X0 : Hid (boxAt V _ _ _) := x0
  have X1 : Hid (boxAt V _ _ _) := x1
  clear hV hBV x0 x1 hsz
  refine (eqStringS_any ns an cn an2 cn2 _ base base2 (Strs.on HN.out (Stays.below HBV.out base)) (Strs.on HN2.out (Stays.below HBV.out base2)) (by omega)).mono ?_
  rintro e w1 ⟨rfl, hb1⟩
  have HB1 : Hid (Below w.heap.size w w1) := bel_go HBV.out hb1
  have Y0 : Hid (boxAt w1 _ _ _) := X0.out.on hb1
  have Y1 : Hid (boxAt w1 _ _ _) := X1.out.on hb1
  clear hb1 X0 X1 HBV
  have k0 := Y0.out.cell 4 rfl
  have k1 := Y1.out.cell 4 rfl
  go_wp2_with fail
  refine (IH.out ak ck ak2 ck2 _ base base2 (Lies.on HK.out (Stays.below HB1.out base)) (Lies.on HK2.out (Stays.below HB1.out base2)) hk).mono ?_
  rintro e w2 ⟨rfl, hb2⟩
  have HB2 : Hid (Below w.heap.size w w2) := bel_go HB1.out hb2
  clear hb2 k0 k1
  go_wp2
  go_ret
  exact ⟨rfl, HB2.out⟩

set_option maxHeartbeats 1600000 in
theorem eqExpCoreS_any : ∀ (n : Nat) (ts : List T), wts ts < n → EqOk ts := by
  intro n
  induction n with
  | zero => intro ts h; exact absurd h (Nat.not_lt_zero _)
  | succ n ihn =>
    intro ts hts ao cap ao2 cap2 w base base2 hL hL2 hw
    have HL : Hid (Lies w base (.slice ao ts.length cap) ts) := hL
    have HL2 : Hid (Lies w base2 (.slice ao2 ts.length cap2) ts) := hL2
    have IH : Hid (∀ i (h : i < ts.length), EqOk ts[i].kids) := fun i h => ihn _ (by have := kids_lt h; omega)
    have hlen := wts_len ts
    clear hL hL2 ihn
    go_enter Try.func8, Try.ntmps8
    go_wp2_with fail
    go_loopw [5] (fun b wr => ∃ (i : Nat), b = .int .i64 i ∧ i ≤ ts.length ∧ Below w.heap.size w wr)
      (fun b _ => (ts.length : Int).toNat - (intOf b).toNat)
    case atStart => exact ⟨0, by go_num, Nat.zero_le _, Below.refl _ _⟩
    case round =>
      obtain ⟨i, rfl, hi, hb⟩ := hrel
      have HB : Hid _ := hb
      clear hb
      by_cases hlt : i < ts.length
      · obtain ⟨b, o, nv, kv, rfl, hbb, c0, c1, c2, c3, c4, hat⟩ := (Lies.on HL.out (Stays.below HB.out base)).at i hlt
        obtain ⟨b2, o2, nv2, kv2, rfl, hbb2, d0, d1, d2, d3, d4, hat2⟩ := (Lies.on HL2.out (Stays.below HB.out base2)).at i hlt
        obtain ⟨an, cn, rfl⟩ := hat.names.slice
        obtain ⟨ak, ck, rfl⟩ := hat.kids.slice
        obtain ⟨an2, cn2, rfl⟩ := hat2.names.slice
        obtain ⟨ak2, ck2, rfl⟩ := hat2.kids.slice
        have HAT : Hid _ := hat
        have HAT2 : Hid _ := hat2
        have IHK : Hid _ := IH.out i hlt
        have he := wt_eq ts[i]
        have hg := wts_get ts i hlt
        obtain ⟨t, ht⟩ : ∃ t, ts[i] = t := ⟨_, rfl⟩
        rw [ht] at c0 c1 c2 c3 c4 d0 d1 d2 d3 d4 HAT HAT2 IHK he hg
        have hlt2 : (i : Int) < (ts.length : Int) := by omega
        have h1 : wtN t.names ≤ 1048576 := by omega
        have h2 : wts t.kids ≤ 1048576 := by omega
        clear hat hat2 ht he hg
        go_wp2_with fail
        go_region_held3 (fun w' => (w'.cell? ⟨b, o + i * 5, none⟩ = some (.int .i64 t.sort) ∧ w'.cell? ⟨b, o + i * 5 + 1, none⟩ = some (.string t.text) ∧ w'.cell? ⟨b, o + i * 5 + 2, none⟩ = some (.bool t.rest) ∧ w'.cell? ⟨b, o + i * 5 + 3, none⟩ = some (.slice an t.names.length cn) ∧ w'.cell? ⟨b, o + i * 5 + 4, none⟩ = some (.slice ak t.kids.length ck)) ∧
            (w'.cell? ⟨b2, o2 + i * 5, none⟩ = some (.int .i64 t.sort) ∧ w'.cell? ⟨b2, o2 + i * 5 + 1, none⟩ = some (.string t.text) ∧ w'.cell? ⟨b2, o2 + i * 5 + 2, none⟩ = some (.bool t.rest) ∧ w'.cell? ⟨b2, o2 + i * 5 + 3, none⟩ = some (.slice an2 t.names.length cn2) ∧ w'.cell? ⟨b2, o2 + i * 5 + 4, none⟩ = some (.slice ak2 t.kids.length ck2)))
          ((repeat' apply And.intro) <;> first | (with_reducible assumption) | (go_keep; done))
          (first | (go_at_call 14; refine (eqExpCore_any t.sort t.text t.rest t.names t.kids an cn ak ck an2 cn2 ak2 ck2 wr.drew base base2 (Strs.on HAT.out.names Stays.drew) (Lies.on HAT.out.kids Stays.drew) (Strs.on HAT2.out.names Stays.drew) (Lies.on HAT2.out.kids Stays.drew) h1 h2 IHK.out).mono ?_; rintro e w2 ⟨rfl, hb2⟩; have HB2 : Hid (Below w.heap.size w w2) := bel_go (belD HB.out) hb2; have ec0 := cell_on hb2 c0; have ec1 := cell_on hb2 c1; have ec2 := cell_on hb2 c2; have ec3 := cell_on hb2 c3; have ec4 := cell_on hb2 c4; have ed0 := cell_on hb2 d0; have ed1 := cell_on hb2 d1; have ed2 := cell_on hb2 d2; have ed3 := cell_on hb2 d3; have ed4 := cell_on hb2 d4; clear hb2))
        clear c0 c1 c2 c3 c4 d0 d1 d2 d3 d4 ec0 ec1 ec2 ec3 ec4 ed0 ed1 ed2 ed3 ed4
        go_wp2
        go_roundw
        case rel => exact ⟨i + 1, by go_num, by omega, HB2.out⟩
        case measure => simp [intOf]; omega
      · have hie : i = ts.length := by omega
        subst hie
        go_wp2
        go_ret
        exact ⟨rfl, HB.out⟩

end Go.Proofs.Ytooeapjlfmknfaa.Tr
