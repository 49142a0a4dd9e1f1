/-
  How much a list of parts takes: the laws' own count.
-/
import Derived.Test.YtooeapjlfmknfaaTrA
import Derived.Test.YtooeapjlfmknfaaProg
namespace Go.Proofs.Ytooeapjlfmknfaa
set_option maxRecDepth 100000
set_option linter.unusedVariables false
set_option linter.unusedSimpArgs false
open Go.RowKit

set_option maxHeartbeats 400000 in
theorem szStringS_any (ns : List ByteArray) (ao : Option Addr) (cap : Nat) (l : Int) (w : World) (base : Nat) (hS : Strs w base (.slice ao ns.length cap) ns) (h0 : 0 ≤ l) (hl : l ≤ 1048576) (hn : ns.length ≤ maxLen) (hx : ∀ j (k : j < ns.length), ns[j].size ≤ maxLen) :
    Calls Try.prog 15 #[.slice ao ns.length cap, .int .i64 l] w fun e w' => e = .returned (.int .i64 (szR l (wtN ns))) ∧ w' = w := by
  have HS : Hid _ := hS
  have HX : Hid (∀ j (k : j < ns.length), ns[j].size ≤ maxLen) := hx
  have hm : (maxLen : Int) ≤ 9223372036854775807 := by decide
  have hlen := wtN_len ns
  have hw1 : wrap64 (l - ns.length) = l - ns.length := by (unfold wrap64; omega)
  clear hS hx
  go_enter Try.func15, Try.ntmps15
  by_cases h1 : l - ns.length < 0
  · have e : Hid (szR l (wtN ns) = -1) := by unfold Hid szR; rw [if_neg (by omega)]
    go_wp2
    go_ret
    rw [e.out]
    exact ⟨rfl, rfl⟩
  go_wp2_with fail
  go_loopw [1, 5] (fun a b wr => ∃ (i : Nat) (z : Int), b = .int .i64 i ∧ i ≤ ns.length ∧ a = .int .i64 z ∧ 0 ≤ z ∧ z ≤ 1048576 ∧ Hid (z - wtN (ns.drop i) + (ns.length - i) = l - wtN ns) ∧ wr = w)
    (fun _ b _ => (ns.length : Int).toNat - (intOf b).toNat)
  case atStart => exact ⟨0, _, by go_num, Nat.zero_le _, rfl, by omega, by omega, by show _ = _; rw [List.drop_zero]; omega, rfl⟩
  case round =>
    obtain ⟨i, z, rfl, hi, rfl, hz, hz2, hv, rfl⟩ := hrel
    by_cases hlt : i < ns.length
    · obtain ⟨b, o, rfl, hb, hc⟩ := Strs.at HS.out i hlt
      have hs := HX.out i hlt
      have hd := wtN_drop ns i hlt
      have hv' := hv.out
      have hdl := wtN_len (ns.drop (i + 1))
      rw [List.length_drop] at hdl
      have hlt2 : (i : Int) < (ns.length : Int) := by omega
      have hw2 : wrap64 (z - ns[i].size) = z - ns[i].size := by (unfold wrap64; omega)
      obtain ⟨x, hxx⟩ : ∃ x, ns[i] = x := ⟨_, rfl⟩
      rw [hxx] at hc hs hd hw2
      by_cases h2 : z - x.size < 0
      · have e : Hid (szR l (wtN ns) = -1) := by unfold Hid szR; rw [if_neg (by omega)]
        clear hv hv' hd hdl
        go_wp2
        go_ret
        rw [e.out]
        exact ⟨rfl, rfl⟩
      · have hv2 : Hid (z - x.size - wtN (ns.drop (i + 1)) + (ns.length - (i + 1 : Nat)) = l - wtN ns) := by show _ = _; omega
        clear hv hv' hd hdl
        go_wp2
        go_roundw
        case rel => exact ⟨i + 1, z - x.size, by go_num, by omega, by go_num, by omega, by omega, hv2, by first | rfl | trivial⟩
        case measure => simp [intOf]; omega
    · have hie : i = ns.length := by omega
      subst hie
      have hv' := hv.out
      rw [List.drop_length] at hv'
      have e : Hid (szR l (wtN ns) = z) := by unfold Hid szR; simp only [wtN] at hv'; rw [if_pos (by omega)]; omega
      clear hv hv'
      go_wp2
      go_ret
      rw [e.out]
      exact ⟨rfl, rfl⟩

/-- What is asked of the count of a list of parts. -/
def SzOk (ts : List T) : Prop := ∀ (ao : Option Addr) (cap : Nat) (l : Int) (w : World) (base : Nat), Lies w base (.slice ao ts.length cap) ts → 0 ≤ l → l ≤ 1048576 →
    Calls Try.prog 4 #[.slice ao ts.length cap, .int .i64 l] w fun e w' => e = .returned (.int .i64 (szR l (wts ts))) ∧ Below w.heap.size w w'

theorem szR_le {l n : Int} (h : 0 ≤ n) (h0 : 0 ≤ l) : szR l n ≤ l := by unfold szR; split <;> omega

theorem szR_neg {l n : Int} (h0 : 0 ≤ n) : szR l n < 0 ↔ l < n := by unfold szR; split <;> omega

theorem szR_pos {l n : Int} (h : n ≤ l) : szR l n = l - n := by unfold szR; rw [if_pos h]

set_option maxHeartbeats 800000 in
theorem szExpCore_any (s : Int) (x : ByteArray) (r : Bool) (ns : List ByteArray) (ks : List T) (an : Option Addr) (cn : Nat) (ak : Option Addr) (ck : Nat) (l : Int) (w : World) (base : Nat)
    (hN : Strs w base (.slice an ns.length cn) ns) (hK : Lies w base (.slice ak ks.length ck) ks) (h0 : 0 ≤ l) (hl : l ≤ 1048576) (hx : x.size ≤ maxLen) (hn : ns.length ≤ maxLen) (hns : ∀ j (k : j < ns.length), ns[j].size ≤ maxLen) (ih : SzOk ks) :
    Calls Try.prog 9 #[.agg #[.int .i64 s, .string x, .bool r, .slice an ns.length cn, .slice ak ks.length ck], .int .i64 l] w fun e w' => e = .returned (.int .i64 (szR l (x.size + wtN ns + wts ks))) ∧ Below w.heap.size w w' := by
  have HN : Hid _ := hN
  have HK : Hid (Lies w base (.slice ak ks.length ck) ks) := hK
  have HNS : Hid (∀ j (k : j < ns.length), ns[j].size ≤ maxLen) := hns
  have IH : Hid (SzOk ks) := ih
  have hm : (maxLen : Int) ≤ 9223372036854775807 := by decide
  have hw1 : wrap64 (l - x.size) = l - x.size := by (unfold wrap64; omega)
  have hB : Below w.heap.size w (w.alloc (.cells #[.int .i64 s, .string x, .bool r, .slice an ns.length cn, .slice ak ks.length ck] 31)) := (Below.refl _ _).alloc (Nat.le_refl _) _
  have HB : Hid _ := hB
  clear hN hK hns ih hB
  go_enter Try.func9, Try.ntmps9
  by_cases h1 : l - x.size < 0
  · have e : Hid (szR l (x.size + wtN ns + wts ks) = -1) := by unfold Hid szR; rw [if_neg (by omega)]
    go_wp2
    go_ret
    rw [e.out]
    exact ⟨rfl, HB.out⟩
  go_wp2_with fail
  refine (szStringS_any ns an cn (l - x.size) _ base (Strs.on HN.out (Stays.below HB.out base)) (by omega) (by omega) hn HNS.out).mono ?_
  rintro e w1 ⟨rfl, rfl⟩
  by_cases h2 : l - x.size < wtN ns
  · have e : Hid (szR l (x.size + wtN ns + wts ks) = -1) := by unfold Hid szR; rw [if_neg (by omega)]
    have e2 : szR (l - x.size) (wtN ns) = -1 := by unfold szR; rw [if_neg (by omega)]
    rw [e2]
    go_wp2
    go_ret
    rw [e.out]
    exact ⟨rfl, HB.out⟩
  rw [szR_pos (by omega)]
  go_wp2_with fail
  refine (IH.out ak ck (l - x.size - wtN ns) _ base (Lies.on HK.out (Stays.below HB.out base)) (by omega) (by omega)).mono ?_
  rintro e w2 ⟨rfl, hb2⟩
  have HB2 : Hid (Below w.heap.size w w2) := HB.out.trans (hb2.mono HB.out.size)
  clear hb2
  by_cases h3 : l - x.size - wtN ns < wts ks
  · have e : Hid (szR l (x.size + wtN ns + wts ks) = -1) := by unfold Hid szR; rw [if_neg (by omega)]
    have e2 : szR (l - x.size - wtN ns) (wts ks) = -1 := by unfold szR; rw [if_neg (by omega)]
    rw [e2]
    go_wp2
    go_ret
    rw [e.out]
    exact ⟨rfl, HB2.out⟩
  have e : Hid (szR l (x.size + wtN ns + wts ks) = l - x.size - wtN ns - wts ks) := by unfold Hid; rw [szR_pos (by omega)]; omega
  rw [szR_pos (by omega)]
  go_wp2
  go_ret
  rw [e.out]
  exact ⟨rfl, HB2.out⟩

set_option maxHeartbeats 800000 in
theorem szAux : ∀ (n : Nat) (ts : List T), wts ts < n → Sane ts → SzOk ts := by
  intro n
  induction n with
  | zero => intro ts h; exact absurd h (Nat.not_lt_zero _)
  | succ n ihn =>
    intro ts hts hs ao cap l w base hL h0 hl
    obtain ⟨hn, hx, hns, hk⟩ := hs.inv
    have ih : ∀ i (h : i < ts.length), SzOk ts[i].kids := fun i h => ihn _ (by have := kids_lt h; omega) (hk i h)
    clear ihn hts hs
    have HL : Hid (Lies w base (.slice ao ts.length cap) ts) := hL
    have HX : Hid (∀ i (h : i < ts.length), ts[i].text.size ≤ maxLen) := hx
    have HNS : Hid (∀ i (h : i < ts.length), ts[i].names.length ≤ maxLen ∧ ∀ j (k : j < ts[i].names.length), ts[i].names[j].size ≤ maxLen) := hns
    have IH : Hid (∀ i (h : i < ts.length), SzOk ts[i].kids) := ih
    have hm : (maxLen : Int) ≤ 9223372036854775807 := by decide
    have hlen := wts_len ts
    have hw1 : wrap64 (l - ts.length) = l - ts.length := by (unfold wrap64; omega)
    clear hL hx hns ih hk
    go_enter Try.func4, Try.ntmps4
    by_cases h1 : l - ts.length < 0
    · have e : Hid (szR l (wts ts) = -1) := by unfold Hid szR; rw [if_neg (by omega)]
      go_wp2
      go_ret
      rw [e.out]
      exact ⟨rfl, Below.refl _ _⟩
    go_wp2_with fail
    go_loopw [1, 5] (fun a b wr => ∃ (i : Nat) (z : Int), b = .int .i64 i ∧ i ≤ ts.length ∧ a = .int .i64 z ∧ 0 ≤ z ∧ z ≤ 1048576 ∧ Hid (z - wts (ts.drop i) + (ts.length - i) = l - wts ts) ∧ Below w.heap.size w wr)
      (fun _ b _ => (ts.length : Int).toNat - (intOf b).toNat)
    case atStart => exact ⟨0, _, by go_num, Nat.zero_le _, rfl, by omega, by omega, by show _ = _; rw [List.drop_zero]; omega, Below.refl _ _⟩
    case round =>
      obtain ⟨i, z, rfl, hi, rfl, hz, hz2, hv, hb⟩ := hrel
      have HB : Hid _ := hb
      clear hb
      by_cases hlt : i < ts.length
      · obtain ⟨b, o, nv, kv, rfl, hbb, c0, c1, c2, c3, c4, hat⟩ := (Lies.on HL.out (Stays.below HB.out base)).at i hlt
        obtain ⟨an, cn, rfl⟩ := hat.names.slice
        obtain ⟨ak, ck, rfl⟩ := hat.kids.slice
        have HAT : Hid _ := hat
        clear hat
        have HS := HX.out i hlt
        have HN := HNS.out i hlt
        have IHK : Hid _ := IH.out i hlt
        have hd := wts_drop ts i hlt
        have he := wt_eq ts[i]
        have hv' := hv.out
        have hdl := wts_len (ts.drop (i + 1))
        rw [List.length_drop] at hdl
        have hlt2 : (i : Int) < (ts.length : Int) := by omega
        obtain ⟨t, ht⟩ : ∃ t, ts[i] = t := ⟨_, rfl⟩
        rw [ht] at c0 c1 c2 c3 c4 HAT HS HN IHK hd he
        obtain ⟨sv, hsv⟩ : ∃ sv, t.sort = sv := ⟨_, rfl⟩
        obtain ⟨xv, hxv⟩ : ∃ sv, t.text = sv := ⟨_, rfl⟩
        obtain ⟨rv, hrv⟩ : ∃ sv, t.rest = sv := ⟨_, rfl⟩
        obtain ⟨NL, hnl⟩ : ∃ sv, t.names.length = sv := ⟨_, rfl⟩
        obtain ⟨KL, hkl⟩ : ∃ sv, t.kids.length = sv := ⟨_, rfl⟩
        rw [hsv] at c0
        rw [hxv] at c1
        rw [hrv] at c2
        have HE : Hid (sv = t.sort ∧ xv = t.text ∧ rv = t.rest) := ⟨hsv.symm, hxv.symm, hrv.symm⟩
        clear hsv hxv hrv
        have HV : Hid _ := hv'
        have HD : Hid _ := hd
        have HEE : Hid _ := he
        clear hv hv' hd he
        go_wp2_with fail
        subst hnl hkl
        refine (szExpCore_any sv xv rv t.names t.kids an cn ak ck z _ base HAT.out.names HAT.out.kids hz hz2 (by rw [HE.out.2.1]; exact HS) HN.1 HN.2 IHK.out).mono ?_
        rintro e w1 ⟨rfl, hb1⟩
        have HB1 : Hid (Below w.heap.size w w1) := HB.out.trans (hb1.mono HB.out.size)
        clear hb1
        have hxe : xv.size = t.text.size := by rw [HE.out.2.1]
        have hv' := HV.out
        have hd := HD.out
        have he := HEE.out
        by_cases h2 : z < xv.size + wtN t.names + wts t.kids
        · have e : Hid (szR l (wts ts) = -1) := by unfold Hid szR; rw [if_neg (by omega)]
          have e2 : szR z (xv.size + wtN t.names + wts t.kids) = -1 := by unfold szR; rw [if_neg (by omega)]
          rw [e2]
          clear hv' hd he hxe
          go_wp2
          go_ret
          rw [e.out]
          exact ⟨rfl, HB1.out⟩
        · have hp := szR_pos (l := z) (n := xv.size + wtN t.names + wts t.kids) (by omega)
          rw [hp]
          have hv2 : Hid (z - (xv.size + wtN t.names + wts t.kids) - wts (ts.drop (i + 1)) + (ts.length - (i + 1 : Nat)) = l - wts ts) := by show _ = _; omega
          clear hp hv' hd he hxe
          go_wp2
          go_roundw
          case rel => exact ⟨i + 1, _, by go_num, by omega, rfl, by omega, by omega, hv2, HB1.out⟩
          case measure => simp [intOf]; omega
      · have hie : i = ts.length := by omega
        subst hie
        have hv' := hv.out
        rw [List.drop_length] at hv'
        have e : Hid (szR l (wts ts) = z) := by unfold Hid; rw [wts_nil] at hv'; unfold szR; rw [if_pos (by omega)]; omega
        clear hv hv'
        go_wp2
        go_ret
        rw [e.out]
        exact ⟨rfl, HB.out⟩

theorem szExpCoreS_any (ts : List T) (hs : Sane ts) : SzOk ts := szAux _ ts (Nat.lt_succ_self _) hs

end Go.Proofs.Ytooeapjlfmknfaa
