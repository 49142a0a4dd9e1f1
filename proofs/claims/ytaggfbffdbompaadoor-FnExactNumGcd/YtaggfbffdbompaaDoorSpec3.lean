/-
  Contracts of the specification's numbers: dividing; the greatest that divides both.
-/
import Derived.Test.YtaggfbffdbompaaDoorSpec2
namespace Go.Proofs.YtaggfbffdbompaaDoor
set_option maxRecDepth 100000
open Go.RowKit

def bytesV (l : List UInt8) : List Value := l.map (fun b : UInt8 => Value.int .u8 b.toNat)

theorem bytesV_snoc (l : List UInt8) (d : Nat) (h : d < 10) : bytesV l ++ [Value.int .u8 (48 + (d : Int))] = bytesV (l ++ [Dm.sg d]) := by
  simp [bytesV, Dm.sg_toNat d h]

theorem isDec_size (s : ByteArray) (n m : Nat) (b : ByteArray) (h : Dm.isDec s.data.toList n) (hb : Dm.isDec b.data.toList m) (hn : n < 10 * m) : s.size ≤ b.size + 1 := by
  have h1 : s.data.toList.length = s.size := by simp
  have h2 : b.data.toList.length = b.size := by simp
  have h3 := Dm.isDec_high _ m hb
  rcases Nat.lt_or_ge (b.size + 1) s.size with h4 | h4
  · have h5 := Dm.isDec_low _ n h (by omega)
    rw [h1] at h5
    rw [h2] at h3
    have h6 : 10 ^ (b.size + 1) ≤ 10 ^ (s.size - 1) := Nat.pow_le_pow_right (by omega) (by omega)
    rw [Nat.pow_succ] at h6
    omega
  · exact h4

theorem take_val (s : ByteArray) (i : Nat) (hi : i < s.size) : Dm.val (s.data.toList.take (i + 1)) = Dm.val (s.data.toList.take i) * 10 + ((s.data.toList[i]'(by simpa using hi)).toNat - 48) := by
  rw [List.take_succ_eq_append_getElem (by simpa using hi), Dm.val_snoc]

theorem read_data (r a : ByteArray) (i : Nat) (hi : i < a.size) : (r ++ a.extract i (i + 1)).data.toList = r.data.toList ++ [a.data.toList[i]'(by simpa using hi)] := by
  have h : i < a.data.toList.length := by simpa using hi
  rw [ByteArray.data_append, Array.toList_append]
  congr 1
  rw [ByteArray.data_extract, Array.toList_extract, List.extract_eq_take_drop, List.drop_eq_getElem_cons h]
  simp

/-- What becomes of the quotient and of what is left when a digit is read. -/

theorem div_step (X y Q R d : Nat) (h : X = y * Q + R) (hR : R < y) (hd : d < 10) :
    X * 10 + d = y * (Q * 10 + (R * 10 + d) / y) + (R * 10 + d) % y ∧ (R * 10 + d) / y < 10 ∧ (R * 10 + d) % y < y ∧ R * 10 + d < 10 * y := by
  have h1 := Nat.div_add_mod (R * 10 + d) y
  refine ⟨?_, ?_, Nat.mod_lt _ (by omega), by omega⟩
  · rw [Nat.mul_add, ← Nat.mul_assoc]; omega
  · exact Nat.div_lt_of_lt_mul (by omega)

theorem div_inner (S y m : Nat) (hm : m ≤ S / y) (hy : 0 < y) (h : y ≤ S - m * y) : m + 1 ≤ S / y ∧ S - m * y - y = S - (m + 1) * y := by
  have h1 : m * y ≤ S := Nat.le_trans (Nat.mul_le_mul_right _ hm) (Nat.div_mul_le_self _ _)
  refine ⟨(Nat.le_div_iff_mul_le hy).2 (by rw [Nat.add_mul]; omega), by rw [Nat.add_mul]; omega⟩

theorem div_inner_end (S y m : Nat) (hm : m ≤ S / y) (h : S - m * y < y) : m = S / y ∧ S - m * y = S % y := by
  have hy : 0 < y := by omega
  have h1 : m * y ≤ S := Nat.le_trans (Nat.mul_le_mul_right _ hm) (Nat.div_mul_le_self _ _)
  have e : S = y * m + (S - m * y) := by rw [Nat.mul_comm y m]; omega
  have h2 : S / y = m := by
    conv => lhs; rw [e]
    rw [Nat.mul_add_div hy, Nat.div_eq_of_lt h]; omega
  have h3 := Nat.div_add_mod S y
  rw [h2] at h3
  rw [Nat.mul_comm y m] at h3
  exact ⟨h2.symm, by omega⟩

theorem l1Cmp_ex (a b : ByteArray) (x y : Nat) (w : World) (hx : Dm.isDec a.data.toList x) (hy : Dm.isDec b.data.toList y) :
    Calls Tryd.prog 42 #[.string a, .string b] w fun e w' => (∃ c : Int, e = .returned (.int .i64 c) ∧ Hid (c = cmpI x y) ∧ -1 ≤ c ∧ c ≤ 1) ∧ w' = w :=
  (l1Cmp_any a b x y w hx hy).mono fun _ _ h => ⟨⟨_, h.1, rfl, by unfold cmpI; split <;> (try split) <;> omega, by unfold cmpI; split <;> (try split) <;> omega⟩, h.2⟩

set_option maxHeartbeats 1000000 in
theorem l1Div_any (a b : ByteArray) (x y : Nat) (w : World) (ha : a.size ≤ 90000) (hb : b.size ≤ 90000) (hx : Dm.isDec a.data.toList x) (hy : Dm.isDec b.data.toList y) (hy0 : 0 < y) :
    Calls Tryd.prog 22 #[.string a, .string b] w fun e w' => (∃ t u : ByteArray, e = .returned (.tuple #[.string t, .string u]) ∧ Dm.isDec t.data.toList (x / y) ∧ Dm.isDec u.data.toList (x % y)) ∧ Below w.heap.size w w' := by
  obtain ⟨i0, hi, hz0, hz1, hz2⟩ := info_parts infoU8
  have H0 : Dm.isDec (ByteArray.mk #[48]).data.toList 0 := by
    refine ⟨by simp, ?_, rfl, by simp⟩
    intro c hc; simp at hc; subst hc; exact ⟨by decide, by decide⟩
  have HX : Hid (Dm.isDec a.data.toList x) := hx
  have HY : Hid (Dm.isDec b.data.toList y) := hy
  clear hx hy
  go_enter Tryd.func22, Tryd.ntmps22
  go_wp2
  go_loopw [6, 7, 8] (fun v r k wr => ∃ (vv : Value) (i Q R : Nat) (s : ByteArray) (l : List UInt8), vv = v ∧ i ≤ a.size ∧ k = .int .i64 i ∧ r = .string s ∧ l.length = i ∧ Hid (∀ c ∈ l, Dm.isDig c) ∧ Hid (Dm.val l = Q) ∧
      Hid (Dm.isDec s.data.toList R) ∧ R < y ∧ Hid (Dm.val (a.data.toList.take i) = y * Q + R) ∧ wr.ownsRow w.heap.size 5 1 vv i (bytesV l) ∧ Below w.heap.size w wr)
    (fun _ _ k _ => a.size - (intOf k).toNat)
  case atStart =>
    exact ⟨_, 0, 0, 0, _, [], rfl, Nat.zero_le _, rfl, rfl, rfl, fun c h => absurd h (by simp), rfl, H0, hy0, by show Dm.val (List.take 0 _) = _; simp [Dm.val], World.ownsRow_lit w #[] 0 (Nat.le_refl _) (Nat.zero_le _) rfl, (Below.refl _ _).alloc (Nat.le_refl _) _⟩
  case round =>
    obtain ⟨vv, i, Q, R, s, l, rfl, hi', rfl, rfl, hl, hd, hQ, hs, hR, hv, ho, hb'⟩ := hrel
    clear H0
    by_cases hlt : i < a.size
    · have hsb := isDec_size s R y b hs.out HY.out (by omega)
      have hrd := read_data s a i hlt
      have hdg := HX.out.2.1 _ (List.getElem_mem (by simpa using hlt : i < a.data.toList.length))
      have hdec := Dm.div_read s.data.toList R _ hs.out hdg
      rw [← hrd] at hdec
      have htv := take_val a i hlt
      rw [hv.out] at htv
      obtain ⟨d, hdd⟩ : ∃ d, d = (a.data.toList[i]'(by simpa using hlt)).toNat - 48 := ⟨_, rfl⟩
      have hd10 : d < 10 := by rw [hdd]; have := hdg.2; omega
      rw [← hdd] at htv hdec
      obtain ⟨g1, g2, g3, g4⟩ := div_step _ y Q R d rfl hR hd10
      have HV : Hid (Dm.val (a.data.toList.take (i + 1)) = y * (Q * 10 + (R * 10 + d) / y) + (R * 10 + d) % y) := htv.trans g1
      have hsz : (s ++ a.extract i (i + 1)).size ≤ maxLen := by
        have : (s ++ a.extract i (i + 1)).data.toList.length = s.data.toList.length + 1 := by rw [hrd]; simp
        simp only [Array.length_toList, ByteArray.size_data] at this
        unfold maxLen; omega
      have hsz0 : 0 < (s ++ a.extract i (i + 1)).size := by
        have : (s ++ a.extract i (i + 1)).data.toList.length = s.data.toList.length + 1 := by rw [hrd]; simp
        simp only [Array.length_toList, ByteArray.size_data] at this
        omega
      have HDEC : Hid (Dm.isDec (Dm.trimZ (s ++ a.extract i (i + 1)).data.toList) (R * 10 + d)) := hdec
      clear hrd hdec htv g1 hdd hv hdg
      generalize R * 10 + d = S at *
      have hBs := hb'.size
      go_wp2_with fail
      refine (l1Trim_any _ _ hsz hsz0).mono ?_
      rintro e w' ⟨⟨t, rfl, ht⟩, rfl⟩
      rw [← ht] at HDEC
      clear ht hsz hsz0 hs
      go_wp2
      obtain ⟨wo, hwo⟩ : ∃ wo : World, wo = w' := ⟨_, rfl⟩
      go_loopw [7, 9] (fun r n wr => ∃ (m : Nat) (s2 : ByteArray), r = .string s2 ∧ n = .int .u8 (48 + (m : Int)) ∧ m < 10 ∧ Hid (m ≤ S / y) ∧ Hid (Dm.isDec s2.data.toList (S - m * y)) ∧
          wr.ownsRow w.heap.size 5 1 vv i (bytesV l) ∧ Below w.heap.size w wr)
        (fun _ n _ => 58 - (intOf n).toNat)
      case atStart => exact ⟨0, t, rfl, rfl, by omega, Nat.zero_le _, by rw [Nat.zero_mul]; exact HDEC, ho, hb'⟩
      case round =>
        obtain ⟨m, s2, rfl, rfl, hm10, hm, hs2, ho2, hb2⟩ := hrel
        clear hwo ho hb' hBs
        have hBs := hb2.size
        go_wp2_with fail
        refine (l1Cmp_ex s2 b _ _ _ hs2.out HY.out).mono ?_
        rintro e w'' ⟨⟨c, rfl, hc, hc1, hc2⟩, rfl⟩
        by_cases hge : y ≤ S - m * y
        · have hc0 : 0 ≤ c := by rw [hc.out]; exact cmpI_nonneg hge
          have hin := div_inner S y m hm.out hy0 hge
          have hs2b := isDec_size s2 _ y b hs2.out HY.out (by omega)
          have HM : Hid (m + 1 ≤ S / y) := hin.1
          have HE : Hid (S - m * y - y = S - (m + 1) * y) := hin.2
          have hm11 : m + 1 < 10 := by have := hin.1; omega
          have hge' : Hid (y ≤ S - m * y) := hge
          have hsb2 : s2.size ≤ 100000 := by omega
          have hbb2 : b.size ≤ 100000 := by omega
          clear hin hge hc hm
          go_wp2_with fail
          refine (l1Sub_any s2 b _ _ _ hsb2 hbb2 hs2.out HY.out hge'.out).mono ?_
          rintro e w3 ⟨⟨t3, rfl, ht3⟩, hb3⟩
          rw [HE.out] at ht3
          have HT3 : Hid (Dm.isDec t3.data.toList (S - (m + 1) * y)) := ht3
          have ho3 := own_below ho2 hb3
          have hb4 := hb2.trans (hb3.mono hBs)
          clear ht3 hb3 ho2 hb2 hs2 HE hge'
          go_wp2
          go_roundw
          case rel => exact ⟨m + 1, t3, rfl, by go_num, hm11, HM, HT3, ho3, hb4⟩
          case measure => simp [intOf]; omega
        · have hc0 : c < 0 := by rw [hc.out]; exact cmpI_neg (by omega)
          have hend := div_inner_end S y m hm.out (by omega)
          have HM : Hid (m = S / y) := hend.1
          have hs3 : Hid (Dm.isDec s2.data.toList (S % y)) := by have := hs2.out; rw [hend.2] at this; exact this
          clear hend hge hc hs2 hm
          go_wp2_with (at_builtin; refine wpList_append_own _ rfl _ _ 73 rfl w.heap.size 5 i0 (.int .u8 0) 1 1 Tryd.underlying73 hi hz0 hz1 hz2 rfl (by decide) _ _ _ rfl (ho2.alloc _) ⟨w''.heap.size, 0, none⟩ 1 1 [.int .u8 (48 + (m : Int))] rfl rfl (cell_one_new _ _ _) (by simp [Value.oneCell']) (by unfold maxLen; omega) (by omega) (by simp; omega) ?_)
          intro v' w1 hown' hgrow _
          rw [bytesV_snoc l m hm10] at hown'
          have hb3 : Below w.heap.size w w1 := (hb2.alloc hBs _).grown hgrow (by simp; omega) (fun k hk => (ho2.lt k hk).1)
          clear hgrow ho2 hb2
          have HQ : Hid (Dm.val (l ++ [Dm.sg m]) = Q * 10 + S / y) := by
            show Dm.val _ = _
            rw [Dm.val_snoc, hQ.out, Dm.sg_toNat m hm10, ← HM.out]; omega
          have HD : Hid (∀ c ∈ l ++ [Dm.sg m], Dm.isDig c) := forall_snoc hd.out (Dm.sg_dig m hm10)
          clear hQ hd
          go_wp2
          go_roundw
          case rel => exact ⟨v', i + 1, Q * 10 + S / y, S % y, s2, l ++ [Dm.sg m], rfl, by omega, by go_num, rfl, by simp [hl], HD, HQ, hs3, g3, HV, hown', hb3⟩
          case measure => simp [intOf]; omega
    · obtain rfl : i = a.size := by omega
      have hla : a.data.toList.length = a.size := by simp
      have e : a.data.toList.take a.size = a.data.toList := by rw [← hla, List.take_length]
      have hv' := hv.out
      rw [e, HX.out.2.2.1] at hv'
      have hq : x / y = Q ∧ x % y = R := by
        rw [hv', Nat.mul_add_div hy0, Nat.div_eq_of_lt hR, Nat.mul_add_mod, Nat.mod_eq_of_lt hR]; exact ⟨by omega, rfl⟩
      have hne : l ≠ [] := by
        intro e; rw [e] at hl; simp only [List.length_nil] at hl
        exact HX.out.1 (List.length_eq_zero_iff.1 (by omega))
      have htz := Dm.trimZ_dec l hne hd.out
      rw [hQ.out, ← hq.1] at htz
      have HT : Hid (Dm.isDec (Dm.trimZ l) (x / y)) := htz
      have HR : Hid (Dm.isDec s.data.toList (x % y)) := by rw [hq.2]; exact hs
      have hp : a.size ≠ 0 := by
        intro e; rw [e] at hl; exact hne (List.length_eq_zero_iff.1 hl)
      obtain ⟨g, cap, rfl, hg0, hg, hcap, hcm⟩ := own_some ho hp
      have hcv := own_string l hl ho
      have hsz : (⟨l.toArray⟩ : ByteArray).size = a.size := by show l.toArray.size = a.size; rw [List.size_toArray]; exact hl
      clear hv' hq htz hv e hs hQ hd ho
      obtain ⟨L, hL⟩ : ∃ L : ByteArray, L = ⟨l.toArray⟩ := ⟨_, rfl⟩
      have hLd : Hid (L.data.toList = l) := by rw [hL]; show l.toArray.toList = l; simp
      rw [← hL] at hcv hsz
      clear hL
      have b1 : L.size ≤ maxLen := by unfold maxLen; omega
      have b2 : 0 < L.size := by omega
      clear hsz
      go_wp2_with fail
      refine (l1Trim_any L _ b1 b2).mono ?_
      rintro e w' ⟨⟨t, rfl, ht⟩, rfl⟩
      rw [hLd.out] at ht
      have HT2 : Hid (Dm.isDec t.data.toList (x / y)) := by rw [ht]; exact HT
      clear ht HT
      go_wp2
      go_ret2
      exact ⟨⟨t, s, rfl, HT2.out, HR.out⟩, hb'⟩

theorem isDec_zero (s : ByteArray) (n : Nat) (h : Dm.isDec s.data.toList n) : (s.toList == [48]) = decide (n = 0) := by
  have H0 : Dm.isDec [48] 0 := by
    refine ⟨by simp, ?_, rfl, by simp⟩
    intro c hc; simp at hc; subst hc; exact ⟨by decide, by decide⟩
  rw [Bool.eq_iff_iff, beq_iff_eq, decide_eq_true_eq, ByteArray.toList_eq]
  constructor
  · intro e; rw [e] at h; exact Dm.isDec_inj _ _ _ h H0
  · intro e; subst e; exact Dm.isDec_unique _ _ 0 h H0

theorem isDec_size_le (s b : ByteArray) (n m : Nat) (h : Dm.isDec s.data.toList n) (hb : Dm.isDec b.data.toList m) (hn : n ≤ m) : s.size ≤ b.size := by
  rcases Nat.lt_or_ge b.size s.size with h1 | h1
  · have := Dm.isDec_len_lt b.data.toList s.data.toList m n hb h (by simpa using h1)
    omega
  · exact h1

set_option maxHeartbeats 800000 in
theorem l1Gcd_any (a b : ByteArray) (x y : Nat) (w : World) (ha : a.size ≤ 90000) (hb : b.size ≤ 90000) (hx : Dm.isDec a.data.toList x) (hy : Dm.isDec b.data.toList y) :
    Calls Tryd.prog 31 #[.string a, .string b] w fun e w' => (∃ t : ByteArray, e = .returned (.string t) ∧ Dm.isDec t.data.toList (Nat.gcd x y)) ∧ Below w.heap.size w w' := by
  have HX : Hid (Dm.isDec a.data.toList x) := hx
  have HY : Hid (Dm.isDec b.data.toList y) := hy
  clear hx hy
  go_enter Tryd.func31, Tryd.ntmps31
  go_wp2
  go_loopw [0, 1] (fun u v wr => ∃ (s t : ByteArray) (p q : Nat), u = .string s ∧ v = .string t ∧ s.size ≤ 90000 ∧ t.size ≤ 90000 ∧ Hid (Dm.isDec s.data.toList p) ∧ Hid (Dm.isDec t.data.toList q) ∧ Hid (Nat.gcd p q = Nat.gcd x y) ∧ Below w.heap.size w wr)
    (fun _ v _ => match v with | .string t => Dm.val t.data.toList | _ => 0)
  case atStart => exact ⟨a, b, x, y, rfl, rfl, ha, hb, HX, HY, rfl, Below.refl _ _⟩
  case round =>
    obtain ⟨s, t, p, q, rfl, rfl, hs, ht, hp, hq, hg, hb'⟩ := hrel
    have hz := isDec_zero t q hq.out
    have hBs := hb'.size
    by_cases h0 : q = 0
    · have h1 : (t.toList == [48]) = true := by rw [hz]; simpa using h0
      have HG : Hid (Dm.isDec s.data.toList (Nat.gcd x y)) := by
        have e : p = Nat.gcd x y := by rw [← hg.out, h0, Nat.gcd_zero_right]
        rw [← e]; exact hp
      clear hz hg hp hq h0
      go_wp2
      go_ret
      exact ⟨⟨s, rfl, HG.out⟩, hb'⟩
    · have h1 : (t.toList == [48]) = false := by rw [hz]; simpa using h0
      have hq0 : 0 < q := by omega
      have HV : Hid (Dm.val t.data.toList = q) := hq.out.2.2.1
      clear hz h0
      go_wp2_with fail
      refine (l1Div_any s t p q _ hs ht hp.out hq.out hq0).mono ?_
      rintro e w1 ⟨⟨t1, t2, rfl, _, hr⟩, hb1⟩
      have hr' : Hid (Dm.isDec t2.data.toList (p % q)) := hr
      have hsz := isDec_size_le t2 t (p % q) q hr hq.out (Nat.le_of_lt (Nat.mod_lt _ hq0))
      have hsz2 : t2.size ≤ 90000 := by omega
      have HG : Hid (Nat.gcd q (p % q) = Nat.gcd x y) := by show _ = _; rw [← hg.out, Nat.gcd_comm p q, Nat.gcd_rec q p, Nat.gcd_comm]
      have HM : Hid (Dm.val t2.data.toList < Dm.val t.data.toList) := by show _ < _; rw [HV.out, hr.2.2.1]; exact Nat.mod_lt _ hq0
      have hb2 := hb'.trans (hb1.mono hBs)
      clear hr hg hp hb1 hb' hsz
      go_wp2
      go_roundw
      case rel => exact ⟨t, t2, q, p % q, rfl, rfl, ht, hsz2, hq, hr', HG, hb2⟩
      case measure => exact HM.out

end Go.Proofs.YtaggfbffdbompaaDoor
