/-
  Contracts of the specification's NumRoot.
-/
import Derived.Test.YtaggfbffdbompaaDoorWRoot2
import Derived.Test.YtaggfbffdbompaaDoorSpec6
namespace Go.Proofs.YtaggfbffdbompaaDoor
set_option maxRecDepth 100000
set_option linter.unusedVariables false
set_option linter.unusedSimpArgs false
open Go.RowKit
attribute [local go_sem ↓] Go.wp_at_zero Go.wp_at_succ

theorem isDec_ten (l : List UInt8) (n : Nat) (h : Dm.isDec l n) (hn : n ≠ 0) : Dm.isDec (l ++ [48]) (n * 10) := by
  have h48 : Dm.isDig 48 := ⟨by decide, by decide⟩
  refine ⟨by simp, ?_, ?_, ?_⟩
  · intro c hc
    rcases List.mem_append.1 hc with h1 | h1
    · exact h.2.1 c h1
    · rw [List.mem_singleton] at h1; subst h1; exact h48
  · rw [Dm.val_snoc, h.2.2.1]; rfl
  · intro _ hh
    rcases Nat.lt_or_ge 1 l.length with h1 | h1
    · have h2 := h.2.2.2 h1
      cases l with
      | nil => exact h.1 rfl
      | cons c l' => exact h2 (by simpa using hh)
    · have h2 : l.length = 1 := by
        have := List.length_pos_iff.2 h.1; omega
      obtain ⟨c, rfl⟩ := List.length_eq_one_iff.1 h2
      simp at hh
      subst hh
      have h3 := h.2.2.1
      simp [Dm.val] at h3
      exact hn h3.symm

theorem app0_data (t : ByteArray) : (t ++ (⟨#[48]⟩ : ByteArray)).data.toList = t.data.toList ++ [48] := by simp

theorem app0_size (t : ByteArray) : (t ++ (⟨#[48]⟩ : ByteArray)).size = t.size + 1 := by
  rw [ByteArray.size_append]; rfl

theorem decLen (t : ByteArray) (n k : Nat) (h : Dm.isDec t.data.toList n) (hn : n < 10 ^ k) (hk : 0 < k) : t.size ≤ k := by
  have e : t.data.toList.length = t.size := Array.length_toList
  rcases Nat.lt_or_ge 1 t.data.toList.length with h1 | h1
  · have h2 := Dm.isDec_low _ _ h h1
    have h4 := (Nat.pow_lt_pow_iff_right (by decide : 1 < 10)).1 (Nat.lt_of_le_of_lt h2 hn)
    omega
  · omega

theorem lenLe (q : ByteArray) (m : Nat) (h : Dm.isDec q.data.toList m) (u : Nat) (hmu : m ≤ u) (t : ByteArray) (hu : Dm.isDec t.data.toList u) (k : Nat) (ht : t.size ≤ k) : q.size ≤ k := by
  have e : q.data.toList.length = q.size := Array.length_toList
  have e2 : t.data.toList.length = t.size := Array.length_toList
  rcases Nat.lt_or_ge t.data.toList.length q.data.toList.length with h1 | h1
  · have := Dm.isDec_len_lt _ _ _ _ hu h h1
    omega
  · omega

theorem sqLe (m P u : Nat) (hP : 0 < P) (h : (m * P) * (m * P) ≤ u) : m ≤ u := by
  rcases Nat.eq_zero_or_pos m with h0 | h0
  · omega
  · have h1 : m ≤ m * P := Nat.le_mul_of_pos_right m hP
    have h2 : m * P ≤ (m * P) * (m * P) := Nat.le_mul_of_pos_left _ (by omega)
    omega

set_option maxHeartbeats 1600000 in
theorem l5Step_any (s : ByteArray) (n k : Nat) (w : World) (hs : s.size ≤ 200) (hx : Dm.isDec s.data.toList n) (hk : k ≤ 1000) :
    Calls Tryd.prog 41 #[.string s, .int .i64 k] w fun e w' => (∃ t : ByteArray, e = .returned (.string t) ∧ Dm.isDec t.data.toList ((n + 1) * 10 ^ k) ∧ t.size ≤ 3000) ∧ Below w.heap.size w w' := by
  have HX : Hid (Dm.isDec s.data.toList n) := hx
  have H1 : Hid (Dm.isDec (ByteArray.mk #[49]).data.toList 1) := by
    refine ⟨by simp, ?_, rfl, by simp⟩
    intro c hc; simp at hc; subst hc; exact ⟨by decide, by decide⟩
  clear hx
  go_enter Tryd.func41, Tryd.ntmps41
  go_wp2_with fail
  refine (l1Add_any s ⟨#[49]⟩ n 1 _ (by omega) (by show 1 ≤ _; omega) HX.out H1.out).mono ?_
  rintro e w1 ⟨⟨t, rfl, ht⟩, hb1⟩
  have hsz : t.size ≤ 202 := by
    have h1 := Dm.isDec_high _ _ HX.out
    have e1 : s.data.toList.length = s.size := Array.length_toList
    rw [e1] at h1
    have h2 : 10 ^ s.size ≤ 10 ^ 201 := Nat.pow_le_pow_right (by omega) (by omega)
    exact decLen t (n + 1) 202 ht (by
      have h3 : n + 1 ≤ 10 ^ s.size := h1
      have h4 : 10 ^ s.size < 10 ^ 202 := Nat.pow_lt_pow_right (by omega) (by omega)
      omega) (by omega)
  have HT : Hid (Dm.isDec t.data.toList (n + 1)) := ht
  have HB : Hid (Below w.heap.size w w1) := hb1
  clear ht hb1 HX H1
  go_wp2
  go_loopw [5, 6] (fun a b wr => ∃ (q : ByteArray) (i : Nat), a = .string q ∧ b = .int .i64 i ∧ i ≤ k ∧ q.size ≤ 202 + i ∧ Hid (Dm.isDec q.data.toList ((n + 1) * 10 ^ i)) ∧ Below w.heap.size w wr)
    (fun _ b _ => k - (intOf b).toNat)
  case atStart => exact ⟨t, 0, rfl, rfl, Nat.zero_le _, hsz, by show Dm.isDec _ ((n + 1) * 10 ^ 0); rw [Nat.pow_zero, Nat.mul_one]; exact HT.out, HB.out⟩
  case round =>
    obtain ⟨q, i, rfl, rfl, hi, hq, hqd, hb⟩ := hrel
    by_cases hlt : i < k
    · have hd2 : Hid (Dm.isDec (q ++ (⟨#[48]⟩ : ByteArray)).data.toList ((n + 1) * 10 ^ (i + 1))) := by
        show Dm.isDec _ _
        rw [app0_data, Nat.pow_succ, ← Nat.mul_assoc]
        exact isDec_ten _ _ hqd.out (Nat.mul_ne_zero (by omega) (Nat.pos_iff_ne_zero.1 (Nat.pow_pos (by decide))))
      have hz2 := app0_size q
      have hmx : (q ++ (⟨#[48]⟩ : ByteArray)).size ≤ maxLen := by rw [hz2]; unfold maxLen; omega
      clear hqd
      go_wp2
      go_roundw
      case rel => exact ⟨_, i + 1, rfl, by go_num, by omega, by rw [hz2]; omega, hd2, hb⟩
      case measure => simp [intOf]; omega
    · have hik : i = k := by omega
      subst hik
      go_wp2
      go_ret
      exact ⟨⟨q, rfl, hqd.out, by omega⟩, hb⟩

set_option maxHeartbeats 1600000 in
theorem sNumRoot_no (neg : Bool) (up dn : ByteArray) (w : World) (hu : up.size ≤ maxLen) (hd : dn.size ≤ maxLen) (H1 : Hid (okN neg up.data.toList dn.data.toList = false)) :
    Calls Tryd.prog 19 #[.agg #[.bool neg, .string up, .string dn]] w fun e w' => e = twoNums false ⟨#[]⟩ ⟨#[]⟩ false ⟨#[]⟩ ⟨#[]⟩ 1 ∧ Below w.heap.size w w' := by
  unfold twoNums
  go_enter Tryd.func19, Tryd.ntmps19
  go_wp2_with fail
  obtain ⟨V, hV, hBV, x0, x1, x2⟩ := boxes3 w #[Value.bool neg, Value.string up, Value.string dn] #[Value.bool false, Value.string ⟨#[]⟩, Value.string ⟨#[]⟩] #[Value.bool false, Value.string ⟨#[]⟩, Value.string ⟨#[]⟩] 25 25 25
  rw [← hV]
  have HBV : Hid (Below w.heap.size w V) := hBV
  have Z0 : Hid (boxAt V _ _ _) := x0
  have Z2 : Hid (boxAt V _ _ _) := x1
  have Z3 : Hid (boxAt V _ _ _) := x2
  clear hV hBV x0 x1 x2
  refine (specOk_c neg up dn _ _ hu hd H1.out).mono ?_
  rintro e w3 ⟨rfl, hb3⟩
  have HB3 : Hid (Below w.heap.size w w3) := HBV.out.trans (hb3.mono HBV.out.size)
  have Y0 : Hid (boxAt w3 _ _ _) := Z0.out.on hb3
  have Y2 : Hid (boxAt w3 _ _ _) := Z2.out.on hb3
  have Y3 : Hid (boxAt w3 _ _ _) := Z3.out.on hb3
  clear hb3 Z0 Z2 Z3 HBV
  have q00 := Y2.out.cell 0 rfl
  have f00 := Y2.out.frozen 0
  have q01 := Y2.out.cell 1 rfl
  have f01 := Y2.out.frozen 1
  have q02 := Y2.out.cell 2 rfl
  have f02 := Y2.out.frozen 2
  have hl0 := Y2.out.lt
  have q10 := Y3.out.cell 0 rfl
  have f10 := Y3.out.frozen 0
  have q11 := Y3.out.cell 1 rfl
  have f11 := Y3.out.frozen 1
  have q12 := Y3.out.cell 2 rfl
  have f12 := Y3.out.frozen 2
  have hl1 := Y3.out.lt
  go_wp2
  simp only [bodyPost]
  refine ⟨trivial, _, ?_, rfl, ?_⟩
  · simp only [results, Tryd.results19]
    go_simp
  · (repeat' first | (with_reducible exact HB3.out) | (with_reducible refine bel_set0 ?_ ?_) | (with_reducible refine bel_alloc0 ?_) | (dsimp only; omega))


set_option maxHeartbeats 1600000 in
theorem sNumRoot_nw (neg : Bool) (up dn : ByteArray) (w : World) (hu : up.size ≤ maxLen) (hd : dn.size ≤ maxLen) (H1 : Hid (okN neg up.data.toList dn.data.toList = true)) (e1 : (dn.toList == [49]) = false) :
    Calls Tryd.prog 19 #[.agg #[.bool neg, .string up, .string dn]] w fun e w' => e = twoNums false ⟨#[]⟩ ⟨#[]⟩ false ⟨#[]⟩ ⟨#[]⟩ 4 ∧ Below w.heap.size w w' := by
  unfold twoNums
  go_enter Tryd.func19, Tryd.ntmps19
  go_wp2_with fail
  obtain ⟨V, hV, hBV, x0, x1, x2⟩ := boxes3 w #[Value.bool neg, Value.string up, Value.string dn] #[Value.bool false, Value.string ⟨#[]⟩, Value.string ⟨#[]⟩] #[Value.bool false, Value.string ⟨#[]⟩, Value.string ⟨#[]⟩] 25 25 25
  rw [← hV]
  have HBV : Hid (Below w.heap.size w V) := hBV
  have Z0 : Hid (boxAt V _ _ _) := x0
  have Z2 : Hid (boxAt V _ _ _) := x1
  have Z3 : Hid (boxAt V _ _ _) := x2
  clear hV hBV x0 x1 x2
  refine (specOk_c neg up dn _ _ hu hd H1.out).mono ?_
  rintro e w3 ⟨rfl, hb3⟩
  have HB3 : Hid (Below w.heap.size w w3) := HBV.out.trans (hb3.mono HBV.out.size)
  have Y0 : Hid (boxAt w3 _ _ _) := Z0.out.on hb3
  have Y2 : Hid (boxAt w3 _ _ _) := Z2.out.on hb3
  have Y3 : Hid (boxAt w3 _ _ _) := Z3.out.on hb3
  clear hb3 Z0 Z2 Z3 HBV
  have k00 := Y0.out.cell 0 rfl
  have k02 := Y0.out.cell 2 rfl
  have q00 := Y2.out.cell 0 rfl
  have f00 := Y2.out.frozen 0
  have q01 := Y2.out.cell 1 rfl
  have f01 := Y2.out.frozen 1
  have q02 := Y2.out.cell 2 rfl
  have f02 := Y2.out.frozen 2
  have hl0 := Y2.out.lt
  have q10 := Y3.out.cell 0 rfl
  have f10 := Y3.out.frozen 0
  have q11 := Y3.out.cell 1 rfl
  have f11 := Y3.out.frozen 1
  have q12 := Y3.out.cell 2 rfl
  have f12 := Y3.out.frozen 2
  have hl1 := Y3.out.lt
  go_wp2
  simp only [bodyPost]
  refine ⟨trivial, _, ?_, rfl, ?_⟩
  · simp only [results, Tryd.results19]
    go_simp
  · (repeat' first | (with_reducible exact HB3.out) | (with_reducible refine bel_set0 ?_ ?_) | (with_reducible refine bel_alloc0 ?_) | (dsimp only; omega))


set_option maxHeartbeats 1600000 in
theorem sNumRoot_neg (up dn : ByteArray) (w : World) (hu : up.size ≤ maxLen) (hd : dn.size ≤ maxLen) (H1 : Hid (okN true up.data.toList dn.data.toList = true)) (e1 : (dn.toList == [49]) = true) :
    Calls Tryd.prog 19 #[.agg #[.bool true, .string up, .string dn]] w fun e w' => e = twoNums false ⟨#[]⟩ ⟨#[]⟩ false ⟨#[]⟩ ⟨#[]⟩ 4 ∧ Below w.heap.size w w' := by
  unfold twoNums
  go_enter Tryd.func19, Tryd.ntmps19
  go_wp2_with fail
  obtain ⟨V, hV, hBV, x0, x1, x2⟩ := boxes3 w #[Value.bool true, Value.string up, Value.string dn] #[Value.bool false, Value.string ⟨#[]⟩, Value.string ⟨#[]⟩] #[Value.bool false, Value.string ⟨#[]⟩, Value.string ⟨#[]⟩] 25 25 25
  rw [← hV]
  have HBV : Hid (Below w.heap.size w V) := hBV
  have Z0 : Hid (boxAt V _ _ _) := x0
  have Z2 : Hid (boxAt V _ _ _) := x1
  have Z3 : Hid (boxAt V _ _ _) := x2
  clear hV hBV x0 x1 x2
  refine (specOk_c true up dn _ _ hu hd H1.out).mono ?_
  rintro e w3 ⟨rfl, hb3⟩
  have HB3 : Hid (Below w.heap.size w w3) := HBV.out.trans (hb3.mono HBV.out.size)
  have Y0 : Hid (boxAt w3 _ _ _) := Z0.out.on hb3
  have Y2 : Hid (boxAt w3 _ _ _) := Z2.out.on hb3
  have Y3 : Hid (boxAt w3 _ _ _) := Z3.out.on hb3
  clear hb3 Z0 Z2 Z3 HBV
  have k00 := Y0.out.cell 0 rfl
  have k02 := Y0.out.cell 2 rfl
  have q00 := Y2.out.cell 0 rfl
  have f00 := Y2.out.frozen 0
  have q01 := Y2.out.cell 1 rfl
  have f01 := Y2.out.frozen 1
  have q02 := Y2.out.cell 2 rfl
  have f02 := Y2.out.frozen 2
  have hl0 := Y2.out.lt
  have q10 := Y3.out.cell 0 rfl
  have f10 := Y3.out.frozen 0
  have q11 := Y3.out.cell 1 rfl
  have f11 := Y3.out.frozen 1
  have q12 := Y3.out.cell 2 rfl
  have f12 := Y3.out.frozen 2
  have hl1 := Y3.out.lt
  go_wp2
  simp only [bodyPost]
  refine ⟨trivial, _, ?_, rfl, ?_⟩
  · simp only [results, Tryd.results19]
    go_simp
  · (repeat' first | (with_reducible exact HB3.out) | (with_reducible refine bel_set0 ?_ ?_) | (with_reducible refine bel_alloc0 ?_) | (dsimp only; omega))


set_option maxHeartbeats 4000000 in
theorem sNumRoot_yes (up dn : ByteArray) (u s : Nat) (w : World) (hu : up.size ≤ maxLen) (hd : dn.size ≤ maxLen) (H1 : Hid (okN false up.data.toList dn.data.toList = true)) (e1 : (dn.toList == [49]) = true) (s1 : up.size ≤ 60) (D1 : Hid (Dm.isDec up.data.toList u)) (hs : Dm.isRoot u s) :
    Calls Tryd.prog 19 #[.agg #[.bool false, .string up, .string dn]] w fun e w' => e = twoNums false (decS s) ⟨#[49]⟩ false (decS (u - s * s)) ⟨#[49]⟩ 0 ∧ Below w.heap.size w w' := by
  show Calls _ _ _ _ _
  unfold twoNums
  have HSR : Hid (Dm.isRoot u s) := hs
  obtain ⟨S1, hS1⟩ : ∃ S, S = decS s := ⟨_, rfl⟩
  obtain ⟨S2, hS2⟩ : ∃ S, S = decS (u - s * s) := ⟨_, rfl⟩
  rw [← hS1, ← hS2]
  have ES1 : Hid (S1 = decS s) := hS1
  have ES2 : Hid (S2 = decS (u - s * s)) := hS2
  have HSG : Hid (∀ (x : ByteArray) (W : World), Calls Tryd.prog 23 #[.bool false, .string x] W fun e w' => e = .returned (.agg #[.bool false, .string x, .string ⟨#[49]⟩]) ∧ Below W.heap.size W w') := by
    intro x W
    have h := l4Sign_any false x _ W rfl
    rw [Bool.false_and] at h
    exact h
  clear hS1 hS2
  obtain ⟨n, hn⟩ : ∃ n, n = up.size / 2 + 1 := ⟨_, rfl⟩
  have hn1 : n ≤ 31 := by omega
  have hn0 : 1 ≤ n := by omega
  have hni : (up.size : Int) / 2 + 1 = (n : Int) := by omega
  have hnt : (up.size : Int).tdiv 2 + 1 = (n : Int) := by rw [Int.tdiv_eq_ediv_of_nonneg (by omega)]; exact hni
  have hstart : u < ((0 + 1) * 10 ^ n) * ((0 + 1) * 10 ^ n) := by
    have h1 := Dm.isDec_high _ _ D1.out
    have e2 : up.data.toList.length = up.size := Array.length_toList
    rw [e2] at h1
    rw [Nat.zero_add, Nat.one_mul, ← Nat.pow_add]
    exact Nat.lt_of_lt_of_le h1 (Nat.pow_le_pow_right (by omega) (by omega))
  have HST : Hid (u < ((0 + 1) * 10 ^ n) * ((0 + 1) * 10 ^ n)) := hstart
  have H0 : Hid (Dm.isDec (ByteArray.mk #[48]).data.toList 0) := by
    refine ⟨by simp, ?_, rfl, by simp⟩
    intro c hc; simp at hc; subst hc; exact ⟨by decide, by decide⟩
  have HONE : Hid (Dm.isDec (ByteArray.mk #[49]).data.toList 1) := by
    refine ⟨by simp, ?_, rfl, by simp⟩
    intro c hc; simp at hc; subst hc; exact ⟨by decide, by decide⟩
  clear hs hn hstart
  go_enter Tryd.func19, Tryd.ntmps19
  go_wp2_with fail
  obtain ⟨V, hV, hBV, x0, x1, x2⟩ := boxes3 w #[Value.bool false, Value.string up, Value.string dn] #[Value.bool false, Value.string ⟨#[]⟩, Value.string ⟨#[]⟩] #[Value.bool false, Value.string ⟨#[]⟩, Value.string ⟨#[]⟩] 25 25 25
  rw [← hV]
  have HBV : Hid (Below w.heap.size w V) := hBV
  have Z0 : Hid (boxAt V _ _ _) := x0
  have Z2 : Hid (boxAt V _ _ _) := x1
  have Z3 : Hid (boxAt V _ _ _) := x2
  clear hV hBV x0 x1 x2
  refine (specOk_c false up dn _ _ hu hd H1.out).mono ?_
  rintro e w3 ⟨rfl, hb3⟩
  have HB3 : Hid (Below w.heap.size w w3) := HBV.out.trans (hb3.mono HBV.out.size)
  have Y0 : Hid (boxAt w3 _ _ _) := Z0.out.on hb3
  have Y2 : Hid (boxAt w3 _ _ _) := Z2.out.on hb3
  have Y3 : Hid (boxAt w3 _ _ _) := Z3.out.on hb3
  clear hb3 Z0 Z2 Z3 HBV
  have k00 := Y0.out.cell 0 rfl
  have k01 := Y0.out.cell 1 rfl
  have k02 := Y0.out.cell 2 rfl
  go_wp2_with fail
  go_loopw [6, 7] (fun a b wr => ∃ (q : ByteArray) (i m : Nat), a = .string q ∧ b = .int .i64 i ∧ i ≤ n ∧ Hid (Dm.isDec q.data.toList m) ∧ Hid ((m * 10 ^ (n - i)) * (m * 10 ^ (n - i)) ≤ u) ∧ Hid (u < ((m + 1) * 10 ^ (n - i)) * ((m + 1) * 10 ^ (n - i))) ∧
      Hid (boxAt wr w.heap.size #[Value.bool false, Value.string up, Value.string dn] 25) ∧ Hid (boxAt wr (w.heap.size + 1) #[Value.bool false, Value.string ⟨#[]⟩, Value.string ⟨#[]⟩] 25) ∧ Hid (boxAt wr (w.heap.size + 1 + 1) #[Value.bool false, Value.string ⟨#[]⟩, Value.string ⟨#[]⟩] 25) ∧ Below w.heap.size w wr)
    (fun _ b _ => n - (intOf b).toNat)
  case atStart => exact ⟨_, 0, 0, rfl, rfl, Nat.zero_le _, H0, by show _ ≤ _; rw [Nat.zero_mul, Nat.zero_mul]; exact Nat.zero_le _, HST, Y0, Y2, Y3, HB3.out⟩
  case round =>
    obtain ⟨q, i, m, rfl, rfl, hi, hq, hlo, hhi, hx0, hx2, hx3, hb⟩ := hrel
    have hBs := hb.size
    clear k00 k01 k02 Y0 Y2 Y3 HB3
    have hP0 : 0 < 10 ^ (n - i) := Nat.pow_pos (by decide)
    have hmu := sqLe m _ u hP0 hlo.out
    have hqs := lenLe q m hq.out u hmu up D1.out 60 s1
    have k01 : wr.cell? ⟨w.heap.size, 1, none⟩ = some (.string up) := hx0.out.cell 1 rfl
    by_cases hlt : i < n
    · obtain ⟨p, hp⟩ : ∃ p, p = n - 1 - i := ⟨_, rfl⟩
      have hpi : (n : Int) - 1 - (i : Int) = (p : Int) := by omega
      have hp2 : n - i = p + 1 := by omega
      have hp3 : n - (i + 1) = p := by omega
      have hp4 : p ≤ 1000 := by omega
      rw [hp2, Nat.pow_succ, Nat.mul_comm (10 ^ p) 10] at hlo hhi
      have HP3 : Hid (n - (i + 1) = p) := hp3
      have hlo2 := Dm.root_next hlo.out
      have hhi2 := Dm.root_place hhi.out
      have HHI : Hid (u < ((10 * m + 9 + 1) * 10 ^ p) * ((10 * m + 9 + 1) * 10 ^ p)) := hhi2
      have HLO : Hid (((10 * m) * 10 ^ p) * ((10 * m) * 10 ^ p) ≤ u) := hlo2
      have hdr := Dm.div_read q.data.toList m 48 hq.out ⟨by decide, by decide⟩
      rw [← app0_data] at hdr
      have hz2 := app0_size q
      have hmx : (q ++ (⟨#[48]⟩ : ByteArray)).size ≤ maxLen := by rw [hz2]; unfold maxLen; omega
      have hz0 : 0 < (q ++ (⟨#[48]⟩ : ByteArray)).size := by rw [hz2]; omega
      have HDR : Hid (Dm.isDec (Dm.trimZ (q ++ (⟨#[48]⟩ : ByteArray)).data.toList) (10 * m)) := by
        have e : m * 10 + ((48 : UInt8).toNat - 48) = 10 * m := by
          have : (48 : UInt8).toNat - 48 = 0 := rfl
          omega
        rw [← e]; exact hdr
      clear hlo hhi hlo2 hhi2 hdr hp hp2 hp3 hP0 hq hmu
      go_wp2_with fail
      refine (l1Trim_any _ _ hmx hz0).mono ?_
      rintro e w4 ⟨⟨t, rfl, ht⟩, rfl⟩
      rw [← ht] at HDR
      clear ht hmx hz0 hz2 hqs
      go_wp2
      go_loopw [6, 8] (fun a d wx => ∃ (q2 : ByteArray) (j : Nat), a = .string q2 ∧ d = .int .i64 j ∧ j ≤ 9 ∧ Hid (Dm.isDec q2.data.toList (10 * m + j)) ∧ Hid (((10 * m + j) * 10 ^ p) * ((10 * m + j) * 10 ^ p) ≤ u) ∧
          Hid (boxAt wx w.heap.size #[Value.bool false, Value.string up, Value.string dn] 25) ∧ Hid (boxAt wx (w.heap.size + 1) #[Value.bool false, Value.string ⟨#[]⟩, Value.string ⟨#[]⟩] 25) ∧ Hid (boxAt wx (w.heap.size + 1 + 1) #[Value.bool false, Value.string ⟨#[]⟩, Value.string ⟨#[]⟩] 25) ∧ Below w.heap.size w wx)
        (fun _ d _ => 9 - (intOf d).toNat)
      case atStart => exact ⟨t, 0, rfl, rfl, by omega, HDR, HLO, hx0, hx2, hx3, hb⟩
      case round =>
        obtain ⟨q2, j, rfl, rfl, hj, hq2, hl2, hy0, hy2, hy3, hbx⟩ := hrel
        clear k01 hx0 hx2 hx3 hb HDR HLO hBs
        have hBs := hbx.size
        have hP1 : 0 < 10 ^ p := Nat.pow_pos (by decide)
        have hm2 := sqLe (10 * m + j) _ u hP1 hl2.out
        have hq2s := lenLe q2 _ hq2.out u hm2 up D1.out 60 s1
        clear hP1 hm2
        by_cases hj9 : j < 9
        · go_wp2_with fail
          refine (l5Step_any q2 (10 * m + j) p _ (by omega) hq2.out hp4).mono ?_
          rintro e w5 ⟨⟨t5, rfl, ht5, hz5⟩, hb5⟩
          obtain ⟨X, hX⟩ : ∃ X, X = (10 * m + j + 1) * 10 ^ p := ⟨_, rfl⟩
          rw [← hX] at ht5
          have HX : Hid (X = (10 * m + j + 1) * 10 ^ p) := hX
          have HT5 : Hid (Dm.isDec t5.data.toList X) := ht5
          have HB5 : Hid (Below w.heap.size w w5) := hbx.trans (hb5.mono hBs)
          have B0 : Hid (boxAt w5 _ _ _) := hy0.out.on hb5
          have B2 : Hid (boxAt w5 _ _ _) := hy2.out.on hb5
          have B3 : Hid (boxAt w5 _ _ _) := hy3.out.on hb5
          clear hb5 ht5 hX hy0 hy2 hy3 hbx hBs
          have k01 : w5.cell? ⟨w.heap.size, 1, none⟩ = some (.string up) := B0.out.cell 1 rfl
          go_wp2_with fail
          go_region_held3 (fun w' => w'.cell? ⟨w.heap.size, 1, none⟩ = some (.string up))
            (((repeat' first | (with_reducible assumption) | (with_reducible refine keep_drew ?_)) <;> done))
            (first
              | (go_at_call 43; refine (l1Mul_any t5 t5 X X _ (by omega) (by omega) HT5.out HT5.out).mono ?_; rintro e w6 ⟨⟨t6, rfl, ht6⟩, hb6⟩; have HT6 : Hid (Dm.isDec t6.data.toList (X * X)) := ht6; have C0 : Hid (boxAt w6 _ _ _) := B0.out.drew.on hb6; have C2 : Hid (boxAt w6 _ _ _) := B2.out.drew.on hb6; have C3 : Hid (boxAt w6 _ _ _) := B3.out.drew.on hb6; have HB6 : Hid (Below w.heap.size w w6) := HB5.out.drew.trans (hb6.mono HB5.out.size); have j01 : w6.cell? ⟨w.heap.size, 1, none⟩ = some (.string up) := C0.out.cell 1 rfl; clear hb6 ht6)
              | (go_at_call 42; refine (l1Cmp_ex t6 up (X * X) u _ HT6.out D1.out).mono ?_; rintro e w7 ⟨⟨c, rfl, hc, hc1, hc2⟩, rfl⟩))
          by_cases hgt : u < X * X
          · have hc3 : c = 1 := hc.out.trans (cmpI_gt hgt)
            subst hc3
            have HU : Hid (u < ((10 * m + j + 1) * 10 ^ (n - (i + 1))) * ((10 * m + j + 1) * 10 ^ (n - (i + 1)))) := by
              show _ < _; rw [HP3.out, ← HX.out]; exact hgt
            have HL : Hid (((10 * m + j) * 10 ^ (n - (i + 1))) * ((10 * m + j) * 10 ^ (n - (i + 1))) ≤ u) := by
              show _ ≤ _; rw [HP3.out]; exact hl2.out
            clear hc hl2 hgt
            go_wp2
            go_roundw
            case rel => exact ⟨q2, i + 1, 10 * m + j, rfl, by go_num, by omega, hq2, HL, HU, C0, C2, C3, HB6.out⟩
            case measure => simp [intOf]; omega
          · have hcn : ¬ 0 < c := by
              rw [hc.out]; unfold cmpI; split <;> (try split) <;> omega
            have HL : Hid (((10 * m + (j + 1)) * 10 ^ p) * ((10 * m + (j + 1)) * 10 ^ p) ≤ u) := by
              show _ ≤ _; rw [show 10 * m + (j + 1) = 10 * m + j + 1 from rfl, ← HX.out]; omega
            clear hc hl2 hgt
            go_wp2_with fail
            refine (l1Add_any q2 ⟨#[49]⟩ (10 * m + j) 1 _ (by omega) (by show 1 ≤ _; omega) hq2.out HONE.out).mono ?_
            rintro e w8 ⟨⟨t8, rfl, ht8⟩, hb8⟩
            have HT8 : Hid (Dm.isDec t8.data.toList (10 * m + (j + 1))) := ht8
            have D0 : Hid (boxAt w8 _ _ _) := C0.out.on hb8
            have D2 : Hid (boxAt w8 _ _ _) := C2.out.on hb8
            have D3 : Hid (boxAt w8 _ _ _) := C3.out.on hb8
            have HB8 : Below w.heap.size w w8 := HB6.out.trans (hb8.mono HB6.out.size)
            clear hb8 ht8 C0 C2 C3 HB6
            go_wp2
            go_roundw
            case rel => exact ⟨t8, j + 1, rfl, by go_num, by omega, HT8, HL, D0, D2, D3, HB8⟩
            case measure => simp [intOf]; omega
        · have hj10 : j = 9 := by omega
          subst hj10
          have HU : Hid (u < ((10 * m + 9 + 1) * 10 ^ (n - (i + 1))) * ((10 * m + 9 + 1) * 10 ^ (n - (i + 1)))) := by
            show _ < _; rw [HP3.out]; exact HHI.out
          have HL : Hid (((10 * m + 9) * 10 ^ (n - (i + 1))) * ((10 * m + 9) * 10 ^ (n - (i + 1))) ≤ u) := by
            show _ ≤ _; rw [HP3.out]; exact hl2.out
          clear hl2 hj9
          go_wp2
          go_roundw
          case rel => exact ⟨q2, i + 1, 10 * m + 9, rfl, by go_num, by omega, hq2, HL, HU, hy0, hy2, hy3, hbx⟩
          case measure => simp [intOf]; omega
    · have hin : i = n := by omega
      subst hin
      have em : m = s := by
        refine Dm.isRoot_unique ⟨?_, ?_⟩ HSR.out
        · have h := hlo.out; rw [Nat.sub_self, Nat.pow_zero, Nat.mul_one] at h; exact h
        · have h := hhi.out; rw [Nat.sub_self, Nat.pow_zero, Nat.mul_one] at h; exact h
      subst em
      have hsq : m * m ≤ u := HSR.out.1
      have HSQ : Hid (m * m ≤ u) := hsq
      have eq : q = S1 := (dec_eq hq.out).trans ES1.out.symm
      subst eq
      clear hlo hhi hsq hP0 hmu
      have hltx := hx3.out.lt
      have hb9 : Hid (Below w.heap.size w wr) := hb
      clear hb
      go_wp2_with fail
      refine Go.wp_mono (Q := fun e a' w' => match e with | .normal => (∃ us : Array Value, a' = { tmps := us, defers := [] } ∧ us[2]? = some (.pointer (some ⟨w.heap.size + 1, 0, none⟩)) ∧ us[3]? = some (.pointer (some ⟨w.heap.size + 1 + 1, 0, none⟩)) ∧ us[4]? = some (.int .i64 0)) ∧ ((w'.cell? ⟨w.heap.size + 1, 0, none⟩ = some (.bool false) ∧ w'.cell? ⟨w.heap.size + 1, 1, none⟩ = some (.string q) ∧ w'.cell? ⟨w.heap.size + 1, 2, none⟩ = some (.string ⟨#[49]⟩)) ∧ (w'.cell? ⟨w.heap.size + 1 + 1, 0, none⟩ = some (.bool false) ∧ w'.cell? ⟨w.heap.size + 1 + 1, 1, none⟩ = some (.string S2) ∧ w'.cell? ⟨w.heap.size + 1 + 1, 2, none⟩ = some (.string ⟨#[49]⟩))) ∧ Below w.heap.size w w' | _ => False) ?_ ?_
      · go_region_held3 (fun w' => w'.cell? ⟨w.heap.size, 1, none⟩ = some (.string up))
          (((repeat' first | (with_reducible assumption) | (with_reducible refine keep_set ?_ ?_) | (with_reducible refine keep_drew ?_) | omega) <;> done))
          (first
            | (go_at_call_of 23 (Value.string q); refine (HSG.out q _).mono ?_; rintro e wb ⟨rfl, hbb⟩; have B0 : Hid (boxAt wb _ _ _) := hx0.out.drew.on hbb; have B2 : Hid (boxAt wb _ _ _) := hx2.out.drew.on hbb; have B3 : Hid (boxAt wb _ _ _) := hx3.out.drew.on hbb; have b0 : wb.cell? ⟨w.heap.size, 1, none⟩ = some (.string up) := B0.out.cell 1 rfl; have HBb : Hid (Below w.heap.size w wb) := hb9.out.drew.trans (hbb.mono hb9.out.size); clear hbb)
            | (go_at_call 43; refine (l1Mul_any q q m m _ (by omega) (by omega) hq.out hq.out).mono ?_; rintro e wc ⟨⟨t6, rfl, ht6⟩, hbc⟩; have HT6 : Hid (Dm.isDec t6.data.toList (m * m)) := ht6; have h60 := lenLe t6 _ ht6 u HSQ.out up D1.out 60 s1; have C0 : Hid (boxAt wc _ _ _) := B0.out.on hbc; have C2 : Hid (boxAt wc _ _ _) := B2.out.on hbc; have C3 : Hid (boxAt wc _ _ _) := B3.out.on hbc; have c0 : wc.cell? ⟨w.heap.size, 1, none⟩ = some (.string up) := C0.out.cell 1 rfl; have HBc : Hid (Below w.heap.size w wc) := HBb.out.trans (hbc.mono HBb.out.size); clear hbc ht6)
            | (go_at_call 28; refine (l1Sub_any up t6 u (m * m) _ (by omega) (by omega) D1.out HT6.out HSQ.out).mono ?_; rintro e wd ⟨⟨t7, rfl, ht7⟩, hbd⟩; have e7 : t7 = S2 := (dec_eq ht7).trans ES2.out.symm; subst e7; have D0 : Hid (boxAt wd _ _ _) := C0.out.on hbd; have D2 : Hid (boxAt wd _ _ _) := C2.out.on hbd; have D3 : Hid (boxAt wd _ _ _) := C3.out.on hbd; have d0 : wd.cell? ⟨w.heap.size, 1, none⟩ = some (.string up) := D0.out.cell 1 rfl; have HBd : Hid (Below w.heap.size w wd) := HBc.out.trans (hbd.mono HBc.out.size); clear hbd ht7)
            | (go_at_call 23; refine (HSG.out _ _).mono ?_; rintro e we ⟨rfl, hbe⟩; have E0 : Hid (boxAt we _ _ _) := D0.out.on hbe; have E2 : Hid (boxAt we _ _ _) := D2.out.on hbe; have E3 : Hid (boxAt we _ _ _) := D3.out.on hbe; have e0 : we.cell? ⟨w.heap.size, 1, none⟩ = some (.string up) := E0.out.cell 1 rfl; have HBe : Hid (Below w.heap.size w we) := HBd.out.trans (hbe.mono HBd.out.size); have r0 := E2.out.cell 0 rfl; have r1 := E2.out.cell 1 rfl; have r2 := E2.out.cell 2 rfl; have g0 := E2.out.frozen 0; have g1 := E2.out.frozen 1; have g2 := E2.out.frozen 2; have r3 := E3.out.cell 0 rfl; have r4 := E3.out.cell 1 rfl; have r5 := E3.out.cell 2 rfl; have g3 := E3.out.frozen 0; have g4 := E3.out.frozen 1; have g5 := E3.out.frozen 2; have hlE := E3.out.lt; clear hbe))
        all_goals
          refine ⟨⟨_, rfl, rfl, rfl, rfl⟩, ⟨⟨?_, ?_, ?_⟩, ?_, ?_, ?_⟩, ?_⟩
          · go_simp
          · go_simp
          · go_simp
          · go_simp
          · go_simp
          · go_simp
          · (repeat' first | (with_reducible exact HBe.out) | (with_reducible refine bel_set0 ?_ ?_) | (with_reducible refine bel_drew0 ?_) | (dsimp only; omega))
      · intro e a' w' hq
        cases e
        case normal =>
          obtain ⟨⟨us, rfl, hus4, hus5, hus6⟩, ⟨⟨hv0, hv1, hv2⟩, hv3, hv4, hv5⟩, hb⟩ := hq
          go_wp2
          simp only [bodyPost]
          refine ⟨trivial, _, ?_, rfl, hb⟩
          simp only [results, Tryd.results19]
          go_simp
        all_goals exact hq.elim

end Go.Proofs.YtaggfbffdbompaaDoor
