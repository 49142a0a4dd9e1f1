/-
  The contract of the specification's NumPower: round after round.
-/
import Derived.Test.YtaggfbffdbompaaDoorPwS
import Derived.Test.YtaggfbffdbompaaDoorWRoot3
import Derived.Test.YtaggfbffdbompaaDoorPwC
import Derived.Test.YtaggfbffdbompaaDoorWLaw0
namespace Go.Proofs.YtaggfbffdbompaaDoor
set_option maxRecDepth 100000
set_option linter.unusedVariables false
set_option linter.unusedSimpArgs false
open Go.RowKit
attribute [local go_sem ↓] Go.wp_at_zero Go.wp_at_succ

def spC (neg : Bool) (u d i : Nat) : Bool := numC (neg && i % 2 == 1) (u ^ i) (d ^ i)
def spU (u d i : Nat) : ByteArray := numU (u ^ i) (d ^ i)
def spD (u d i : Nat) : ByteArray := numD (u ^ i) (d ^ i)

theorem cop_pow {u d : Nat} (h : Nat.gcd u d = 1) (i : Nat) : Nat.gcd (u ^ i) (d ^ i) = 1 := Nat.Coprime.pow i i h

theorem sp_u {u d i : Nat} (h : Nat.gcd u d = 1) (hb : numB (u ^ i) (d ^ i) = true) : spU u d i = decS (u ^ i) := by
  unfold spU numU; rw [if_pos hb, cop_pow h, Nat.div_one]

theorem sp_d {u d i : Nat} (h : Nat.gcd u d = 1) (hb : numB (u ^ i) (d ^ i) = true) : spD u d i = decS (d ^ i) := by
  unfold spD numD; rw [if_pos hb, cop_pow h, Nat.div_one]

theorem sp_sz {u d i : Nat} (h : Nat.gcd u d = 1) (hb : numB (u ^ i) (d ^ i) = true) : (spU u d i).size ≤ 60 ∧ (spD u d i).size ≤ 60 := by
  rw [sp_u h hb, sp_d h hb]
  unfold numB at hb
  rw [cop_pow h, Nat.div_one, Nat.div_one] at hb
  unfold short at hb
  rw [Bool.and_eq_true, decide_eq_true_eq, decide_eq_true_eq] at hb
  exact hb

theorem sp_ok {u d i : Nat} (neg : Bool) (h : Nat.gcd u d = 1) (hd : d ≠ 0) (hb : numB (u ^ i) (d ^ i) = true) : okN (spC neg u d i) (spU u d i).data.toList (spD u d i).data.toList = true := by
  have hz := sp_sz h hb
  rw [sp_u h hb, sp_d h hb] at hz ⊢
  have h1 := decS_dec (u ^ i)
  have h2 := decS_dec (d ^ i)
  have hd0 : d ^ i ≠ 0 := by have := Nat.pow_pos (n := i) (Nat.pos_of_ne_zero hd); omega
  have l1 : (decS (u ^ i)).data.toList.length = (decS (u ^ i)).size := Array.length_toList
  have l2 : (decS (d ^ i)).data.toList.length = (decS (d ^ i)).size := Array.length_toList
  have e1 : Dm.val (decS (u ^ i)).data.toList = u ^ i := h1.2.2.1
  have e2 : Dm.val (decS (d ^ i)).data.toList = d ^ i := h2.2.2.1
  have H0 : ∀ n, Dm.isDec [48] n → n = 0 := fun n hn => by rw [← hn.2.2.1]; rfl
  unfold okN
  rw [e1, e2, cop_pow h]
  simp only [Bool.and_eq_true, decide_eq_true_eq, Bool.not_eq_true', beq_iff_eq, beq_self_eq_true, and_true]
  refine ⟨⟨⟨⟨⟨by omega, by omega⟩, (okB_iff _).2 (by rw [e1]; exact h1)⟩, (okB_iff _).2 (by rw [e2]; exact h2)⟩, ?_⟩, ?_⟩
  · rw [beq_eq_false_iff_ne]; intro e; rw [e] at h2; exact hd0 (H0 _ h2)
  · rw [Bool.and_eq_false_iff]
    by_cases hu : u ^ i = 0
    · left; unfold spC numC; rw [decide_eq_false (by omega : ¬ u ^ i ≠ 0), Bool.and_false, Bool.and_false]
    · right; rw [beq_eq_false_iff_ne]; intro e; rw [e] at h1; exact hu (H0 _ h1)

theorem sp_step (neg : Bool) (u d i : Nat) (hb : numB (u ^ i) (d ^ i) = true) : numC (spC neg u d i != neg) (u ^ (i + 1)) (d ^ (i + 1)) = spC neg u d (i + 1) := by
  have e : spC neg u d i = ((neg && i % 2 == 1) && decide (u ^ i ≠ 0)) := by unfold spC numC; rw [hb, Bool.true_and]
  unfold spC at e ⊢
  rw [e]
  unfold numC
  by_cases h1 : u ^ (i + 1) = 0
  · rw [decide_eq_false (by omega : ¬ u ^ (i + 1) ≠ 0)]; simp
  · have h2 : u ^ i ≠ 0 := by intro h; rw [Nat.pow_succ, h, Nat.zero_mul] at h1; exact h1 rfl
    rw [decide_eq_true h2, decide_eq_true h1]
    rcases Nat.mod_two_eq_zero_or_one i with h | h
    · have h3 : (i + 1) % 2 = 1 := by omega
      rw [h, h3]; cases neg <;> simp
    · have h3 : (i + 1) % 2 = 0 := by omega
      rw [h, h3]; cases neg <;> simp

/-- What stands between two rounds of the specification's NumPower. -/
structure SpInv (w : World) (xb : Nat) (neg : Bool) (X1 X2 : ByteArray) (u d i : Nat) (W : World) : Prop where
  res : boxAt W (w.heap.size + 1) #[.bool false, .string ⟨#[]⟩, .string ⟨#[]⟩] 25
  x : boxAt W xb #[.bool neg, .string X1, .string X2] 25
  out : boxAt W (xb + 1) #[.bool (spC neg u d i), .string (spU u d i), .string (spD u d i)] 25
  ok : numB (u ^ i) (d ^ i) = true
  bel : Below w.heap.size w W
  lt : w.heap.size + 1 < xb

theorem dec1 : decS 1 = ⟨#[49]⟩ := by
  refine (dec_eq (s := ⟨#[49]⟩) (n := 1) ?_).symm
  refine ⟨by simp, ?_, rfl, by simp⟩
  intro c hc; simp at hc; subst hc; exact ⟨by decide, by decide⟩

theorem sp_zero (u d : Nat) (neg : Bool) : numB (u ^ 0) (d ^ 0) = true ∧ spC neg u d 0 = false ∧ spU u d 0 = ⟨#[49]⟩ ∧ spD u d 0 = ⟨#[49]⟩ := by
  have g : (1 : Nat) / Nat.gcd 1 1 = 1 := by rw [Nat.gcd_self]
  have h : numB (u ^ 0) (d ^ 0) = true := by
    rw [Nat.pow_zero, Nat.pow_zero]; unfold numB short; rw [g, dec1]; rfl
  refine ⟨h, ?_, ?_, ?_⟩
  · unfold spC numC; simp
  · unfold spU numU; rw [if_pos h, Nat.pow_zero, Nat.pow_zero, g, dec1]
  · unfold spD numD; rw [if_pos h, Nat.pow_zero, Nat.pow_zero, g, dec1]

theorem pw_code {neg : Bool} {u d t : Nat} {C : Bool} {U D : ByteArray} {K : Int} (h : C = numC (neg && t % 2 == 1) (u ^ t) (d ^ t) ∧ U = numU (u ^ t) (d ^ t) ∧ D = numD (u ^ t) (d ^ t) ∧ K = numK (u ^ t) (d ^ t)) (hb : numB (u ^ t) (d ^ t) = true) :
    spC neg u d t = C ∧ spU u d t = U ∧ spD u d t = D ∧ 0 = K := by
  refine ⟨h.1.symm, h.2.1.symm, h.2.2.1.symm, ?_⟩
  rw [h.2.2.2, num_yes hb]

theorem sz60 (n : Nat) : decide ((decS n).size ≤ 60) = !(big n) := by
  unfold big
  rw [← decide_not]
  refine decide_eq_decide.2 ⟨fun h => ?_, fun h => ?_⟩
  · have h1 := Dm.isDec_high _ _ (decS_dec n)
    have e1 : (decS n).data.toList.length = (decS n).size := Array.length_toList
    rw [e1] at h1
    have h2 : 10 ^ (decS n).size ≤ 10 ^ 60 := Nat.pow_le_pow_right (by omega) h
    omega
  · exact decLen (decS n) n 60 (decS_dec n) (by omega) (by omega)

theorem numB_big {u d : Nat} (h : Nat.gcd u d = 1) (p : Nat) : numB (u ^ p) (d ^ p) = !(pBig u d p) := by
  unfold numB short pBig
  rw [cop_pow h, Nat.div_one, Nat.div_one, sz60, sz60, Bool.not_or]

theorem numB_no {u d : Nat} (h : Nat.gcd u d = 1) {p t : Nat} (hp : p ≤ t) (hb : numB (u ^ p) (d ^ p) = false) : numB (u ^ t) (d ^ t) = false := by
  rw [numB_big h] at hb ⊢
  rw [Bool.not_eq_false'] at hb ⊢
  exact pBig_mono u d p t hp hb

theorem pw_codeN {neg : Bool} {u d t : Nat} {C : Bool} {U D : ByteArray} {K : Int} (h : C = numC (neg && t % 2 == 1) (u ^ t) (d ^ t) ∧ U = numU (u ^ t) (d ^ t) ∧ D = numD (u ^ t) (d ^ t) ∧ K = numK (u ^ t) (d ^ t)) (hb : numB (u ^ t) (d ^ t) = false) :
    C = false ∧ U = ⟨#[]⟩ ∧ D = ⟨#[]⟩ ∧ K = 3 := by
  obtain ⟨e1, e2, e3, e4⟩ := num_no (neg := (neg && t % 2 == 1)) hb
  exact ⟨h.1.trans e1, h.2.1.trans e2, h.2.2.1.trans e3, h.2.2.2.trans e4⟩

theorem sp_du {u d i : Nat} (h : Nat.gcd u d = 1) (hb : numB (u ^ i) (d ^ i) = true) : Dm.isDec (spU u d i).data.toList (u ^ i) ∧ Dm.isDec (spD u d i).data.toList (d ^ i) := by
  rw [sp_u h hb, sp_d h hb]; exact ⟨decS_dec _, decS_dec _⟩

theorem sp_fits {u d i : Nat} (h : Nat.gcd u d = 1) (hb : numB (u ^ i) (d ^ i) = true) (fu : fits u 7) (fd : fits d 7) : fits (u ^ (i + 1)) 8000 ∧ fits (d ^ (i + 1)) 8000 := by
  rw [numB_big h, Bool.not_eq_true'] at hb
  obtain ⟨f1, f2⟩ := pBig_fits hb
  rw [Nat.pow_succ, Nat.pow_succ]
  exact ⟨(fits_mul0 f1 fu).mono (Nat.le_refl _) (by omega), (fits_mul0 f2 fd).mono (Nat.le_refl _) (by omega)⟩

/-- One round: times once more. -/

theorem sp_mul {neg : Bool} {X1 X2 : ByteArray} {u d i : Nat} (h : Nat.gcd u d = 1) (hd : d ≠ 0) (hb : numB (u ^ i) (d ^ i) = true) (fu : fits u 7) (fd : fits d 7) (D1 : Dm.isDec X1.data.toList u) (D2 : Dm.isDec X2.data.toList d) (s1 : X1.size ≤ 60) (s2 : X2.size ≤ 60) (HX : okN neg X1.data.toList X2.data.toList = true) (w : World) :
    Calls Tryd.prog 36 #[.agg #[.bool (spC neg u d i), .string (spU u d i), .string (spD u d i)], .agg #[.bool neg, .string X1, .string X2]] w fun e w' => e = .returned (.tuple #[.agg #[.bool (spC neg u d (i + 1)), .string (spU u d (i + 1)), .string (spD u d (i + 1))], .int .i64 (numK (u ^ (i + 1)) (d ^ (i + 1)))]) ∧ Below w.heap.size w w' := by
  have hz := sp_sz h hb
  have hdu := sp_du h hb
  have hf := sp_fits h hb fu fd
  have hd0 : d ^ (i + 1) ≠ 0 := by have := Nat.pow_pos (n := i + 1) (Nat.pos_of_ne_zero hd); omega
  refine sNumMul_yes (spC neg u d i) (spU u d i) (spD u d i) neg X1 X2 (u ^ i) (d ^ i) u d _ _ _ _ w (by unfold maxLen; omega) (by unfold maxLen; omega) (by unfold maxLen; omega) (by unfold maxLen; omega) (sp_ok neg h hd hb) HX hdu.1 hdu.2 D1 D2 hz.1 hz.2 s1 s2 (fun x t1 t2 W hx k1 k2 => ?_)
  have k1' : Dm.isDec t1.data.toList (u ^ (i + 1)) := by rw [Nat.pow_succ]; exact k1.out
  have k2' : Dm.isDec t2.data.toList (d ^ (i + 1)) := by rw [Nat.pow_succ]; exact k2.out
  have hl := l3Answer_any x t1 t2 (u ^ (i + 1)) (d ^ (i + 1)) W k1' k2' hd0 hf.1 hf.2
  rw [hx, sp_step neg u d i hb] at hl
  rw [hx]
  exact hl

theorem sp_yes {neg : Bool} {X1 X2 : ByteArray} {u d i : Nat} (HM : Hid (∀ w : World, Calls Tryd.prog 36 #[.agg #[.bool (spC neg u d i), .string (spU u d i), .string (spD u d i)], .agg #[.bool neg, .string X1, .string X2]] w fun e w' => e = .returned (.tuple #[.agg #[.bool (spC neg u d (i + 1)), .string (spU u d (i + 1)), .string (spD u d (i + 1))], .int .i64 (numK (u ^ (i + 1)) (d ^ (i + 1)))]) ∧ Below w.heap.size w w')) (z : Int) (hz : numK (u ^ (i + 1)) (d ^ (i + 1)) = z) (w : World) :
    Calls Tryd.prog 36 #[.agg #[.bool (spC neg u d i), .string (spU u d i), .string (spD u d i)], .agg #[.bool neg, .string X1, .string X2]] w fun e w' => (∃ c1 c2 c3, e = .returned (.tuple #[.agg #[.bool c1, .string c2, .string c3], .int .i64 z]) ∧ Hid (c1 = spC neg u d (i + 1)) ∧ Hid (c2 = spU u d (i + 1)) ∧ Hid (c3 = spD u d (i + 1))) ∧ Below w.heap.size w w' := by
  rw [← hz]; exact (HM.out w).mono fun _ _ h => ⟨⟨_, _, _, h.1, rfl, rfl, rfl⟩, h.2⟩

set_option maxHeartbeats 800000 in
theorem sNumPower_pos (neg : Bool) (up dn : ByteArray) (k : Int) (w : World) (hu : up.size ≤ maxLen) (hd : dn.size ≤ maxLen) (u d t : Nat) (C : Bool) (U D : ByteArray) (K : Int) (HP : Hid (C = numC (neg && t % 2 == 1) (u ^ t) (d ^ t) ∧ U = numU (u ^ t) (d ^ t) ∧ D = numD (u ^ t) (d ^ t) ∧ K = numK (u ^ t) (d ^ t))) (HCOP : Hid (Nat.gcd u d = 1)) (HD0 : Hid (d ≠ 0)) (FU : Hid (fits u 7)) (FD : Hid (fits d 7)) (D1 : Hid (Dm.isDec up.data.toList u)) (D2 : Hid (Dm.isDec dn.data.toList d)) (s1 : up.size ≤ 60) (s2 : dn.size ≤ 60) (HX : Hid (okN neg up.data.toList dn.data.toList = true)) (hK : k = (t : Int)) (ht : t ≤ 1000) (H1 : Hid (okN neg up.data.toList dn.data.toList = true)) (HK : Hid (true = decide (-1000 ≤ k ∧ k ≤ 1000))) (hk : 0 ≤ k) : Ans 17 #[.agg #[.bool neg, .string up, .string dn], .int .i64 k] w C U D K := by
  unfold Ans
  subst hK
  have hk2 : ¬ (t : Int) < 0 := by omega
  go_enter Tryd.func17, Tryd.ntmps17
  go_wp2_with fail
  obtain ⟨V, hV, hBV, x0, x1⟩ := boxes2 w #[Value.bool neg, Value.string up, Value.string dn] #[Value.bool false, Value.string ⟨#[]⟩, Value.string ⟨#[]⟩] 25 25
  rw [← hV]
  have HBV : Hid (Below w.heap.size w V) := hBV
  have Z0 : Hid (boxAt V _ _ _) := x0
  have Z1 : Hid (boxAt V _ _ _) := x1
  clear hV hBV x0 x1
  refine (specNumOk_c neg up dn _ _ hu hd H1.out).mono ?_
  rintro e w3 ⟨rfl, hb3⟩
  have HB3 : Hid (Below w.heap.size w w3) := HBV.out.trans (hb3.mono HBV.out.size)
  have U0 : Hid (boxAt w3 _ _ _) := Z0.out.on hb3
  have U2 : Hid (boxAt w3 _ _ _) := Z1.out.on hb3
  clear hb3 Z1 Z0 HBV
  go_wp2_with fail
  refine (l1In_any t true _ HK.out).mono ?_
  rintro e w' ⟨rfl, rfl⟩
  have k0 := U0.out.cell 0 rfl
  have k1 := U0.out.cell 1 rfl
  have k2 := U0.out.cell 2 rfl
  have hl1 := U0.out.lt
  go_wp2
  obtain ⟨W, hW, hBW, x0, x1⟩ := boxes2 w' #[Value.bool neg, Value.string up, Value.string dn] #[Value.bool false, Value.string ⟨#[49]⟩, Value.string ⟨#[49]⟩] 25 25
  have hS0 : SpInv w w'.heap.size neg up dn u d 0 W := by
    obtain ⟨z0, z1, z2, z3⟩ := sp_zero u d neg
    exact ⟨U2.out.on hBW, x0, by rw [z1, z2, z3]; exact x1, z0, HB3.out.trans (hBW.mono HB3.out.size), U2.out.lt⟩
  have HS0 : Hid _ := hS0
  obtain ⟨xb, hxb⟩ : ∃ xb, xb = w'.heap.size := ⟨_, rfl⟩
  rw [← hW]
  rw [← hxb] at HS0 ⊢
  clear hW hBW x0 x1 hS0 k0 k1 k2 hl1 hxb U0 U2
  go_loopw [8] (fun a wr => ∃ i : Nat, i ≤ t ∧ a = .int .i64 i ∧ SpInv w xb neg up dn u d i wr)
    (fun a _ => t - (intOf a).toNat)
  case atStart => exact ⟨0, Nat.zero_le _, rfl, HS0.out⟩
  case round =>
    obtain ⟨i, hi, rfl, hI⟩ := hrel
    have HI : Hid _ := hI
    clear hI
    have r0 := HI.out.res.cell 0 rfl
    have r1 := HI.out.res.cell 1 rfl
    have r2 := HI.out.res.cell 2 rfl
    have fr0 := HI.out.res.frozen 0
    have fr1 := HI.out.res.frozen 1
    have fr2 := HI.out.res.frozen 2
    have y0 := HI.out.x.cell 0 rfl
    have y1 := HI.out.x.cell 1 rfl
    have y2 := HI.out.x.cell 2 rfl
    have o0 := HI.out.out.cell 0 rfl
    have o1 := HI.out.out.cell 1 rfl
    have o2 := HI.out.out.cell 2 rfl
    by_cases hlt : i < t
    · have hlt2 : (i : Int) < t := by omega
      have HM : Hid _ := sp_mul HCOP.out HD0.out HI.out.ok FU.out FD.out D1.out D2.out s1 s2 HX.out
      cases hb2 : numB (u ^ (i + 1)) (d ^ (i + 1))
      · have HN : Hid _ := numB_no HCOP.out (show i + 1 ≤ t by omega) hb2
        have hz3 : numK (u ^ (i + 1)) (d ^ (i + 1)) = 3 := (num_no (neg := false) hb2).2.2.2
        have HZ3 : Hid _ := hz3
        clear hz3
        go_wp2_with fail
        refine (sp_yes HM 3 HZ3.out _).mono ?_
        rintro e w5 ⟨⟨c1, c2, c3, rfl, hc1, hc2, hc3⟩, hb5⟩
        have HB5 : Hid _ := hb5
        have XR : Hid (boxAt w5 _ _ _) := HI.out.res.on hb5
        have HBL : Hid (Below w.heap.size w w5) := HI.out.bel.trans (hb5.mono HI.out.bel.size)
        clear hb5 r0 r1 r2 fr0 fr1 fr2 y0 y1 y2 o0 o1 o2 hb2 HZ3
        have r0 := XR.out.cell 0 rfl
        have r1 := XR.out.cell 1 rfl
        have r2 := XR.out.cell 2 rfl
        have fr0 := XR.out.frozen 0
        have fr1 := XR.out.frozen 1
        have fr2 := XR.out.frozen 2
        have hlr := XR.out.lt
        go_wp2
        simp only [bodyPost]
        obtain ⟨rfl, rfl, rfl, rfl⟩ := pw_codeN HP.out HN.out
        have e1 : w.heap.size ≤ w.heap.size + 1 := by omega
        refine ⟨trivial, _, ?_, rfl, ?_⟩
        · simp only [results, Tryd.results17]
          go_simp
        · with_reducible refine belA (belS (belS (belS HBL.out ?_) ?_) ?_) <;> exact e1
      · have hz0 : numK (u ^ (i + 1)) (d ^ (i + 1)) = 0 := num_yes hb2
        have HZ0 : Hid _ := hz0
        have HB2 : Hid (numB (u ^ (i + 1)) (d ^ (i + 1)) = true) := hb2
        clear hz0
        go_wp2_with fail
        refine (sp_yes HM 0 HZ0.out _).mono ?_
        rintro e w5 ⟨⟨c1, c2, c3, rfl, hc1, hc2, hc3⟩, hb5⟩
        have XR : Hid (boxAt w5 _ _ _) := HI.out.res.on hb5
        have XX : Hid (boxAt w5 _ _ _) := HI.out.x.on hb5
        have XO : Hid (boxAt w5 _ _ _) := HI.out.out.on hb5
        have HBL : Hid (Below w.heap.size w w5) := HI.out.bel.trans (hb5.mono HI.out.bel.size)
        clear hb5 r0 r1 r2 fr0 fr1 fr2 y0 y1 y2 o0 o1 o2 hb2 HZ0
        have r0 := XO.out.cell 0 rfl
        have r1 := XO.out.cell 1 rfl
        have r2 := XO.out.cell 2 rfl
        have fr0 := XO.out.frozen 0
        have fr1 := XO.out.frozen 1
        have fr2 := XO.out.frozen 2
        have hlr := XO.out.lt
        go_wp2
        go_roundw
        case rel =>
          have hxl := HI.out.lt
          refine ⟨i + 1, by omega, by go_num, ?_⟩
          rw [hc1.out, hc2.out, hc3.out]
          exact ⟨(((XR.out.set (by omega)).set (by omega)).set (by omega)).alloc _, (((XX.out.set (by omega)).set (by omega)).set (by omega)).alloc _, (box_set (box_set (box_set XO.out 0 _) 1 _) 2 _).alloc _, HB2.out,
            belA (belS (belS (belS HBL.out (by show _ ≤ xb + 1; omega)) (by show _ ≤ xb + 1; omega)) (by show _ ≤ xb + 1; omega)), hxl⟩
        case measure => simp [intOf]; omega
    · obtain rfl : i = t := by omega
      have hlt2 : ¬ (i : Int) < i := by omega
      have hlr := HI.out.res.lt
      go_wp2
      simp only [bodyPost]
      obtain ⟨e1, e2, e3, e4⟩ := pw_code HP.out HI.out.ok
      have e0 : w.heap.size ≤ w.heap.size + 1 := by omega
      refine ⟨trivial, .tuple #[.agg #[.bool (spC neg u d i), .string (spU u d i), .string (spD u d i)], .int .i64 0], ?_, by rw [← e1, ← e2, ← e3, ← e4], ?_⟩
      · simp only [results, Tryd.results17]
        go_simp
      · with_reducible refine belS (belS (belS HI.out.bel ?_) ?_) ?_ <;> exact e0

end Go.Proofs.YtaggfbffdbompaaDoor
