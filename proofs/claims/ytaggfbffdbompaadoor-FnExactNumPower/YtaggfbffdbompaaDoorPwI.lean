/-
  The contract of the program's NumPower.
-/
import Derived.Test.YtaggfbffdbompaaDoorPwA3
import Derived.Test.YtaggfbffdbompaaDoorPwC
import Derived.Test.YtaggfbffdbompaaDoorWLaw0
import Derived.Test.YtaggfbffdbompaaDoorNum1
namespace Go.Proofs.YtaggfbffdbompaaDoor
set_option maxRecDepth 100000
set_option linter.unusedVariables false
set_option linter.unusedSimpArgs false
open Go.RowKit
attribute [local go_sem ↓] Go.wp_at_zero Go.wp_at_succ

set_option maxHeartbeats 800000 in
theorem iNumPower_err (neg : Bool) (up dn : ByteArray) (k : Int) (c : Int) (w : World) (HR : Hid (FaErr neg up dn k c)) (hg : EB w) : Ans 18 #[.agg #[.bool neg, .string up, .string dn], .int .i64 k] w false ⟨#[]⟩ ⟨#[]⟩ c := by
  unfold Ans
  have HG : Hid (EB w) := hg
  clear hg
  go_enter Tryd.func18, Tryd.ntmps18
  go_wp2_with fail
  obtain ⟨V, hV, hBV, x0, x1⟩ := boxes2 w #[Value.bool neg, Value.string up, Value.string dn] #[Value.bool false, Value.string ⟨#[]⟩, Value.string ⟨#[]⟩] 25 25
  rw [← hV]
  have HBV : Hid (Below w.heap.size w V) := hBV
  have Z1 : Hid (boxAt V _ _ _) := x1
  clear hV hBV x0 x1
  refine (HR.out _).mono ?_
  rintro e w3 ⟨rfl, hb3⟩
  have HB3 : Hid (Below w.heap.size w w3) := HBV.out.trans (hb3.mono HBV.out.size)
  have Y2 : Hid (boxAt w3 _ _ _) := Z1.out.on hb3
  clear hb3 Z1 HBV HR
  go_wp2_with fail
  refine (codeOf_reason c _ (HG.out.on (pwA HB3.out))).mono ?_
  rintro e w6 ⟨rfl, hb6⟩
  have HB9 : Hid (Below w.heap.size w w6) := (pwA HB3.out).trans (hb6.mono (pwA HB3.out).size)
  have U2 : Hid (boxAt w6 _ _ _) := (Y2.out.alloc _).on hb6
  clear hb6 Y2 HB3
  have q0 := U2.out.cell 0 rfl
  have f0 := U2.out.frozen 0
  have q1 := U2.out.cell 1 rfl
  have f1 := U2.out.frozen 1
  have q2 := U2.out.cell 2 rfl
  have f2 := U2.out.frozen 2
  have hl0 := U2.out.lt
  go_wp2
  simp only [bodyPost]
  have e1 : w.heap.size ≤ w.heap.size + 1 := by omega
  refine ⟨trivial, _, ?_, rfl, ?_⟩
  · simp only [results, Tryd.results18]
    go_simp
  · with_reducible refine pwS (pwS (pwS HB9.out ?_) ?_) ?_ <;> exact e1

set_option maxHeartbeats 800000 in
theorem iNumPower_big (neg : Bool) (up dn : ByteArray) (k : Int) (b b2 : Bool) (u d t : Nat) (w : World) (HR : Hid (FaYes neg up dn k b b2 u d t)) (ht : t ≤ 1000) (fu : fits u 7) (fd : fits d 7) (hg : EB w) (HB : Hid (pBig u d t = true)) : Ans 18 #[.agg #[.bool neg, .string up, .string dn], .int .i64 k] w false ⟨#[]⟩ ⟨#[]⟩ 3 := by
  unfold Ans
  have HG : Hid (EB w) := hg
  clear hg
  go_enter Tryd.func18, Tryd.ntmps18
  go_wp2_with fail
  obtain ⟨V, hV, hBV, x0, x1⟩ := boxes2 w #[Value.bool neg, Value.string up, Value.string dn] #[Value.bool false, Value.string ⟨#[]⟩, Value.string ⟨#[]⟩] 25 25
  rw [← hV]
  have HBV : Hid (Below w.heap.size w V) := hBV
  have Z1 : Hid (boxAt V _ _ _) := x1
  clear hV hBV x0 x1
  refine (HR.out _).mono ?_
  rintro e w3 ⟨⟨ao, len, cap, ao2, len2, cap2, rfl, hn, hm⟩, hb3⟩
  have HB3 : Hid (Below w.heap.size w w3) := HBV.out.trans (hb3.mono HBV.out.size)
  have Y2 : Hid (boxAt w3 _ _ _) := Z1.out.on hb3
  clear hb3 Z1 HBV HR
  go_wp2_with fail
  refine (powerOf_any b ao len cap b2 ao2 len2 cap2 u d t (Lib.bitLen t) _ (pwN hn.out) (pwN hm.out) fu fd ht rfl (Lib.bitLen_le t 64 (by omega) (by omega))).mono ?_
  rintro e w4 ⟨hr, hb4⟩
  obtain ⟨_, rfl⟩ := hr.resolve_right (fun h => by have h1 := h.1; rw [HB.out] at h1; cases h1)
  have HB4 : Hid (Below w.heap.size w w4) := (pwA HB3.out).trans (hb4.mono (pwA HB3.out).size)
  have Y4 : Hid (boxAt w4 _ _ _) := (Y2.out.alloc _).on hb4
  clear hb4 Y2 HB3 hn hm
  go_wp2_with fail
  refine (codeOf_reason 3 _ (HG.out.on (pwA HB4.out))).mono ?_
  rintro e w6 ⟨rfl, hb6⟩
  have HB9 : Hid (Below w.heap.size w w6) := (pwA HB4.out).trans (hb6.mono (pwA HB4.out).size)
  have U2 : Hid (boxAt w6 _ _ _) := (Y4.out.alloc _).on hb6
  clear hb6 Y4 HB4
  have q0 := U2.out.cell 0 rfl
  have f0 := U2.out.frozen 0
  have q1 := U2.out.cell 1 rfl
  have f1 := U2.out.frozen 1
  have q2 := U2.out.cell 2 rfl
  have f2 := U2.out.frozen 2
  have hl0 := U2.out.lt
  go_wp2
  simp only [bodyPost]
  have e1 : w.heap.size ≤ w.heap.size + 1 := by omega
  refine ⟨trivial, _, ?_, rfl, ?_⟩
  · simp only [results, Tryd.results18]
    go_simp
  · with_reducible refine pwS (pwS (pwS HB9.out ?_) ?_) ?_ <;> exact e1

set_option maxHeartbeats 800000 in
theorem iNumPower_yes (neg : Bool) (up dn : ByteArray) (k : Int) (b b2 : Bool) (u d t : Nat) (w : World) (HR : Hid (FaYes neg up dn k b b2 u d t)) (ht : t ≤ 1000) (fu : fits u 7) (fd : fits d 7) (htab : TB w) (hd0 : d ≠ 0) (HB : Hid (pBig u d t = false)) : Ans 18 #[.agg #[.bool neg, .string up, .string dn], .int .i64 k] w (numC ((b && t % 2 == 1) != (b2 && t % 2 == 1)) (u ^ t) (d ^ t)) (numU (u ^ t) (d ^ t)) (numD (u ^ t) (d ^ t)) (numK (u ^ t) (d ^ t)) := by
  unfold Ans
  have HG : Hid (TB w) := htab
  clear htab
  have hdt : d ^ t ≠ 0 := by have := Nat.pow_pos (n := t) (Nat.pos_of_ne_zero hd0); omega
  have FF := pBig_fits HB.out
  have F1 : fits (u ^ t) 8000 := FF.1.mono (Nat.le_refl _) (by omega)
  have F2 : fits (d ^ t) 8000 := FF.2.mono (Nat.le_refl _) (by omega)
  clear FF
  go_enter Tryd.func18, Tryd.ntmps18
  go_wp2_with fail
  obtain ⟨V, hV, hBV, x0, x1⟩ := boxes2 w #[Value.bool neg, Value.string up, Value.string dn] #[Value.bool false, Value.string ⟨#[]⟩, Value.string ⟨#[]⟩] 25 25
  rw [← hV]
  have HBV : Hid (Below w.heap.size w V) := hBV
  have Z1 : Hid (boxAt V _ _ _) := x1
  clear hV hBV x0 x1
  refine (HR.out _).mono ?_
  rintro e w3 ⟨⟨ao, len, cap, ao2, len2, cap2, rfl, hn, hm⟩, hb3⟩
  have HB3 : Hid (Below w.heap.size w w3) := HBV.out.trans (hb3.mono HBV.out.size)
  have Y2 : Hid (boxAt w3 _ _ _) := Z1.out.on hb3
  clear hb3 Z1 HBV HR
  go_wp2_with fail
  refine (powerOf_any b ao len cap b2 ao2 len2 cap2 u d t (Lib.bitLen t) _ (pwN hn.out) (pwN hm.out) fu fd ht rfl (Lib.bitLen_le t 64 (by omega) (by omega))).mono ?_
  rintro e w4 ⟨hr, hb4⟩
  rcases hr with ⟨h, _⟩ | ⟨_, a5, l5, c5, a6, l6, c6, rfl, hn5, hm5⟩
  · rw [HB.out] at h; cases h
  have HB4 : Hid (Below w.heap.size w w4) := (pwA HB3.out).trans (hb4.mono (pwA HB3.out).size)
  have Y4 : Hid (boxAt w4 _ _ _) := (Y2.out.alloc _).on hb4
  have HN : Hid (isN w4 _ _) := hn5
  have HM : Hid (isN w4 _ _) := hm5
  clear hb4 Y2 HB3 hn hm hn5 hm5
  go_wp2_with fail
  refine (numOfRatio_any _ a5 l5 c5 _ a6 l6 c6 (u ^ t) (d ^ t) _ (pwN HN.out) (pwN HM.out) hdt F1 F2 (HG.out.on (pwA HB4.out))).mono ?_
  rintro e w6 ⟨rfl, hb6⟩
  have HB9 : Hid (Below w.heap.size w w6) := (pwA HB4.out).trans (hb6.mono (pwA HB4.out).size)
  have U2 : Hid (boxAt w6 _ _ _) := (Y4.out.alloc _).on hb6
  clear hb6 Y4 HB4
  have q0 := U2.out.cell 0 rfl
  have f0 := U2.out.frozen 0
  have q1 := U2.out.cell 1 rfl
  have f1 := U2.out.frozen 1
  have q2 := U2.out.cell 2 rfl
  have f2 := U2.out.frozen 2
  have hl0 := U2.out.lt
  go_wp2
  simp only [bodyPost]
  have e1 : w.heap.size ≤ w.heap.size + 1 := by omega
  refine ⟨trivial, _, ?_, rfl, ?_⟩
  · simp only [results, Tryd.results18]
    go_simp
  · with_reducible refine pwS (pwS (pwS HB9.out ?_) ?_) ?_ <;> exact e1

end Go.Proofs.YtaggfbffdbompaaDoor
