/-
  The program's NumMod and the specification's are the same.
-/
import Derived.Test.YtaggfbffdbompaaDoorWMods
import Derived.Test.YtaggfbffdbompaaDoorWLaw0
namespace Go.Proofs.YtaggfbffdbompaaDoor
set_option maxRecDepth 100000
set_option linter.unusedVariables false
set_option linter.unusedSimpArgs false
open Go.RowKit

theorem bothNumMod (neg : Bool) (up dn : ByteArray) (neg2 : Bool) (up2 dn2 : ByteArray) (hu : up.size ≤ maxLen) (hd : dn.size ≤ maxLen) (hu2 : up2.size ≤ maxLen) (hd2 : dn2.size ≤ maxLen) : Both 14 13 #[.agg #[.bool neg, .string up, .string dn], .agg #[.bool neg2, .string up2, .string dn2]] := by
  cases h1 : okN neg up.data.toList dn.data.toList
  · exact ⟨_, _, _, _, fun w ht => iNumMod_err neg up dn neg2 up2 dn2 1 w (divisionOf_err _ _ _ _ _ _ _ (wholesOf_no _ _ _ _ _ _ (raNo1 neg up dn neg2 up2 dn2 hu hd hu2 hd2 h1))) ht.err, fun w => sNumMod_1 neg up dn neg2 up2 dn2 w (sCode_no1 neg up dn neg2 up2 dn2 hu hd hu2 hd2 h1)⟩
  cases h2 : okN neg2 up2.data.toList dn2.data.toList
  · exact ⟨_, _, _, _, fun w ht => iNumMod_err neg up dn neg2 up2 dn2 1 w (divisionOf_err _ _ _ _ _ _ _ (wholesOf_no _ _ _ _ _ _ (raNo2 neg up dn neg2 up2 dn2 hu hd hu2 hd2 h1 h2))) ht.err, fun w => sNumMod_1 neg up dn neg2 up2 dn2 w (sCode_no2 neg up dn neg2 up2 dn2 hu hd hu2 hd2 h1 h2)⟩
  have hR := raYes neg up dn neg2 up2 dn2 hu hd hu2 hd2 h1 h2
  cases e1 : (dn.toList == [49])
  · exact ⟨_, _, _, _, fun w ht => iNumMod_err neg up dn neg2 up2 dn2 4 w (divisionOf_err _ _ _ _ _ _ _ (wholesOf_nw1 _ _ _ _ _ _ _ _ _ _ hR e1)) ht.err, fun w => sNumMod_4 neg up dn neg2 up2 dn2 w (sCode_nw1 neg up dn neg2 up2 dn2 hu hd hu2 hd2 h1 h2 e1)⟩
  cases e2 : (dn2.toList == [49])
  · exact ⟨_, _, _, _, fun w ht => iNumMod_err neg up dn neg2 up2 dn2 4 w (divisionOf_err _ _ _ _ _ _ _ (wholesOf_nw2 _ _ _ _ _ _ _ _ _ _ hR e1 e2)) ht.err, fun w => sNumMod_4 neg up dn neg2 up2 dn2 w (sCode_nw2 neg up dn neg2 up2 dn2 hu hd hu2 hd2 h1 h2 e1 e2)⟩
  have hW := wholesOf_yes _ _ _ _ _ _ _ _ _ _ hR e1 e2
  obtain ⟨z1, z2, d1, d2, n1, m1, _⟩ := okN_facts _ _ _ h1
  obtain ⟨z3, z4, d3, d4, n2, m2, _⟩ := okN_facts _ _ _ h2
  have s1 : up.size ≤ 60 := by have e : up.data.toList.length = up.size := Array.length_toList; omega
  have s3 : up2.size ≤ 60 := by have e : up2.data.toList.length = up2.size := Array.length_toList; omega
  have f1 := fits60d _ _ d1 z1
  have f3 := fits60d _ _ d3 z3
  cases e3 : (up2.toList == [48])
  · have hne : Dm.val up2.data.toList ≠ 0 := by
      rw [isDec_z _ _ d3] at e3; exact of_decide_eq_false e3
    have hpos : 0 < Dm.val up2.data.toList := Nat.pos_of_ne_zero hne
    have hD := divisionOf_yes _ _ _ _ _ _ _ _ hne hW
    have hC := sCode_yes neg up dn neg2 up2 dn2 hu hd hu2 hd2 h1 h2 e1 e2 e3
    by_cases hs : Dm.val up.data.toList % Dm.val up2.data.toList = 0
    · exact ⟨_, _, _, _, fun w ht => iNumMod_less neg up dn neg2 up2 dn2 _ _ w hpos hD f1 f3 s3 ht.tab (.inl hs), fun w => sNumMod_z neg up dn neg2 up2 dn2 _ _ w hpos hC d1 d3 s1 s3 hs⟩
    · cases he : (neg == neg2)
      · exact ⟨_, _, _, _, fun w ht => iNumMod_more neg up dn neg2 up2 dn2 _ _ w hpos hD f1 f3 s3 ht.tab hs he, fun w => sNumMod_m neg up dn neg2 up2 dn2 _ _ w hpos hC d1 d3 s1 s3 hs he⟩
      · exact ⟨_, _, _, _, fun w ht => iNumMod_less neg up dn neg2 up2 dn2 _ _ w hpos hD f1 f3 s3 ht.tab (.inr (by simpa using he)), fun w => sNumMod_e neg up dn neg2 up2 dn2 _ _ w hpos hC d1 d3 s1 s3 hs (by simpa using he)⟩
  · have hz : Dm.val up2.data.toList = 0 := by
      rw [isDec_z _ _ d3] at e3; exact of_decide_eq_true e3
    rw [hz] at hW
    exact ⟨_, _, _, _, fun w ht => iNumMod_err neg up dn neg2 up2 dn2 2 w (divisionOf_nought _ _ _ _ _ _ _ hW) ht.err, fun w => sNumMod_2 neg up dn neg2 up2 dn2 w (sCode_nought neg up dn neg2 up2 dn2 hu hd hu2 hd2 h1 h2 e1 e2 e3)⟩

end Go.Proofs.YtaggfbffdbompaaDoor
