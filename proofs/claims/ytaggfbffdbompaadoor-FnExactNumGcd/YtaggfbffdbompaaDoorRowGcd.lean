/-
  The given statement on NumGcd: at every argument the program and the specification answer alike, and the numbers read as they did. The row and its tied card.
-/
import Derived.Test.YtaggfbffdbompaaDoorWLawGcd
import Derived.Test.YtaggfbffdbompaaDoorTie
import Derived.Test.YtaggfbffdbompaaDoorCards
import Derived.ChangeSame
import Derived.JoinedOf
import Derived.JoinedAt
import Derived.RowKit3
import Derived.ProofKit
import Derived.OpenShut
import Derived.Carry
import Derived.ChangeMaps5
import Derived.Lib.SmallJoins
import Derived.Lay
import Derived.Lib.LaidTab
import Derived.Lib.LaidU8
import Derived.SevenTiedAt
import Derived.MakeChecks
import Derived.LaidHandle
import Derived.LaidLaws
import Derived.ChangeVars
import Derived.Stop.Joined
namespace Go.Proofs.YtaggfbffdbompaaDoor
set_option maxRecDepth 100000
set_option linter.unusedVariables false
set_option linter.unusedSimpArgs false
open Go.ChangeShapes Go.WideShapes Go.ChangeAt Go.RowKit Go.Joins

theorem own : ownKnob Tryd.prog.godebug = none := by kernel_rfl

theorem laidOut : laidOutB Tryd.prog = true := by kernel_rfl

theorem uNum : Tryd.prog.underlying 23 = some (.struct #[⟨ "Neg", 4, 0, false, "", "", 0⟩, ⟨ "Up", 9, 1, false, "", "", 8⟩, ⟨ "Down", 9, 2, false, "", "", 24⟩]) := by kernel_rfl

theorem uBool : Tryd.prog.underlying 4 = some .bool := by kernel_rfl

theorem uString : Tryd.prog.underlying 9 = some .string := by kernel_rfl

theorem uInt : Tryd.prog.underlying 3 = some (.int .i64) := by kernel_rfl

theorem cNum : Tryd.prog.cellsOf 23 = 3 := by kernel_rfl

/-- The listed variables that are plain data. -/
def laid3 : List (String × DataW Unit) := [("math/bits.deBruijn32tab", Rows.laid_math_bits_deBruijn32tab), ("math/bits.deBruijn64tab", Rows.laid_math_bits_deBruijn64tab), ("internal/strconv.uint64pow10", Rows.laid_internal_strconv_uint64pow10)]

theorem halves {W : World} (h : laidMetH Tryd.prog Rows.fnExactNumGcdRow.laid W) : laidMet Tryd.prog laid3 W ∧ handlesMet Tryd.prog [("errors.errorType", Rows.laid_errors_errorType)] W := h

theorem tabOf {W : World} (h0 : laidMetH Tryd.prog Rows.fnExactNumGcdRow.laid W) : TB W := by
  have h := (halves h0).1
  obtain ⟨g', t', cs, fuel, p, hg, ht, hvar, hd⟩ := Lib.laidMet.reads h (n := "internal/strconv.uint64pow10") (d := Rows.laid_internal_strconv_uint64pow10) (.tail _ (.tail _ (.head _)))
  have e : (Tryd.prog.globalNamed "internal/strconv.uint64pow10").bind (fun g => (Tryd.prog.globals[g]?).map (·.type)) = some 158 := by kernel_rfl
  rw [hg, Option.bind_some, ht] at e
  obtain rfl := Option.some.inj e
  have ed : (Rows.laid_internal_strconv_uint64pow10 : DataW Unit) = Lib.tabData .u64 Lib.pow10Tab := by kernel_rfl
  rw [ed] at hd
  show W.var? _ _ = _
  rw [hvar, ← Lib.cells_of_tab (show Tryd.prog.underlying 158 = some (.array 20 92) by kernel_rfl) (show Tryd.prog.underlying 92 = some (.int .u64) by kernel_rfl) (by kernel_rfl) (by kernel_rfl) hd]

theorem etG : Tryd.prog.globalNamed "errors.errorType" = some 0 := by kernel_rfl

theorem rtG : (Tryd.prog.cutTypes.find? (·.1 == "internal/reflectlite.rtype")).map (·.2) = some 132 := by kernel_rfl

theorem oneRow : ((List.range 189).filter fun t => Tryd.prog.rowNamed t [101, 114, 114, 111, 114]) = [46] := by kernel_rfl

theorem sizeT : Tryd.prog.types.size = 189 := by kernel_rfl

theorem ebOf {W : World} (h0 : laidMetH Tryd.prog Rows.fnExactNumGcdRow.laid W) : EB W := by
  obtain ⟨name, u, ty, e1, e2, e3, e4, e5⟩ := (halves h0).2 _ (List.mem_singleton.2 rfl)
  have en : name = [101, 114, 114, 111, 114] := (Option.some.inj e1).symm
  subst en
  obtain rfl := Option.some.inj (rtG.symm.trans e2)
  have hm : ty ∈ (List.range 189).filter fun t => Tryd.prog.rowNamed t [101, 114, 114, 111, 114] := List.mem_filter.2 ⟨List.mem_range.2 (by rw [← sizeT]; exact e3), e4⟩
  rw [oneRow] at hm
  obtain rfl := List.mem_singleton.1 hm
  have hh : typeHandle Tryd.prog 46 = .pointer (some ⟨4, 46, none⟩) := by kernel_rfl
  rw [hh] at e5
  unfold EB
  simpa using World.var?_cell etG e5 0

theorem teOf {W : World} (h0 : laidMetH Tryd.prog Rows.fnExactNumGcdRow.laid W) : TE W := ⟨tabOf h0, ebOf h0⟩

set_option maxRecDepth 100000 in
theorem lifted (os : Os) (started : os.Started) (H : Type) (enc : TypeId × Value → H) :
    ReturnsInHanded {} Tryd.checked os 5 .any (fun w args => (Rows.fnExactNumGcdSpec.pre enc Tryd.prog Tryd.f5 Rows.fnExactNumGcdRow.domain false w args ∧ laidMetH Tryd.prog Rows.fnExactNumGcdRow.laid w) ∧ sizedMet enc Tryd.prog Tryd.f5 (OpenSpec.ofChange Rows.fnExactNumGcdSpec) false w args) (Rows.fnExactNumGcdSpec.post enc Tryd.prog Tryd.f5 false true false false) := by
  refine returnsInHanded_of_change_and (C := Tryd.checked) (X := fun w _ => laidMetH Tryd.prog Rows.fnExactNumGcdRow.laid w) (fun _ _ _ hh h => h.of_heap hh) own started (by kernel_rfl) Tryd.func5
    (ChangeSpec.witness_shaped (enc := enc) (C := Tryd.checked) (os := os) (X := fun w _ => laidMetH Tryd.prog Rows.fnExactNumGcdRow.laid w) false (({ World.holding Tryd.prog os ⟨#[], #[], []⟩ with heap := (World.holding Tryd.prog os ⟨#[], #[], []⟩).heap.modify 0 fun
          | .cells _ t frozen => .cells #[.iface 132 (.agg #[.pointer (some ⟨4, 46, none⟩)])] t frozen
          | o => o } : World).layVars Tryd.prog laid3) #[.agg #[.bool false, .string "1".toByteArray, .string "1".toByteArray], .agg #[.bool false, .string "1".toByteArray, .string "1".toByteArray]] 8 (World.layVars_os _ _ _)
      (World.shaped_of_ZipB (by kernel_rfl) (by kernel_rfl)) (by kernel_rfl) (by kernel_rfl) (by kernel_rfl)
      (laidMetH_of_parts ((show laidMet Tryd.prog laid3 (({ World.holding Tryd.prog os ⟨#[], #[], []⟩ with heap := (World.holding Tryd.prog os ⟨#[], #[], []⟩).heap.modify 0 fun
          | .cells _ t frozen => .cells #[.iface 132 (.agg #[.pointer (some ⟨4, 46, none⟩)])] t frozen
          | o => o } : World).layVars Tryd.prog laid3) from laidMet_layVars (w0 := ({ World.holding Tryd.prog os ⟨#[], #[], []⟩ with heap := (World.holding Tryd.prog os ⟨#[], #[], []⟩).heap.modify 0 fun
          | .cells _ t frozen => .cells #[.iface 132 (.agg #[.pointer (some ⟨4, 46, none⟩)])] t frozen
          | o => o } : World)) (laid3.map (·.1)) [] rfl (by kernel_rfl) (by kernel_rfl) LaidIn.none).of_heap (by simp [World.memory, World.forCall, Input.heap])) (by kernel_rfl))) ?_
  intro W base args ds gs before hval0 hW _ _ hL _
  have hval : ∀ (j : Nat) t v, Tryd.f5.params[j]? = some t → args[j]? = some v → Value.okWide Tryd.prog W .any base t v := hval0
  have hW' := hW
  obtain ⟨p, q, hA0, hV, rfl, _, _⟩ := hW
  have hA : DataW.TrodAll enc Tryd.prog W 0 (fun _ => true) true Tryd.f5.params.toList args.toList ds p := hA0
  rw [Tryd.params5] at hA hval
  obtain ⟨v0, v1, d0, d1, p0, p1, rfl, rfl, rfl, h0, h1⟩ := trodAll_two hA
  obtain ⟨rfl, rfl⟩ := trodVars_none hV
  have k0 := h0
  have k1 := h1
  have lt0 : ∀ x ∈ p0, x.block < W.heap.size := by obtain ⟨m, hm⟩ := k0; exact DataW.trod_lt m _ _ _ hm
  have lt1 : ∀ x ∈ p1, x.block < W.heap.size := by obtain ⟨m, hm⟩ := k1; exact DataW.trod_lt m _ _ _ hm
  obtain ⟨c0, c1, c2, y0, y1, y2, m, rfl, rfl, rfl, hy0, hy1, hy2⟩ := open_agg3 uNum (by kernel_rfl) cNum (hval 0 23 v0 rfl rfl) h0
  obtain ⟨neg, e0, rfl⟩ := DataW.trod_bool uBool hy0
  obtain ⟨up, e1, rfl, s1⟩ := DataW.trod_string uString hy1
  obtain ⟨dn, e2, rfl, s2⟩ := DataW.trod_string uString hy2
  obtain ⟨c3, c4, c5, y3, y4, y5, m', rfl, rfl, rfl, hy3, hy4, hy5⟩ := open_agg3 uNum (by kernel_rfl) cNum (hval 1 23 v1 rfl rfl) h1
  obtain ⟨neg2, e3, rfl⟩ := DataW.trod_bool uBool hy3
  obtain ⟨up2, e4, rfl, s3⟩ := DataW.trod_string uString hy4
  obtain ⟨dn2, e5, rfl, s4⟩ := DataW.trod_string uString hy5
  simp at e0 e1 e2 e3 e4 e5
  subst e0 e1 e2 e3 e4 e5
  clear hA0 hval0
  refine (lawNumGcd neg up dn neg2 up2 dn2 W s1 s2 s3 s4 (teOf hL)).mono fun e W' ⟨he, bel⟩ => ?_
  subst he
  exact ⟨_, rfl, _, _, _, [], _, [], hW', trodAll_mk1 (shut_bool uBool _), (trodAll_mk2 (Below.trod laidOut (by kernel_rfl) (of_decide_eq_true (by kernel_rfl)) k0 bel lt0) (Below.trod laidOut (by kernel_rfl) (of_decide_eq_true (by kernel_rfl)) k1 bel lt1)), rfl, bel.frame _, fun h => by cases h⟩

theorem over : Rows.fnExactNumGcdRow.holds Tryd.pinned (OpenSpec.ofChange Rows.fnExactNumGcdSpec) :=
  OpenClaim.holds_of_wide 5 Tryd.f5 rfl rfl rfl rfl rfl rfl rfl ⟨rfl, rfl, rfl, rfl, rfl⟩ rfl rfl rfl rfl rfl (by kernel_rfl) Tryd.func5 (by kernel_rfl)
    (of_decide_eq_true (by kernel_rfl)) (by unfold Func.isWrapper; first | (rw [if_pos (by decide +kernel)]; kernel_rfl) | (rw [if_neg (by decide +kernel)]; exact ⟨rfl, rfl⟩))
    (fun os started H enc _ => lifted os started H enc)

/-- The statement: the tied card. -/

theorem fnExactNumGcd_card : Rows.FnExactNumGcdCardSaid :=
  Claim7.holds_tied_plain_at .later [] [.data, .data, .data, .handle] true (true, "4f46ad690e4d74fb209e76f00f656f49944ae12fccc569db30a2ed17add41591") true over (fun _ h => by cases h) (by kernel_rfl) (fun _ h => by cases h) fnExactNumGcd_row_tie rfl ⟨rfl, rfl⟩ (by kernel_rfl) rfl
    (fun f fn hf hfn => by
      obtain rfl : f = 5 := Option.some.inj ((show Tryd.prog.funcNamed "loop.example/sispass/laws.FnExactNumGcd" = some 5 by kernel_rfl).symm.trans hf) |>.symm
      obtain rfl : fn = Tryd.f5 := (Option.some.inj (Tryd.func5.symm.trans hfn)).symm
      exact ⟨by kernel_rfl, fun j t ht => by
        rw [Tryd.params5] at ht
        have hm : t ∈ [23, 23] := by simpa using Array.mem_of_getElem? ht
        have hall : ([23, 23].all fun u => !Tryd.prog.wantsStandIn u) = true := by kernel_rfl
        exact (show Tryd.prog.wantsStandIn t = false by simpa using List.all_eq_true.1 hall t hm)⟩)
    (by kernel_rfl)

end Go.Proofs.YtaggfbffdbompaaDoor
