/-
  DERIVED. GIVEN WITH THE SEED: THE CARDS: each row of YtaggfbffdbompaaDoorRows.lean that lists a variable, with what it lists TIED to the program's text (the seventh form; the later family's looks); each row that meets fmt, with fmt's text TOLD by the authors' own Lean function (tested against real Go, not proved from fmt's source: count such statements apart). THE CARD IS WHAT COUNTS. Prove the row's statement (the work); the ties are given (YtaggfbffdbompaaDoorTie.lean); close each card by the builder's one call (the guide's Derived/Test/ToyasCard.lean, 'card_holds'). Laid BY PROGRAM, IN A SANDBOX (cutbox-door.mjs). By AI agents, Wed Nov 11 2026. No macro, syntax, notation, axiom, sorry.
-/
import Derived.Test.YtaggfbffdbompaaDoorRows
import GoSem.ClaimSeven
namespace Go.Proofs.YtaggfbffdbompaaDoor
namespace Rows

/-- THE TIED CARD OF 'laws.FnExactNumQuo'. -/
def fnExactNumQuoCard : Claim7 := { stood := { row := fnExactNumQuoRow, standIns := [], harness := (true, "4f46ad690e4d74fb209e76f00f656f49944ae12fccc569db30a2ed17add41591"), looks := true }, kinds := [], alts := [], laidByText := true, laidKinds := [.data, .data, .data, .handle], laidTests := true, laidLooks := .later }
def FnExactNumQuoCardSaid : Prop := Claim7.holds Tryd.pinned (.plain (OpenSpec.ofChange fnExactNumQuoSpec)) fnExactNumQuoCard

/-- THE TIED CARD OF 'laws.FnExactNumMod'. -/
def fnExactNumModCard : Claim7 := { stood := { row := fnExactNumModRow, standIns := [], harness := (true, "4f46ad690e4d74fb209e76f00f656f49944ae12fccc569db30a2ed17add41591"), looks := true }, kinds := [], alts := [], laidByText := true, laidKinds := [.data, .data, .data, .handle], laidTests := true, laidLooks := .later }
def FnExactNumModCardSaid : Prop := Claim7.holds Tryd.pinned (.plain (OpenSpec.ofChange fnExactNumModSpec)) fnExactNumModCard

/-- THE TIED CARD OF 'laws.FnExactNumGcd'. -/
def fnExactNumGcdCard : Claim7 := { stood := { row := fnExactNumGcdRow, standIns := [], harness := (true, "4f46ad690e4d74fb209e76f00f656f49944ae12fccc569db30a2ed17add41591"), looks := true }, kinds := [], alts := [], laidByText := true, laidKinds := [.data, .data, .data, .handle], laidTests := true, laidLooks := .later }
def FnExactNumGcdCardSaid : Prop := Claim7.holds Tryd.pinned (.plain (OpenSpec.ofChange fnExactNumGcdSpec)) fnExactNumGcdCard

/-- THE TIED CARD OF 'laws.FnExactNumPower'. -/
def fnExactNumPowerCard : Claim7 := { stood := { row := fnExactNumPowerRow, standIns := [], harness := (true, "4f46ad690e4d74fb209e76f00f656f49944ae12fccc569db30a2ed17add41591"), looks := true }, kinds := [], alts := [], laidByText := true, laidKinds := [.data, .data, .data, .handle], laidTests := true, laidLooks := .later }
def FnExactNumPowerCardSaid : Prop := Claim7.holds Tryd.pinned (.plain (OpenSpec.ofChange fnExactNumPowerSpec)) fnExactNumPowerCard

/-- THE TIED CARD OF 'laws.FnExactNumRoot'. -/
def fnExactNumRootCard : Claim7 := { stood := { row := fnExactNumRootRow, standIns := [], harness := (true, "4f46ad690e4d74fb209e76f00f656f49944ae12fccc569db30a2ed17add41591"), looks := true }, kinds := [], alts := [], laidByText := true, laidKinds := [.data, .data, .data, .handle], laidTests := true, laidLooks := .later }
def FnExactNumRootCardSaid : Prop := Claim7.holds Tryd.pinned (.plain (OpenSpec.ofChange fnExactNumRootSpec)) fnExactNumRootCard

/-- THE SECOND FORM's CARD OF 'laws.FnExactNumQuo'. -/
def fnExactNumQuoUptoCard : Claim7 := { stood := { row := fnExactNumQuoUptoRow, standIns := [], harness := (true, "4f46ad690e4d74fb209e76f00f656f49944ae12fccc569db30a2ed17add41591"), looks := true }, kinds := [], alts := [], laidByText := true, laidKinds := [.data, .data, .data, .handle], laidTests := true, laidLooks := .later }
def FnExactNumQuoUptoCardSaid : Prop := Claim7.holds Tryd.pinned (.plain (OpenSpec.upto fnExactNumQuoSpec)) fnExactNumQuoUptoCard

/-- THE SECOND FORM's CARD OF 'laws.FnExactNumMod'. -/
def fnExactNumModUptoCard : Claim7 := { stood := { row := fnExactNumModUptoRow, standIns := [], harness := (true, "4f46ad690e4d74fb209e76f00f656f49944ae12fccc569db30a2ed17add41591"), looks := true }, kinds := [], alts := [], laidByText := true, laidKinds := [.data, .data, .data, .handle], laidTests := true, laidLooks := .later }
def FnExactNumModUptoCardSaid : Prop := Claim7.holds Tryd.pinned (.plain (OpenSpec.upto fnExactNumModSpec)) fnExactNumModUptoCard

/-- THE SECOND FORM's CARD OF 'laws.FnExactNumGcd'. -/
def fnExactNumGcdUptoCard : Claim7 := { stood := { row := fnExactNumGcdUptoRow, standIns := [], harness := (true, "4f46ad690e4d74fb209e76f00f656f49944ae12fccc569db30a2ed17add41591"), looks := true }, kinds := [], alts := [], laidByText := true, laidKinds := [.data, .data, .data, .handle], laidTests := true, laidLooks := .later }
def FnExactNumGcdUptoCardSaid : Prop := Claim7.holds Tryd.pinned (.plain (OpenSpec.upto fnExactNumGcdSpec)) fnExactNumGcdUptoCard

/-- THE SECOND FORM's CARD OF 'laws.FnExactNumPower'. -/
def fnExactNumPowerUptoCard : Claim7 := { stood := { row := fnExactNumPowerUptoRow, standIns := [], harness := (true, "4f46ad690e4d74fb209e76f00f656f49944ae12fccc569db30a2ed17add41591"), looks := true }, kinds := [], alts := [], laidByText := true, laidKinds := [.data, .data, .data, .handle], laidTests := true, laidLooks := .later }
def FnExactNumPowerUptoCardSaid : Prop := Claim7.holds Tryd.pinned (.plain (OpenSpec.upto fnExactNumPowerSpec)) fnExactNumPowerUptoCard

/-- THE SECOND FORM's CARD OF 'laws.FnExactNumRoot'. -/
def fnExactNumRootUptoCard : Claim7 := { stood := { row := fnExactNumRootUptoRow, standIns := [], harness := (true, "4f46ad690e4d74fb209e76f00f656f49944ae12fccc569db30a2ed17add41591"), looks := true }, kinds := [], alts := [], laidByText := true, laidKinds := [.data, .data, .data, .handle], laidTests := true, laidLooks := .later }
def FnExactNumRootUptoCardSaid : Prop := Claim7.holds Tryd.pinned (.plain (OpenSpec.upto fnExactNumRootSpec)) fnExactNumRootUptoCard
end Rows
end Go.Proofs.YtaggfbffdbompaaDoor
