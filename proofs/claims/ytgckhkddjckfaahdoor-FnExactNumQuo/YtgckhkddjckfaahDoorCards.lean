/-
  DERIVED. GIVEN WITH THE SEED: THE CARDS: each row of YtgckhkddjckfaahDoorRows.lean that lists a variable, with what it lists TIED to the program's text (the seventh form; the later family's looks); each row that meets fmt, with fmt's text TOLD by the authors' own Lean function (tested against real Go, not proved from fmt's source: count such statements apart). THE CARD IS WHAT COUNTS. Prove the row's statement (the work); the ties are given (YtgckhkddjckfaahDoorTie.lean); close each card by the builder's one call (the guide's Derived/Test/ToyasCard.lean, 'card_holds'). Laid BY PROGRAM, IN A SANDBOX (cutbox-door.mjs). By AI agents, Wed Nov 11 2026. No macro, syntax, notation, axiom, sorry.
-/
import Derived.Test.YtgckhkddjckfaahDoorRows
import GoSem.ClaimSeven
namespace Go.Proofs.YtgckhkddjckfaahDoor
namespace Rows

/-- THE TIED CARD OF 'laws.FnExactNumAdd'. -/
def fnExactNumAddCard : Claim7 := { stood := { row := fnExactNumAddRow, standIns := [], harness := (true, "c54a33bd0eeba9624e8e793e3a3648935173fad3fe20dd5aa1400a44a06ff34e"), looks := true }, kinds := [], alts := [], laidByText := true, laidKinds := [.data, .data, .data], laidTests := true, laidLooks := .later }
def FnExactNumAddCardSaid : Prop := Claim7.holds Tryd.pinned (.plain (OpenSpec.ofChange fnExactNumAddSpec)) fnExactNumAddCard

/-- THE TIED CARD OF 'laws.FnExactNumSub'. -/
def fnExactNumSubCard : Claim7 := { stood := { row := fnExactNumSubRow, standIns := [], harness := (true, "c54a33bd0eeba9624e8e793e3a3648935173fad3fe20dd5aa1400a44a06ff34e"), looks := true }, kinds := [], alts := [], laidByText := true, laidKinds := [.data, .data, .data], laidTests := true, laidLooks := .later }
def FnExactNumSubCardSaid : Prop := Claim7.holds Tryd.pinned (.plain (OpenSpec.ofChange fnExactNumSubSpec)) fnExactNumSubCard

/-- THE TIED CARD OF 'laws.FnExactNumMul'. -/
def fnExactNumMulCard : Claim7 := { stood := { row := fnExactNumMulRow, standIns := [], harness := (true, "c54a33bd0eeba9624e8e793e3a3648935173fad3fe20dd5aa1400a44a06ff34e"), looks := true }, kinds := [], alts := [], laidByText := true, laidKinds := [.data, .data, .data], laidTests := true, laidLooks := .later }
def FnExactNumMulCardSaid : Prop := Claim7.holds Tryd.pinned (.plain (OpenSpec.ofChange fnExactNumMulSpec)) fnExactNumMulCard

/-- THE TIED CARD OF 'laws.FnExactNumDiv'. -/
def fnExactNumDivCard : Claim7 := { stood := { row := fnExactNumDivRow, standIns := [], harness := (true, "c54a33bd0eeba9624e8e793e3a3648935173fad3fe20dd5aa1400a44a06ff34e"), looks := true }, kinds := [], alts := [], laidByText := true, laidKinds := [.data, .data, .data], laidTests := true, laidLooks := .later }
def FnExactNumDivCardSaid : Prop := Claim7.holds Tryd.pinned (.plain (OpenSpec.ofChange fnExactNumDivSpec)) fnExactNumDivCard

/-- THE TIED CARD OF 'laws.FnExactNumQuo'. -/
def fnExactNumQuoCard : Claim7 := { stood := { row := fnExactNumQuoRow, standIns := [], harness := (true, "c54a33bd0eeba9624e8e793e3a3648935173fad3fe20dd5aa1400a44a06ff34e"), looks := true }, kinds := [], alts := [], laidByText := true, laidKinds := [.data, .data, .data, .handle], laidTests := true, laidLooks := .later }
def FnExactNumQuoCardSaid : Prop := Claim7.holds Tryd.pinned (.plain (OpenSpec.ofChange fnExactNumQuoSpec)) fnExactNumQuoCard

/-- THE SECOND FORM's CARD OF 'laws.FnExactNumAdd'. -/
def fnExactNumAddUptoCard : Claim7 := { stood := { row := fnExactNumAddUptoRow, standIns := [], harness := (true, "c54a33bd0eeba9624e8e793e3a3648935173fad3fe20dd5aa1400a44a06ff34e"), looks := true }, kinds := [], alts := [], laidByText := true, laidKinds := [.data, .data, .data], laidTests := true, laidLooks := .later }
def FnExactNumAddUptoCardSaid : Prop := Claim7.holds Tryd.pinned (.plain (OpenSpec.upto fnExactNumAddSpec)) fnExactNumAddUptoCard

/-- THE SECOND FORM's CARD OF 'laws.FnExactNumSub'. -/
def fnExactNumSubUptoCard : Claim7 := { stood := { row := fnExactNumSubUptoRow, standIns := [], harness := (true, "c54a33bd0eeba9624e8e793e3a3648935173fad3fe20dd5aa1400a44a06ff34e"), looks := true }, kinds := [], alts := [], laidByText := true, laidKinds := [.data, .data, .data], laidTests := true, laidLooks := .later }
def FnExactNumSubUptoCardSaid : Prop := Claim7.holds Tryd.pinned (.plain (OpenSpec.upto fnExactNumSubSpec)) fnExactNumSubUptoCard

/-- THE SECOND FORM's CARD OF 'laws.FnExactNumMul'. -/
def fnExactNumMulUptoCard : Claim7 := { stood := { row := fnExactNumMulUptoRow, standIns := [], harness := (true, "c54a33bd0eeba9624e8e793e3a3648935173fad3fe20dd5aa1400a44a06ff34e"), looks := true }, kinds := [], alts := [], laidByText := true, laidKinds := [.data, .data, .data], laidTests := true, laidLooks := .later }
def FnExactNumMulUptoCardSaid : Prop := Claim7.holds Tryd.pinned (.plain (OpenSpec.upto fnExactNumMulSpec)) fnExactNumMulUptoCard

/-- THE SECOND FORM's CARD OF 'laws.FnExactNumDiv'. -/
def fnExactNumDivUptoCard : Claim7 := { stood := { row := fnExactNumDivUptoRow, standIns := [], harness := (true, "c54a33bd0eeba9624e8e793e3a3648935173fad3fe20dd5aa1400a44a06ff34e"), looks := true }, kinds := [], alts := [], laidByText := true, laidKinds := [.data, .data, .data], laidTests := true, laidLooks := .later }
def FnExactNumDivUptoCardSaid : Prop := Claim7.holds Tryd.pinned (.plain (OpenSpec.upto fnExactNumDivSpec)) fnExactNumDivUptoCard

/-- THE SECOND FORM's CARD OF 'laws.FnExactNumQuo'. -/
def fnExactNumQuoUptoCard : Claim7 := { stood := { row := fnExactNumQuoUptoRow, standIns := [], harness := (true, "c54a33bd0eeba9624e8e793e3a3648935173fad3fe20dd5aa1400a44a06ff34e"), looks := true }, kinds := [], alts := [], laidByText := true, laidKinds := [.data, .data, .data, .handle], laidTests := true, laidLooks := .later }
def FnExactNumQuoUptoCardSaid : Prop := Claim7.holds Tryd.pinned (.plain (OpenSpec.upto fnExactNumQuoSpec)) fnExactNumQuoUptoCard
end Rows
end Go.Proofs.YtgckhkddjckfaahDoor
