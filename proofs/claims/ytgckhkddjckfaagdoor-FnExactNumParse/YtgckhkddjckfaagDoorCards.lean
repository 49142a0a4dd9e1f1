/-
  DERIVED. GIVEN WITH THE SEED: THE CARDS: each row of YtgckhkddjckfaagDoorRows.lean that lists a variable, with what it lists TIED to the program's text (the seventh form; the later family's looks); each row that meets fmt, with fmt's text TOLD by the authors' own Lean function (tested against real Go, not proved from fmt's source: count such statements apart). THE CARD IS WHAT COUNTS. Prove the row's statement (the work); the ties are given (YtgckhkddjckfaagDoorTie.lean); close each card by the builder's one call (the guide's Derived/Test/ToyasCard.lean, 'card_holds'). Laid BY PROGRAM, IN A SANDBOX (cutbox-door.mjs). By AI agents, Wed Nov 11 2026. No macro, syntax, notation, axiom, sorry.
-/
import Derived.Test.YtgckhkddjckfaagDoorRows
import GoSem.ClaimSeven
namespace Go.Proofs.YtgckhkddjckfaagDoor
namespace Rows

/-- THE TIED CARD OF 'laws.FnExactNumParse'. -/
def fnExactNumParseCard : Claim7 := { stood := { row := fnExactNumParseRow, standIns := [], harness := (true, "70d0cca49dc242456c42e61ca72f5d9e959a8e4df3436fe523ec360629635d86"), looks := false }, kinds := [], alts := [], laidByText := true, laidKinds := [.data, .data, .data], laidTests := true, laidLooks := .later }
def FnExactNumParseCardSaid : Prop := Claim7.holds Tryd.pinned (.plain (OpenSpec.ofChange fnExactNumParseSpec)) fnExactNumParseCard

/-- THE SECOND FORM's CARD OF 'laws.FnExactNumParse'. -/
def fnExactNumParseUptoCard : Claim7 := { stood := { row := fnExactNumParseUptoRow, standIns := [], harness := (true, "70d0cca49dc242456c42e61ca72f5d9e959a8e4df3436fe523ec360629635d86"), looks := false }, kinds := [], alts := [], laidByText := true, laidKinds := [.data, .data, .data], laidTests := true, laidLooks := .later }
def FnExactNumParseUptoCardSaid : Prop := Claim7.holds Tryd.pinned (.plain (OpenSpec.upto fnExactNumParseSpec)) fnExactNumParseUptoCard
end Rows
end Go.Proofs.YtgckhkddjckfaagDoor
