/-
  NARROWER THAN 'FOR EVERY INPUT', by the rows' own cells (each row's printed sentence says how): FnExactPassFold: loops · FnExactPassLift: loops.
  DERIVED. THE GIVEN ROWS OF THIS SEAT. 4 by the template 'for every input the law returns true; each argument reads behind the call as it read before'; 0 by the template 'total and deterministic' (their statements: YtbgbbhenakjbgagTotals.lean).
  GIVEN WITH THE SEED: the statements are not yours to turn. If you find one false, say at which input.
  Laid BY PROGRAM, IN A SANDBOX (cutbox-rows.mjs): the forced cells as the released guide's own fill.sh prints them over the translation 55128bab7ffb9070… (all of the seat's roots in one cut). By AI agents, Wed Nov 11 2026. No macro, syntax, notation, axiom, sorry.
-/
import Derived.Test.YtbgbbhenakjbgagChecked
import GoSem.Claim
import GoSem.ClaimJoined
import GoSem.ClaimMapViews
import Derived.JoinedTies
import Derived.KernelRfl
namespace Go.Proofs.Ytbgbbhenakjbgag
/- THE CELL 'sum', in the pinned program and in every row, IS THE sha256 OF THE DUMP (.gsa) THAT YtbgbbhenakjbgagProg.lean LOADS. Nothing in Lean hashes anything: it is a label: what it is worth is what the hold of that sum in a sandbox is worth. -/
noncomputable def Try.pinned : Pinned := { name := "ytbgbbhenakjbgag", sum := "55128bab7ffb9070a28356ac809e0f638c1614e6b0cba0c42387321fb018c9d6", checked := Try.checked }
namespace Rows
def none {H : Type} : Left H := { results := [], args := [] }

/-- 'laws.FnExactPassFold': WHATEVER THE INPUT: true; the input reads as it did. -/
def fnExactPassFoldSpec : ChangeSpec := { name := "fnExactPassFold", fn := fun _ => fun
  | [d] => { results := [.lit (.bool true)], args := [d] }
  | _ => none }
def fnExactPassFoldRow : OpenClaim := { program := "ytbgbbhenakjbgag", sum := "55128bab7ffb9070a28356ac809e0f638c1614e6b0cba0c42387321fb018c9d6", func := "loop.example/sispass/laws.FnExactPassFold", spec := "fnExactPassFold", recurses := true, loops := true, apart := false }
def FnExactPassFoldSaid : Prop := fnExactPassFoldRow.holds Try.pinned (OpenSpec.ofChange fnExactPassFoldSpec)

/-- ITS FALSE NEIGHBOUR: 'it returns false'. Refute it at one input. -/
def fnExactPassFoldWrong : ChangeSpec := { name := "fnExactPassFold", fn := fun _ => fun
  | [d] => { results := [.lit (.bool false)], args := [d] }
  | _ => none }
def FnExactPassFoldWrongFalsely : Prop := fnExactPassFoldRow.holds Try.pinned (OpenSpec.ofChange fnExactPassFoldWrong)

/-- 'laws.FnExactPassLift': WHATEVER THE INPUT: true; the input reads as it did. -/
def fnExactPassLiftSpec : ChangeSpec := { name := "fnExactPassLift", fn := fun _ => fun
  | [d] => { results := [.lit (.bool true)], args := [d] }
  | _ => none }
def fnExactPassLiftRow : OpenClaim := { program := "ytbgbbhenakjbgag", sum := "55128bab7ffb9070a28356ac809e0f638c1614e6b0cba0c42387321fb018c9d6", func := "loop.example/sispass/laws.FnExactPassLift", spec := "fnExactPassLift", recurses := true, loops := true, apart := false }
def FnExactPassLiftSaid : Prop := fnExactPassLiftRow.holds Try.pinned (OpenSpec.ofChange fnExactPassLiftSpec)

/-- ITS FALSE NEIGHBOUR: 'it returns false'. Refute it at one input. -/
def fnExactPassLiftWrong : ChangeSpec := { name := "fnExactPassLift", fn := fun _ => fun
  | [d] => { results := [.lit (.bool false)], args := [d] }
  | _ => none }
def FnExactPassLiftWrongFalsely : Prop := fnExactPassLiftRow.holds Try.pinned (OpenSpec.ofChange fnExactPassLiftWrong)

/-- 'laws.FnExactNumPrint': WHATEVER THE INPUT: true; the input reads as it did. -/
def fnExactNumPrintSpec : ChangeSpec := { name := "fnExactNumPrint", fn := fun _ => fun
  | [d1, d2] => { results := [.lit (.bool true)], args := [d1, d2] }
  | _ => none }
def fnExactNumPrintRow : OpenClaim := { program := "ytbgbbhenakjbgag", sum := "55128bab7ffb9070a28356ac809e0f638c1614e6b0cba0c42387321fb018c9d6", func := "loop.example/sispass/laws.FnExactNumPrint", spec := "fnExactNumPrint", unfollowed := true, recurses := true, apart := false }
def FnExactNumPrintSaid : Prop := fnExactNumPrintRow.holds Try.pinned (OpenSpec.ofChange fnExactNumPrintSpec)

/-- ITS FALSE NEIGHBOUR: 'it returns false'. Refute it at one input. -/
def fnExactNumPrintWrong : ChangeSpec := { name := "fnExactNumPrint", fn := fun _ => fun
  | [d1, d2] => { results := [.lit (.bool false)], args := [d1, d2] }
  | _ => none }
def FnExactNumPrintWrongFalsely : Prop := fnExactNumPrintRow.holds Try.pinned (OpenSpec.ofChange fnExactNumPrintWrong)

/-- 'laws.FnExactNumCmp': WHATEVER THE INPUT: true; the input reads as it did. -/
def fnExactNumCmpSpec : ChangeSpec := { name := "fnExactNumCmp", fn := fun _ => fun
  | [d1, d2] => { results := [.lit (.bool true)], args := [d1, d2] }
  | _ => none }
def fnExactNumCmpRow : OpenClaim := { program := "ytbgbbhenakjbgag", sum := "55128bab7ffb9070a28356ac809e0f638c1614e6b0cba0c42387321fb018c9d6", func := "loop.example/sispass/laws.FnExactNumCmp", spec := "fnExactNumCmp", unfollowed := true, recurses := true, apart := false }
def FnExactNumCmpSaid : Prop := fnExactNumCmpRow.holds Try.pinned (OpenSpec.ofChange fnExactNumCmpSpec)

/-- ITS FALSE NEIGHBOUR: 'it returns false'. Refute it at one input. -/
def fnExactNumCmpWrong : ChangeSpec := { name := "fnExactNumCmp", fn := fun _ => fun
  | [d1, d2] => { results := [.lit (.bool false)], args := [d1, d2] }
  | _ => none }
def FnExactNumCmpWrongFalsely : Prop := fnExactNumCmpRow.holds Try.pinned (OpenSpec.ofChange fnExactNumCmpWrong)

/- THE SECOND FORM. 'bulk': how many values and letters a reading holds, each counted each time it is reached (what is shared counts as often as it is met; a slice's spare places count too). A statement '..UptoSaid' is the law's where the arguments, and the package variables that the reading takes, are together of bulk at most 1048576: NARROWER than '..Said'. Prove '..Said' where nothing that the law and all that it calls make is longer than what came in: it says more and counts as full. Else prove '..UptoSaid'. A law counts once. -/
mutual
def uptoBulk {H : Type} : DataW H → Nat
  | .lit (.string bytes) => bytes.length + 1
  | .lit _ => 1
  | .nil => 1
  | .ptr d => uptoBulk d + 1
  | .slice elems spare => uptoBulkAll elems + uptoBulkAll spare + 1
  | .agg parts => uptoBulkAll parts + 1
  | .iface _ d => uptoBulk d + 1
  | .map entries => uptoBulkEntries entries + 1
  | .held _ => 1
def uptoBulkAll {H : Type} : List (DataW H) → Nat
  | [] => 0
  | d :: r => uptoBulk d + uptoBulkAll r
def uptoBulkEntries {H : Type} : List (Lit × DataW H) → Nat
  | [] => 0
  | x :: r => uptoBulkEntry x + uptoBulkEntries r
def uptoBulkEntry {H : Type} : Lit × DataW H → Nat
  | (.string bytes, d) => bytes.length + uptoBulk d + 1
  | (_, d) => uptoBulk d + 1
 end
def uptoSmall : (H : Type) → List (DataW H) → Bool := fun _ ds => decide (uptoBulkAll ds ≤ 1048576)
def OpenSpec.upto (s : _root_.Go.ChangeSpec) : _root_.Go.OpenSpec := { _root_.Go.OpenSpec.ofChange s with cond := some uptoSmall }

/-- 'laws.FnExactPassFold', WHERE WHAT IT READS IS OF BULK AT MOST 1048576: true; the input reads as it did. -/
def fnExactPassFoldUptoRow : OpenClaim := { program := "ytbgbbhenakjbgag", sum := "55128bab7ffb9070a28356ac809e0f638c1614e6b0cba0c42387321fb018c9d6", func := "loop.example/sispass/laws.FnExactPassFold", spec := "fnExactPassFold", recurses := true, loops := true, apart := false, narrowed := true }
def FnExactPassFoldUptoSaid : Prop := fnExactPassFoldUptoRow.holds Try.pinned (OpenSpec.upto fnExactPassFoldSpec)

/-- 'laws.FnExactPassLift', WHERE WHAT IT READS IS OF BULK AT MOST 1048576: true; the input reads as it did. -/
def fnExactPassLiftUptoRow : OpenClaim := { program := "ytbgbbhenakjbgag", sum := "55128bab7ffb9070a28356ac809e0f638c1614e6b0cba0c42387321fb018c9d6", func := "loop.example/sispass/laws.FnExactPassLift", spec := "fnExactPassLift", recurses := true, loops := true, apart := false, narrowed := true }
def FnExactPassLiftUptoSaid : Prop := fnExactPassLiftUptoRow.holds Try.pinned (OpenSpec.upto fnExactPassLiftSpec)

/-- 'laws.FnExactNumPrint', WHERE WHAT IT READS IS OF BULK AT MOST 1048576: true; the input reads as it did. -/
def fnExactNumPrintUptoRow : OpenClaim := { program := "ytbgbbhenakjbgag", sum := "55128bab7ffb9070a28356ac809e0f638c1614e6b0cba0c42387321fb018c9d6", func := "loop.example/sispass/laws.FnExactNumPrint", spec := "fnExactNumPrint", unfollowed := true, recurses := true, apart := false, narrowed := true }
def FnExactNumPrintUptoSaid : Prop := fnExactNumPrintUptoRow.holds Try.pinned (OpenSpec.upto fnExactNumPrintSpec)

/-- 'laws.FnExactNumCmp', WHERE WHAT IT READS IS OF BULK AT MOST 1048576: true; the input reads as it did. -/
def fnExactNumCmpUptoRow : OpenClaim := { program := "ytbgbbhenakjbgag", sum := "55128bab7ffb9070a28356ac809e0f638c1614e6b0cba0c42387321fb018c9d6", func := "loop.example/sispass/laws.FnExactNumCmp", spec := "fnExactNumCmp", unfollowed := true, recurses := true, apart := false, narrowed := true }
def FnExactNumCmpUptoSaid : Prop := fnExactNumCmpUptoRow.holds Try.pinned (OpenSpec.upto fnExactNumCmpSpec)

end Rows
end Go.Proofs.Ytbgbbhenakjbgag
