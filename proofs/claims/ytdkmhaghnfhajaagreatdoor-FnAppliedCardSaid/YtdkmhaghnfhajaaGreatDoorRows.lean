/-
  NARROWER THAN 'FOR EVERY INPUT', by the rows' own cells (each row's printed sentence says how): FnSnaps: laid · FnApplied: laid · FnCommands: ifaces, laid · FnTicks: laid · FnBoots: laid · FnPlanned: ifaces, laid.
  DERIVED. THE GIVEN ROWS OF THIS SEAT. 6 by the template 'for every input the law returns true; each argument reads behind the call as it read before'; 0 by the template 'total and deterministic' (their statements: YtdkmhaghnfhajaaGreatDoorTotals.lean).
  GIVEN WITH THE SEED: the statements are not yours to turn. If you find one false, say at which input.
  Laid BY PROGRAM, IN A SANDBOX (cutbox-rows.mjs): the forced cells as the released guide's own fill.sh prints them over the translation 0b014b0580758776… (all of the seat's roots in one cut). By AI agents, Wed Nov 11 2026. No macro, syntax, notation, axiom, sorry.
-/
import Derived.Test.YtdkmhaghnfhajaaGreatDoorChecked
import GoSem.Claim
import GoSem.ClaimJoined
import GoSem.ClaimMapViews
import Derived.JoinedTies
import Derived.KernelRfl
namespace Go.Proofs.YtdkmhaghnfhajaaGreatDoor
/- THE CELL 'sum', in the pinned program and in every row, IS THE sha256 OF THE DUMP (.gsa) THAT YtdkmhaghnfhajaaGreatDoorProg.lean LOADS. Nothing in Lean hashes anything: it is a label: what it is worth is what the hold of that sum in a sandbox is worth. -/
noncomputable def Tryz.pinned : Pinned := { name := "ytdkmhaghnfhajaagreatdoor", sum := "0b014b0580758776710dbd87476dd5741be31a20823419880d5a281f58055dfc", checked := Tryz.checked }
namespace Rows
def none {H : Type} : Left H := { results := [], args := [] }

/- WHAT THE LISTED PACKAGE-LEVEL VARIABLES READ AS WHEN THE CALL BEGINS. Each datum BY PROGRAM (the guide's laid-datum.mjs) off the statement by which the dump's own 'gosem.cut.vars' lays the variable. In a bare row this is a premise. The card (YtdkmhaghnfhajaaGreatDoorCards.lean) ties it to the program's text. -/
def laid_loop_example_g00767_impl_kindNames {H : Type} : DataW H := .agg [.lit (.string []), .lit (.string [112, 104, 97, 115, 101]), .lit (.string [112, 111, 100]), .lit (.string [98, 117, 115, 121]), .lit (.string [102, 114, 101, 101]), .lit (.string [103, 105, 118, 101]), .lit (.string [108, 111, 99, 107]), .lit (.string [117, 110, 108, 111, 99, 107]), .lit (.string [99, 108, 111, 99, 107]), .lit (.string [98, 97, 110, 100]), .lit (.string [98, 111, 111, 116]), .lit (.string [108, 111, 99, 107, 98, 121]), .lit (.string [112, 114, 111, 98, 101])]
def laid_errors_errorType {H : Type} : DataW H := .iface "internal/reflectlite.rtype" (.agg [.ptr (.lit (.string [101, 114, 114, 111, 114]))])
def laid_loop_example_g00767_impl_errKind {H : Type} : DataW H := .iface "*errors.errorString" (.ptr (.agg [.lit (.string [116, 104, 101, 114, 101, 32, 105, 115, 32, 110, 111, 32, 115, 117, 99, 104, 32, 99, 111, 109, 109, 97, 110, 100])]))
def laid_loop_example_g00767_impl_errOften {H : Type} : DataW H := .iface "*errors.errorString" (.ptr (.agg [.lit (.string [105, 116, 32, 99, 97, 110, 110, 111, 116, 32, 98, 101, 32, 98, 117, 115, 121, 32, 115, 111, 32, 111, 102, 116, 101, 110])]))
def laid_loop_example_g00767_impl_errPhase {H : Type} : DataW H := .iface "*errors.errorString" (.ptr (.agg [.lit (.string [110, 111, 116, 32, 110, 111, 119])]))
def laid_loop_example_g00767_impl_errState {H : Type} : DataW H := .iface "*errors.errorString" (.ptr (.agg [.lit (.string [105, 116, 32, 105, 115, 32, 110, 111, 116, 32, 115, 111])]))
def laid_loop_example_g00767_impl_errBudget {H : Type} : DataW H := .iface "*errors.errorString" (.ptr (.agg [.lit (.string [116, 111, 111, 32, 102, 101, 119, 32, 119, 111, 117, 108, 100, 32, 98, 101, 32, 108, 101, 102, 116])]))

/-- 'laws.FnSnaps': WHATEVER THE INPUT: true; the input reads as it did. -/
def fnSnapsSpec : ChangeSpec := { name := "fnSnaps", vars := ["loop.example/g00767/impl.kindNames"], fn := fun _ => fun
  | [d, g1] => { results := [.lit (.bool true)], args := [d], vars := [g1] }
  | _ => none }
def fnSnapsRow : OpenClaim := { program := "ytdkmhaghnfhajaagreatdoor", sum := "0b014b0580758776710dbd87476dd5741be31a20823419880d5a281f58055dfc", func := "loop.example/g00767/laws.FnSnaps", spec := "fnSnaps", inPlace := ["slices.overlaps[int64]"], unfollowed := true, recurses := true, named := ["loop.example/g00767/impl.kindNames"], apart := false, laid := [("loop.example/g00767/impl.kindNames", laid_loop_example_g00767_impl_kindNames)] }
def FnSnapsSaid : Prop := fnSnapsRow.holds Tryz.pinned (OpenSpec.ofChange fnSnapsSpec)

/-- ITS FALSE NEIGHBOUR: 'it returns false'. Refute it at one input. -/
def fnSnapsWrong : ChangeSpec := { name := "fnSnaps", vars := ["loop.example/g00767/impl.kindNames"], fn := fun _ => fun
  | [d, g1] => { results := [.lit (.bool false)], args := [d], vars := [g1] }
  | _ => none }
def FnSnapsWrongFalsely : Prop := fnSnapsRow.holds Tryz.pinned (OpenSpec.ofChange fnSnapsWrong)

/-- 'laws.FnApplied': WHATEVER THE INPUT: true; the input reads as it did. -/
def fnAppliedSpec : ChangeSpec := { name := "fnApplied", vars := ["loop.example/g00767/impl.kindNames"], fn := fun _ => fun
  | [d, g1] => { results := [.lit (.bool true)], args := [d], vars := [g1] }
  | _ => none }
def fnAppliedRow : OpenClaim := { program := "ytdkmhaghnfhajaagreatdoor", sum := "0b014b0580758776710dbd87476dd5741be31a20823419880d5a281f58055dfc", func := "loop.example/g00767/laws.FnApplied", spec := "fnApplied", inPlace := ["slices.overlaps[int64]"], unfollowed := true, recurses := true, named := ["loop.example/g00767/impl.kindNames"], apart := false, laid := [("loop.example/g00767/impl.kindNames", laid_loop_example_g00767_impl_kindNames)] }
def FnAppliedSaid : Prop := fnAppliedRow.holds Tryz.pinned (OpenSpec.ofChange fnAppliedSpec)

/-- ITS FALSE NEIGHBOUR: 'it returns false'. Refute it at one input. -/
def fnAppliedWrong : ChangeSpec := { name := "fnApplied", vars := ["loop.example/g00767/impl.kindNames"], fn := fun _ => fun
  | [d, g1] => { results := [.lit (.bool false)], args := [d], vars := [g1] }
  | _ => none }
def FnAppliedWrongFalsely : Prop := fnAppliedRow.holds Tryz.pinned (OpenSpec.ofChange fnAppliedWrong)

/-- 'laws.FnCommands': WHATEVER THE INPUT: true; the input reads as it did. -/
def fnCommandsSpec : ChangeSpec := { name := "fnCommands", vars := ["loop.example/g00767/impl.errKind", "loop.example/g00767/impl.errPhase", "loop.example/g00767/impl.errState", "loop.example/g00767/impl.errBudget", "loop.example/g00767/impl.errOften", "loop.example/g00767/impl.kindNames"], fn := fun _ => fun
  | [d, g1, g2, g3, g4, g5, g6] => { results := [.lit (.bool true)], args := [d], vars := [g1, g2, g3, g4, g5, g6] }
  | _ => none }
def fnCommandsRow : OpenClaim := { program := "ytdkmhaghnfhajaagreatdoor", sum := "0b014b0580758776710dbd87476dd5741be31a20823419880d5a281f58055dfc", func := "loop.example/g00767/laws.FnCommands", spec := "fnCommands", inPlace := ["internal/reflectlite.ValueOf", "(internal/reflectlite.Value).Type", "(internal/reflectlite.Value).IsNil", "internal/reflectlite.TypeOf", "(internal/reflectlite.Value).Elem", "(internal/reflectlite.Value).Set", "slices.overlaps[int64]"], unfollowed := true, recurses := true, named := ["loop.example/g00767/impl.errKind", "loop.example/g00767/impl.errPhase", "loop.example/g00767/impl.errState", "loop.example/g00767/impl.errBudget", "loop.example/g00767/impl.errOften", "errors.errorType", "loop.example/g00767/impl.kindNames"], ifaces := true, apart := false, laid := [("errors.errorType", laid_errors_errorType), ("loop.example/g00767/impl.kindNames", laid_loop_example_g00767_impl_kindNames), ("loop.example/g00767/impl.errKind", laid_loop_example_g00767_impl_errKind), ("loop.example/g00767/impl.errOften", laid_loop_example_g00767_impl_errOften), ("loop.example/g00767/impl.errPhase", laid_loop_example_g00767_impl_errPhase), ("loop.example/g00767/impl.errState", laid_loop_example_g00767_impl_errState), ("loop.example/g00767/impl.errBudget", laid_loop_example_g00767_impl_errBudget)] }
def FnCommandsSaid : Prop := fnCommandsRow.holds Tryz.pinned (OpenSpec.ofChange fnCommandsSpec)

/-- ITS FALSE NEIGHBOUR: 'it returns false'. Refute it at one input. -/
def fnCommandsWrong : ChangeSpec := { name := "fnCommands", vars := ["loop.example/g00767/impl.errKind", "loop.example/g00767/impl.errPhase", "loop.example/g00767/impl.errState", "loop.example/g00767/impl.errBudget", "loop.example/g00767/impl.errOften", "loop.example/g00767/impl.kindNames"], fn := fun _ => fun
  | [d, g1, g2, g3, g4, g5, g6] => { results := [.lit (.bool false)], args := [d], vars := [g1, g2, g3, g4, g5, g6] }
  | _ => none }
def FnCommandsWrongFalsely : Prop := fnCommandsRow.holds Tryz.pinned (OpenSpec.ofChange fnCommandsWrong)

/-- 'laws.FnTicks': WHATEVER THE INPUT: true; the input reads as it did. -/
def fnTicksSpec : ChangeSpec := { name := "fnTicks", vars := ["loop.example/g00767/impl.kindNames"], fn := fun _ => fun
  | [d, g1] => { results := [.lit (.bool true)], args := [d], vars := [g1] }
  | _ => none }
def fnTicksRow : OpenClaim := { program := "ytdkmhaghnfhajaagreatdoor", sum := "0b014b0580758776710dbd87476dd5741be31a20823419880d5a281f58055dfc", func := "loop.example/g00767/laws.FnTicks", spec := "fnTicks", inPlace := ["slices.overlaps[int64]"], unfollowed := true, recurses := true, named := ["loop.example/g00767/impl.kindNames"], apart := false, laid := [("loop.example/g00767/impl.kindNames", laid_loop_example_g00767_impl_kindNames)] }
def FnTicksSaid : Prop := fnTicksRow.holds Tryz.pinned (OpenSpec.ofChange fnTicksSpec)

/-- ITS FALSE NEIGHBOUR: 'it returns false'. Refute it at one input. -/
def fnTicksWrong : ChangeSpec := { name := "fnTicks", vars := ["loop.example/g00767/impl.kindNames"], fn := fun _ => fun
  | [d, g1] => { results := [.lit (.bool false)], args := [d], vars := [g1] }
  | _ => none }
def FnTicksWrongFalsely : Prop := fnTicksRow.holds Tryz.pinned (OpenSpec.ofChange fnTicksWrong)

/-- 'laws.FnBoots': WHATEVER THE INPUT: true; the input reads as it did. -/
def fnBootsSpec : ChangeSpec := { name := "fnBoots", vars := ["loop.example/g00767/impl.kindNames"], fn := fun _ => fun
  | [d, g1] => { results := [.lit (.bool true)], args := [d], vars := [g1] }
  | _ => none }
def fnBootsRow : OpenClaim := { program := "ytdkmhaghnfhajaagreatdoor", sum := "0b014b0580758776710dbd87476dd5741be31a20823419880d5a281f58055dfc", func := "loop.example/g00767/laws.FnBoots", spec := "fnBoots", inPlace := ["slices.overlaps[int64]"], unfollowed := true, recurses := true, named := ["loop.example/g00767/impl.kindNames"], apart := false, laid := [("loop.example/g00767/impl.kindNames", laid_loop_example_g00767_impl_kindNames)] }
def FnBootsSaid : Prop := fnBootsRow.holds Tryz.pinned (OpenSpec.ofChange fnBootsSpec)

/-- ITS FALSE NEIGHBOUR: 'it returns false'. Refute it at one input. -/
def fnBootsWrong : ChangeSpec := { name := "fnBoots", vars := ["loop.example/g00767/impl.kindNames"], fn := fun _ => fun
  | [d, g1] => { results := [.lit (.bool false)], args := [d], vars := [g1] }
  | _ => none }
def FnBootsWrongFalsely : Prop := fnBootsRow.holds Tryz.pinned (OpenSpec.ofChange fnBootsWrong)

/-- 'laws.FnPlanned': WHATEVER THE INPUT: true; the input reads as it did. -/
def fnPlannedSpec : ChangeSpec := { name := "fnPlanned", vars := ["loop.example/g00767/impl.errKind", "loop.example/g00767/impl.errPhase", "loop.example/g00767/impl.errState", "loop.example/g00767/impl.errBudget", "loop.example/g00767/impl.errOften", "loop.example/g00767/impl.kindNames"], fn := fun _ => fun
  | [d, g1, g2, g3, g4, g5, g6] => { results := [.lit (.bool true)], args := [d], vars := [g1, g2, g3, g4, g5, g6] }
  | _ => none }
def fnPlannedRow : OpenClaim := { program := "ytdkmhaghnfhajaagreatdoor", sum := "0b014b0580758776710dbd87476dd5741be31a20823419880d5a281f58055dfc", func := "loop.example/g00767/laws.FnPlanned", spec := "fnPlanned", inPlace := ["internal/reflectlite.ValueOf", "(internal/reflectlite.Value).Type", "(internal/reflectlite.Value).IsNil", "internal/reflectlite.TypeOf", "(internal/reflectlite.Value).Elem", "(internal/reflectlite.Value).Set", "slices.overlaps[int64]"], unfollowed := true, recurses := true, named := ["loop.example/g00767/impl.errKind", "loop.example/g00767/impl.errPhase", "loop.example/g00767/impl.errState", "loop.example/g00767/impl.errBudget", "loop.example/g00767/impl.errOften", "errors.errorType", "loop.example/g00767/impl.kindNames"], ifaces := true, apart := false, laid := [("errors.errorType", laid_errors_errorType), ("loop.example/g00767/impl.kindNames", laid_loop_example_g00767_impl_kindNames), ("loop.example/g00767/impl.errKind", laid_loop_example_g00767_impl_errKind), ("loop.example/g00767/impl.errOften", laid_loop_example_g00767_impl_errOften), ("loop.example/g00767/impl.errPhase", laid_loop_example_g00767_impl_errPhase), ("loop.example/g00767/impl.errState", laid_loop_example_g00767_impl_errState), ("loop.example/g00767/impl.errBudget", laid_loop_example_g00767_impl_errBudget)] }
def FnPlannedSaid : Prop := fnPlannedRow.holds Tryz.pinned (OpenSpec.ofChange fnPlannedSpec)

/-- ITS FALSE NEIGHBOUR: 'it returns false'. Refute it at one input. -/
def fnPlannedWrong : ChangeSpec := { name := "fnPlanned", vars := ["loop.example/g00767/impl.errKind", "loop.example/g00767/impl.errPhase", "loop.example/g00767/impl.errState", "loop.example/g00767/impl.errBudget", "loop.example/g00767/impl.errOften", "loop.example/g00767/impl.kindNames"], fn := fun _ => fun
  | [d, g1, g2, g3, g4, g5, g6] => { results := [.lit (.bool false)], args := [d], vars := [g1, g2, g3, g4, g5, g6] }
  | _ => none }
def FnPlannedWrongFalsely : Prop := fnPlannedRow.holds Tryz.pinned (OpenSpec.ofChange fnPlannedWrong)

/- THE SECOND FORM. 'bulk': how many values and letters a reading holds, each counted each time it is reached (what is shared counts as often as it is met; a slice's spare places count too). A statement '..UptoSaid' is the law's where the arguments, and the package variables that the reading takes, are together of bulk at most 1048576: NARROWER than '..Said'. Prove '..Said' where nothing that the law and all that it calls make is longer than what came in: it says more and counts as full. Else prove '..UptoSaid'. A law counts once. -/
mutual
def uptoBulk {H : Type} : DataW H → Nat
  | .lit (.string bytes) => bytes.length + 1
  | .lit _ => 1
  | .nil => 1
  | .ptr d => uptoBulk d + 1
  | .slice elems spare => uptoBulkAll elems + uptoBulkAll spare + 1
  | .agg parts => uptoBulkAll parts + 1
  | .iface _ d => uptoBulk d + 1
  | .map entries => uptoBulkEntries entries + 1
  | .held _ => 1
def uptoBulkAll {H : Type} : List (DataW H) → Nat
  | [] => 0
  | d :: r => uptoBulk d + uptoBulkAll r
def uptoBulkEntries {H : Type} : List (Lit × DataW H) → Nat
  | [] => 0
  | x :: r => uptoBulkEntry x + uptoBulkEntries r
def uptoBulkEntry {H : Type} : Lit × DataW H → Nat
  | (.string bytes, d) => bytes.length + uptoBulk d + 1
  | (_, d) => uptoBulk d + 1
 end
def uptoSmall : (H : Type) → List (DataW H) → Bool := fun _ ds => decide (uptoBulkAll ds ≤ 1048576)
def OpenSpec.upto (s : _root_.Go.ChangeSpec) : _root_.Go.OpenSpec := { _root_.Go.OpenSpec.ofChange s with cond := some uptoSmall }

/-- 'laws.FnSnaps', WHERE WHAT IT READS IS OF BULK AT MOST 1048576: true; the input reads as it did. -/
def fnSnapsUptoRow : OpenClaim := { program := "ytdkmhaghnfhajaagreatdoor", sum := "0b014b0580758776710dbd87476dd5741be31a20823419880d5a281f58055dfc", func := "loop.example/g00767/laws.FnSnaps", spec := "fnSnaps", inPlace := ["slices.overlaps[int64]"], unfollowed := true, recurses := true, named := ["loop.example/g00767/impl.kindNames"], apart := false, laid := [("loop.example/g00767/impl.kindNames", laid_loop_example_g00767_impl_kindNames)], narrowed := true }
def FnSnapsUptoSaid : Prop := fnSnapsUptoRow.holds Tryz.pinned (OpenSpec.upto fnSnapsSpec)

/-- 'laws.FnApplied', WHERE WHAT IT READS IS OF BULK AT MOST 1048576: true; the input reads as it did. -/
def fnAppliedUptoRow : OpenClaim := { program := "ytdkmhaghnfhajaagreatdoor", sum := "0b014b0580758776710dbd87476dd5741be31a20823419880d5a281f58055dfc", func := "loop.example/g00767/laws.FnApplied", spec := "fnApplied", inPlace := ["slices.overlaps[int64]"], unfollowed := true, recurses := true, named := ["loop.example/g00767/impl.kindNames"], apart := false, laid := [("loop.example/g00767/impl.kindNames", laid_loop_example_g00767_impl_kindNames)], narrowed := true }
def FnAppliedUptoSaid : Prop := fnAppliedUptoRow.holds Tryz.pinned (OpenSpec.upto fnAppliedSpec)

/-- 'laws.FnCommands', WHERE WHAT IT READS IS OF BULK AT MOST 1048576: true; the input reads as it did. -/
def fnCommandsUptoRow : OpenClaim := { program := "ytdkmhaghnfhajaagreatdoor", sum := "0b014b0580758776710dbd87476dd5741be31a20823419880d5a281f58055dfc", func := "loop.example/g00767/laws.FnCommands", spec := "fnCommands", inPlace := ["internal/reflectlite.ValueOf", "(internal/reflectlite.Value).Type", "(internal/reflectlite.Value).IsNil", "internal/reflectlite.TypeOf", "(internal/reflectlite.Value).Elem", "(internal/reflectlite.Value).Set", "slices.overlaps[int64]"], unfollowed := true, recurses := true, named := ["loop.example/g00767/impl.errKind", "loop.example/g00767/impl.errPhase", "loop.example/g00767/impl.errState", "loop.example/g00767/impl.errBudget", "loop.example/g00767/impl.errOften", "errors.errorType", "loop.example/g00767/impl.kindNames"], ifaces := true, apart := false, laid := [("errors.errorType", laid_errors_errorType), ("loop.example/g00767/impl.kindNames", laid_loop_example_g00767_impl_kindNames), ("loop.example/g00767/impl.errKind", laid_loop_example_g00767_impl_errKind), ("loop.example/g00767/impl.errOften", laid_loop_example_g00767_impl_errOften), ("loop.example/g00767/impl.errPhase", laid_loop_example_g00767_impl_errPhase), ("loop.example/g00767/impl.errState", laid_loop_example_g00767_impl_errState), ("loop.example/g00767/impl.errBudget", laid_loop_example_g00767_impl_errBudget)], narrowed := true }
def FnCommandsUptoSaid : Prop := fnCommandsUptoRow.holds Tryz.pinned (OpenSpec.upto fnCommandsSpec)

/-- 'laws.FnTicks', WHERE WHAT IT READS IS OF BULK AT MOST 1048576: true; the input reads as it did. -/
def fnTicksUptoRow : OpenClaim := { program := "ytdkmhaghnfhajaagreatdoor", sum := "0b014b0580758776710dbd87476dd5741be31a20823419880d5a281f58055dfc", func := "loop.example/g00767/laws.FnTicks", spec := "fnTicks", inPlace := ["slices.overlaps[int64]"], unfollowed := true, recurses := true, named := ["loop.example/g00767/impl.kindNames"], apart := false, laid := [("loop.example/g00767/impl.kindNames", laid_loop_example_g00767_impl_kindNames)], narrowed := true }
def FnTicksUptoSaid : Prop := fnTicksUptoRow.holds Tryz.pinned (OpenSpec.upto fnTicksSpec)

/-- 'laws.FnBoots', WHERE WHAT IT READS IS OF BULK AT MOST 1048576: true; the input reads as it did. -/
def fnBootsUptoRow : OpenClaim := { program := "ytdkmhaghnfhajaagreatdoor", sum := "0b014b0580758776710dbd87476dd5741be31a20823419880d5a281f58055dfc", func := "loop.example/g00767/laws.FnBoots", spec := "fnBoots", inPlace := ["slices.overlaps[int64]"], unfollowed := true, recurses := true, named := ["loop.example/g00767/impl.kindNames"], apart := false, laid := [("loop.example/g00767/impl.kindNames", laid_loop_example_g00767_impl_kindNames)], narrowed := true }
def FnBootsUptoSaid : Prop := fnBootsUptoRow.holds Tryz.pinned (OpenSpec.upto fnBootsSpec)

/-- 'laws.FnPlanned', WHERE WHAT IT READS IS OF BULK AT MOST 1048576: true; the input reads as it did. -/
def fnPlannedUptoRow : OpenClaim := { program := "ytdkmhaghnfhajaagreatdoor", sum := "0b014b0580758776710dbd87476dd5741be31a20823419880d5a281f58055dfc", func := "loop.example/g00767/laws.FnPlanned", spec := "fnPlanned", inPlace := ["internal/reflectlite.ValueOf", "(internal/reflectlite.Value).Type", "(internal/reflectlite.Value).IsNil", "internal/reflectlite.TypeOf", "(internal/reflectlite.Value).Elem", "(internal/reflectlite.Value).Set", "slices.overlaps[int64]"], unfollowed := true, recurses := true, named := ["loop.example/g00767/impl.errKind", "loop.example/g00767/impl.errPhase", "loop.example/g00767/impl.errState", "loop.example/g00767/impl.errBudget", "loop.example/g00767/impl.errOften", "errors.errorType", "loop.example/g00767/impl.kindNames"], ifaces := true, apart := false, laid := [("errors.errorType", laid_errors_errorType), ("loop.example/g00767/impl.kindNames", laid_loop_example_g00767_impl_kindNames), ("loop.example/g00767/impl.errKind", laid_loop_example_g00767_impl_errKind), ("loop.example/g00767/impl.errOften", laid_loop_example_g00767_impl_errOften), ("loop.example/g00767/impl.errPhase", laid_loop_example_g00767_impl_errPhase), ("loop.example/g00767/impl.errState", laid_loop_example_g00767_impl_errState), ("loop.example/g00767/impl.errBudget", laid_loop_example_g00767_impl_errBudget)], narrowed := true }
def FnPlannedUptoSaid : Prop := fnPlannedUptoRow.holds Tryz.pinned (OpenSpec.upto fnPlannedSpec)

end Rows
end Go.Proofs.YtdkmhaghnfhajaaGreatDoor
