/-
  NARROWER THAN 'FOR EVERY INPUT', by the rows' own cells (each row's printed sentence says how): FnExactAppliedRec: laid · FnExactAppliedAll: laid · FnExactCommanded: ifaces, laid · FnExactPlanned: ifaces, laid.
  DERIVED. THE GIVEN ROWS OF THIS SEAT. 4 by the template 'for every input the law returns true; each argument reads behind the call as it read before'; 0 by the template 'total and deterministic' (their statements: YtdphpjnecjofeaaGreatDoorTotals.lean).
  GIVEN WITH THE SEED: the statements are not yours to turn. If you find one false, say at which input.
  Laid BY PROGRAM, IN A SANDBOX (cutbox-rows.mjs): the forced cells as the released guide's own fill.sh prints them over the translation a8e42ede716fa3ce… (all of the seat's roots in one cut). By AI agents, Wed Nov 11 2026. No macro, syntax, notation, axiom, sorry.
-/
import Derived.Test.YtdphpjnecjofeaaGreatDoorChecked
import GoSem.Claim
import GoSem.ClaimJoined
import GoSem.ClaimMapViews
import Derived.JoinedTies
import Derived.KernelRfl
namespace Go.Proofs.YtdphpjnecjofeaaGreatDoor
/- THE CELL 'sum', in the pinned program and in every row, IS THE sha256 OF THE DUMP (.gsa) THAT YtdphpjnecjofeaaGreatDoorProg.lean LOADS. Nothing in Lean hashes anything: it is a label: what it is worth is what the hold of that sum in a sandbox is worth. -/
noncomputable def Tryz.pinned : Pinned := { name := "ytdphpjnecjofeaagreatdoor", sum := "a8e42ede716fa3ce46b7608c0da245162d3f7b705b662caf12eb4b7353d2780f", checked := Tryz.checked }
namespace Rows
def none {H : Type} : Left H := { results := [], args := [] }

/- WHAT THE LISTED PACKAGE-LEVEL VARIABLES READ AS WHEN THE CALL BEGINS. Each datum BY PROGRAM (the guide's laid-datum.mjs) off the statement by which the dump's own 'gosem.cut.vars' lays the variable. In a bare row this is a premise. The card (YtdphpjnecjofeaaGreatDoorCards.lean) ties it to the program's text. -/
def laid_loop_example_g00767_impl_kindNames {H : Type} : DataW H := .agg [.lit (.string []), .lit (.string [112, 104, 97, 115, 101]), .lit (.string [112, 111, 100]), .lit (.string [98, 117, 115, 121]), .lit (.string [102, 114, 101, 101]), .lit (.string [103, 105, 118, 101]), .lit (.string [108, 111, 99, 107]), .lit (.string [117, 110, 108, 111, 99, 107]), .lit (.string [99, 108, 111, 99, 107]), .lit (.string [98, 97, 110, 100]), .lit (.string [98, 111, 111, 116]), .lit (.string [108, 111, 99, 107, 98, 121]), .lit (.string [112, 114, 111, 98, 101])]
def laid_errors_errorType {H : Type} : DataW H := .iface "internal/reflectlite.rtype" (.agg [.ptr (.lit (.string [101, 114, 114, 111, 114]))])
def laid_loop_example_g00767_impl_errKind {H : Type} : DataW H := .iface "*errors.errorString" (.ptr (.agg [.lit (.string [116, 104, 101, 114, 101, 32, 105, 115, 32, 110, 111, 32, 115, 117, 99, 104, 32, 99, 111, 109, 109, 97, 110, 100])]))
def laid_loop_example_g00767_impl_errOften {H : Type} : DataW H := .iface "*errors.errorString" (.ptr (.agg [.lit (.string [105, 116, 32, 99, 97, 110, 110, 111, 116, 32, 98, 101, 32, 98, 117, 115, 121, 32, 115, 111, 32, 111, 102, 116, 101, 110])]))
def laid_loop_example_g00767_impl_errPhase {H : Type} : DataW H := .iface "*errors.errorString" (.ptr (.agg [.lit (.string [110, 111, 116, 32, 110, 111, 119])]))
def laid_loop_example_g00767_impl_errState {H : Type} : DataW H := .iface "*errors.errorString" (.ptr (.agg [.lit (.string [105, 116, 32, 105, 115, 32, 110, 111, 116, 32, 115, 111])]))
def laid_loop_example_g00767_impl_errBudget {H : Type} : DataW H := .iface "*errors.errorString" (.ptr (.agg [.lit (.string [116, 111, 111, 32, 102, 101, 119, 32, 119, 111, 117, 108, 100, 32, 98, 101, 32, 108, 101, 102, 116])]))

/-- 'laws.FnExactAppliedRec': WHATEVER THE INPUT: true; the input reads as it did. -/
def fnExactAppliedRecSpec : ChangeSpec := { name := "fnExactAppliedRec", vars := ["loop.example/g00767/impl.kindNames"], fn := fun _ => fun
  | [d1, d2, d3, g1] => { results := [.lit (.bool true)], args := [d1, d2, d3], vars := [g1] }
  | _ => none }
def fnExactAppliedRecRow : OpenClaim := { program := "ytdphpjnecjofeaagreatdoor", sum := "a8e42ede716fa3ce46b7608c0da245162d3f7b705b662caf12eb4b7353d2780f", func := "loop.example/g00767/laws.FnExactAppliedRec", spec := "fnExactAppliedRec", inPlace := ["slices.overlaps[int64]"], unfollowed := true, recurses := true, named := ["loop.example/g00767/impl.kindNames"], apart := false, laid := [("loop.example/g00767/impl.kindNames", laid_loop_example_g00767_impl_kindNames)] }
def FnExactAppliedRecSaid : Prop := fnExactAppliedRecRow.holds Tryz.pinned (OpenSpec.ofChange fnExactAppliedRecSpec)

/-- ITS FALSE NEIGHBOUR: 'it returns false'. Refute it at one input. -/
def fnExactAppliedRecWrong : ChangeSpec := { name := "fnExactAppliedRec", vars := ["loop.example/g00767/impl.kindNames"], fn := fun _ => fun
  | [d1, d2, d3, g1] => { results := [.lit (.bool false)], args := [d1, d2, d3], vars := [g1] }
  | _ => none }
def FnExactAppliedRecWrongFalsely : Prop := fnExactAppliedRecRow.holds Tryz.pinned (OpenSpec.ofChange fnExactAppliedRecWrong)

/-- 'laws.FnExactAppliedAll': WHATEVER THE INPUT: true; the input reads as it did. -/
def fnExactAppliedAllSpec : ChangeSpec := { name := "fnExactAppliedAll", vars := ["loop.example/g00767/impl.kindNames"], fn := fun _ => fun
  | [d1, d2, d3, g1] => { results := [.lit (.bool true)], args := [d1, d2, d3], vars := [g1] }
  | _ => none }
def fnExactAppliedAllRow : OpenClaim := { program := "ytdphpjnecjofeaagreatdoor", sum := "a8e42ede716fa3ce46b7608c0da245162d3f7b705b662caf12eb4b7353d2780f", func := "loop.example/g00767/laws.FnExactAppliedAll", spec := "fnExactAppliedAll", inPlace := ["slices.overlaps[int64]"], unfollowed := true, recurses := true, named := ["loop.example/g00767/impl.kindNames"], apart := false, laid := [("loop.example/g00767/impl.kindNames", laid_loop_example_g00767_impl_kindNames)] }
def FnExactAppliedAllSaid : Prop := fnExactAppliedAllRow.holds Tryz.pinned (OpenSpec.ofChange fnExactAppliedAllSpec)

/-- ITS FALSE NEIGHBOUR: 'it returns false'. Refute it at one input. -/
def fnExactAppliedAllWrong : ChangeSpec := { name := "fnExactAppliedAll", vars := ["loop.example/g00767/impl.kindNames"], fn := fun _ => fun
  | [d1, d2, d3, g1] => { results := [.lit (.bool false)], args := [d1, d2, d3], vars := [g1] }
  | _ => none }
def FnExactAppliedAllWrongFalsely : Prop := fnExactAppliedAllRow.holds Tryz.pinned (OpenSpec.ofChange fnExactAppliedAllWrong)

/-- 'laws.FnExactCommanded': WHATEVER THE INPUT: true; the input reads as it did. -/
def fnExactCommandedSpec : ChangeSpec := { name := "fnExactCommanded", vars := ["loop.example/g00767/impl.errKind", "loop.example/g00767/impl.errPhase", "loop.example/g00767/impl.errState", "loop.example/g00767/impl.errBudget", "loop.example/g00767/impl.errOften"], fn := fun _ => fun
  | [d1, d2, d3, d4, d5, g1, g2, g3, g4, g5] => { results := [.lit (.bool true)], args := [d1, d2, d3, d4, d5], vars := [g1, g2, g3, g4, g5] }
  | _ => none }
def fnExactCommandedRow : OpenClaim := { program := "ytdphpjnecjofeaagreatdoor", sum := "a8e42ede716fa3ce46b7608c0da245162d3f7b705b662caf12eb4b7353d2780f", func := "loop.example/g00767/laws.FnExactCommanded", spec := "fnExactCommanded", inPlace := ["internal/reflectlite.ValueOf", "(internal/reflectlite.Value).Type", "(internal/reflectlite.Value).IsNil", "internal/reflectlite.TypeOf", "(internal/reflectlite.Value).Elem", "(internal/reflectlite.Value).Set"], unfollowed := true, recurses := true, named := ["loop.example/g00767/impl.errKind", "loop.example/g00767/impl.errPhase", "loop.example/g00767/impl.errState", "loop.example/g00767/impl.errBudget", "loop.example/g00767/impl.errOften", "errors.errorType"], ifaces := true, apart := false, laid := [("errors.errorType", laid_errors_errorType), ("loop.example/g00767/impl.errKind", laid_loop_example_g00767_impl_errKind), ("loop.example/g00767/impl.errOften", laid_loop_example_g00767_impl_errOften), ("loop.example/g00767/impl.errPhase", laid_loop_example_g00767_impl_errPhase), ("loop.example/g00767/impl.errState", laid_loop_example_g00767_impl_errState), ("loop.example/g00767/impl.errBudget", laid_loop_example_g00767_impl_errBudget)] }
def FnExactCommandedSaid : Prop := fnExactCommandedRow.holds Tryz.pinned (OpenSpec.ofChange fnExactCommandedSpec)

/-- ITS FALSE NEIGHBOUR: 'it returns false'. Refute it at one input. -/
def fnExactCommandedWrong : ChangeSpec := { name := "fnExactCommanded", vars := ["loop.example/g00767/impl.errKind", "loop.example/g00767/impl.errPhase", "loop.example/g00767/impl.errState", "loop.example/g00767/impl.errBudget", "loop.example/g00767/impl.errOften"], fn := fun _ => fun
  | [d1, d2, d3, d4, d5, g1, g2, g3, g4, g5] => { results := [.lit (.bool false)], args := [d1, d2, d3, d4, d5], vars := [g1, g2, g3, g4, g5] }
  | _ => none }
def FnExactCommandedWrongFalsely : Prop := fnExactCommandedRow.holds Tryz.pinned (OpenSpec.ofChange fnExactCommandedWrong)

/-- 'laws.FnExactPlanned': WHATEVER THE INPUT: true; the input reads as it did. -/
def fnExactPlannedSpec : ChangeSpec := { name := "fnExactPlanned", vars := ["loop.example/g00767/impl.errKind", "loop.example/g00767/impl.errPhase", "loop.example/g00767/impl.errState", "loop.example/g00767/impl.errBudget", "loop.example/g00767/impl.errOften"], fn := fun _ => fun
  | [d1, d2, d3, g1, g2, g3, g4, g5] => { results := [.lit (.bool true)], args := [d1, d2, d3], vars := [g1, g2, g3, g4, g5] }
  | _ => none }
def fnExactPlannedRow : OpenClaim := { program := "ytdphpjnecjofeaagreatdoor", sum := "a8e42ede716fa3ce46b7608c0da245162d3f7b705b662caf12eb4b7353d2780f", func := "loop.example/g00767/laws.FnExactPlanned", spec := "fnExactPlanned", inPlace := ["internal/reflectlite.ValueOf", "(internal/reflectlite.Value).Type", "(internal/reflectlite.Value).IsNil", "internal/reflectlite.TypeOf", "(internal/reflectlite.Value).Elem", "(internal/reflectlite.Value).Set"], unfollowed := true, recurses := true, named := ["loop.example/g00767/impl.errKind", "loop.example/g00767/impl.errPhase", "loop.example/g00767/impl.errState", "loop.example/g00767/impl.errBudget", "loop.example/g00767/impl.errOften", "errors.errorType"], ifaces := true, apart := false, laid := [("errors.errorType", laid_errors_errorType), ("loop.example/g00767/impl.errKind", laid_loop_example_g00767_impl_errKind), ("loop.example/g00767/impl.errOften", laid_loop_example_g00767_impl_errOften), ("loop.example/g00767/impl.errPhase", laid_loop_example_g00767_impl_errPhase), ("loop.example/g00767/impl.errState", laid_loop_example_g00767_impl_errState), ("loop.example/g00767/impl.errBudget", laid_loop_example_g00767_impl_errBudget)] }
def FnExactPlannedSaid : Prop := fnExactPlannedRow.holds Tryz.pinned (OpenSpec.ofChange fnExactPlannedSpec)

/-- ITS FALSE NEIGHBOUR: 'it returns false'. Refute it at one input. -/
def fnExactPlannedWrong : ChangeSpec := { name := "fnExactPlanned", vars := ["loop.example/g00767/impl.errKind", "loop.example/g00767/impl.errPhase", "loop.example/g00767/impl.errState", "loop.example/g00767/impl.errBudget", "loop.example/g00767/impl.errOften"], fn := fun _ => fun
  | [d1, d2, d3, g1, g2, g3, g4, g5] => { results := [.lit (.bool false)], args := [d1, d2, d3], vars := [g1, g2, g3, g4, g5] }
  | _ => none }
def FnExactPlannedWrongFalsely : Prop := fnExactPlannedRow.holds Tryz.pinned (OpenSpec.ofChange fnExactPlannedWrong)

/- THE SECOND FORM. 'bulk': how many values and letters a reading holds, each counted each time it is reached (what is shared counts as often as it is met; a slice's spare places count too). A statement '..UptoSaid' is the law's where the arguments, and the package variables that the reading takes, are together of bulk at most 1048576: NARROWER than '..Said'. Prove '..Said' where nothing that the law and all that it calls make is longer than what came in: it says more and counts as full. Else prove '..UptoSaid'. A law counts once. -/
mutual
def uptoBulk {H : Type} : DataW H → Nat
  | .lit (.string bytes) => bytes.length + 1
  | .lit _ => 1
  | .nil => 1
  | .ptr d => uptoBulk d + 1
  | .slice elems spare => uptoBulkAll elems + uptoBulkAll spare + 1
  | .agg parts => uptoBulkAll parts + 1
  | .iface _ d => uptoBulk d + 1
  | .map entries => uptoBulkEntries entries + 1
  | .held _ => 1
def uptoBulkAll {H : Type} : List (DataW H) → Nat
  | [] => 0
  | d :: r => uptoBulk d + uptoBulkAll r
def uptoBulkEntries {H : Type} : List (Lit × DataW H) → Nat
  | [] => 0
  | x :: r => uptoBulkEntry x + uptoBulkEntries r
def uptoBulkEntry {H : Type} : Lit × DataW H → Nat
  | (.string bytes, d) => bytes.length + uptoBulk d + 1
  | (_, d) => uptoBulk d + 1
 end
def uptoSmall : (H : Type) → List (DataW H) → Bool := fun _ ds => decide (uptoBulkAll ds ≤ 1048576)
def OpenSpec.upto (s : _root_.Go.ChangeSpec) : _root_.Go.OpenSpec := { _root_.Go.OpenSpec.ofChange s with cond := some uptoSmall }

/-- 'laws.FnExactAppliedRec', WHERE WHAT IT READS IS OF BULK AT MOST 1048576: true; the input reads as it did. -/
def fnExactAppliedRecUptoRow : OpenClaim := { program := "ytdphpjnecjofeaagreatdoor", sum := "a8e42ede716fa3ce46b7608c0da245162d3f7b705b662caf12eb4b7353d2780f", func := "loop.example/g00767/laws.FnExactAppliedRec", spec := "fnExactAppliedRec", inPlace := ["slices.overlaps[int64]"], unfollowed := true, recurses := true, named := ["loop.example/g00767/impl.kindNames"], apart := false, laid := [("loop.example/g00767/impl.kindNames", laid_loop_example_g00767_impl_kindNames)], narrowed := true }
def FnExactAppliedRecUptoSaid : Prop := fnExactAppliedRecUptoRow.holds Tryz.pinned (OpenSpec.upto fnExactAppliedRecSpec)

/-- 'laws.FnExactAppliedAll', WHERE WHAT IT READS IS OF BULK AT MOST 1048576: true; the input reads as it did. -/
def fnExactAppliedAllUptoRow : OpenClaim := { program := "ytdphpjnecjofeaagreatdoor", sum := "a8e42ede716fa3ce46b7608c0da245162d3f7b705b662caf12eb4b7353d2780f", func := "loop.example/g00767/laws.FnExactAppliedAll", spec := "fnExactAppliedAll", inPlace := ["slices.overlaps[int64]"], unfollowed := true, recurses := true, named := ["loop.example/g00767/impl.kindNames"], apart := false, laid := [("loop.example/g00767/impl.kindNames", laid_loop_example_g00767_impl_kindNames)], narrowed := true }
def FnExactAppliedAllUptoSaid : Prop := fnExactAppliedAllUptoRow.holds Tryz.pinned (OpenSpec.upto fnExactAppliedAllSpec)

/-- 'laws.FnExactCommanded', WHERE WHAT IT READS IS OF BULK AT MOST 1048576: true; the input reads as it did. -/
def fnExactCommandedUptoRow : OpenClaim := { program := "ytdphpjnecjofeaagreatdoor", sum := "a8e42ede716fa3ce46b7608c0da245162d3f7b705b662caf12eb4b7353d2780f", func := "loop.example/g00767/laws.FnExactCommanded", spec := "fnExactCommanded", inPlace := ["internal/reflectlite.ValueOf", "(internal/reflectlite.Value).Type", "(internal/reflectlite.Value).IsNil", "internal/reflectlite.TypeOf", "(internal/reflectlite.Value).Elem", "(internal/reflectlite.Value).Set"], unfollowed := true, recurses := true, named := ["loop.example/g00767/impl.errKind", "loop.example/g00767/impl.errPhase", "loop.example/g00767/impl.errState", "loop.example/g00767/impl.errBudget", "loop.example/g00767/impl.errOften", "errors.errorType"], ifaces := true, apart := false, laid := [("errors.errorType", laid_errors_errorType), ("loop.example/g00767/impl.errKind", laid_loop_example_g00767_impl_errKind), ("loop.example/g00767/impl.errOften", laid_loop_example_g00767_impl_errOften), ("loop.example/g00767/impl.errPhase", laid_loop_example_g00767_impl_errPhase), ("loop.example/g00767/impl.errState", laid_loop_example_g00767_impl_errState), ("loop.example/g00767/impl.errBudget", laid_loop_example_g00767_impl_errBudget)], narrowed := true }
def FnExactCommandedUptoSaid : Prop := fnExactCommandedUptoRow.holds Tryz.pinned (OpenSpec.upto fnExactCommandedSpec)

/-- 'laws.FnExactPlanned', WHERE WHAT IT READS IS OF BULK AT MOST 1048576: true; the input reads as it did. -/
def fnExactPlannedUptoRow : OpenClaim := { program := "ytdphpjnecjofeaagreatdoor", sum := "a8e42ede716fa3ce46b7608c0da245162d3f7b705b662caf12eb4b7353d2780f", func := "loop.example/g00767/laws.FnExactPlanned", spec := "fnExactPlanned", inPlace := ["internal/reflectlite.ValueOf", "(internal/reflectlite.Value).Type", "(internal/reflectlite.Value).IsNil", "internal/reflectlite.TypeOf", "(internal/reflectlite.Value).Elem", "(internal/reflectlite.Value).Set"], unfollowed := true, recurses := true, named := ["loop.example/g00767/impl.errKind", "loop.example/g00767/impl.errPhase", "loop.example/g00767/impl.errState", "loop.example/g00767/impl.errBudget", "loop.example/g00767/impl.errOften", "errors.errorType"], ifaces := true, apart := false, laid := [("errors.errorType", laid_errors_errorType), ("loop.example/g00767/impl.errKind", laid_loop_example_g00767_impl_errKind), ("loop.example/g00767/impl.errOften", laid_loop_example_g00767_impl_errOften), ("loop.example/g00767/impl.errPhase", laid_loop_example_g00767_impl_errPhase), ("loop.example/g00767/impl.errState", laid_loop_example_g00767_impl_errState), ("loop.example/g00767/impl.errBudget", laid_loop_example_g00767_impl_errBudget)], narrowed := true }
def FnExactPlannedUptoSaid : Prop := fnExactPlannedUptoRow.holds Tryz.pinned (OpenSpec.upto fnExactPlannedSpec)

end Rows
end Go.Proofs.YtdphpjnecjofeaaGreatDoor
