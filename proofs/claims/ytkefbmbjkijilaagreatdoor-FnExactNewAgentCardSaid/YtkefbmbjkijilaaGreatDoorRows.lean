/-
  NARROWER THAN 'FOR EVERY INPUT', by the rows' own cells (each row's printed sentence says how): FnExactAgentOk: laid · FnExactNewAgent: laid · FnExactRecovered: laid.
  DERIVED. THE GIVEN ROWS OF THIS SEAT. 3 by the template 'for every input the law returns true; each argument reads behind the call as it read before'; 0 by the template 'total and deterministic' (their statements: YtkefbmbjkijilaaGreatDoorTotals.lean).
  GIVEN WITH THE SEED: the statements are not yours to turn. If you find one false, say at which input.
  Laid BY PROGRAM, IN A SANDBOX (cutbox-rows.mjs): the forced cells as the released guide's own fill.sh prints them over the translation 83d53cdc2d6973f8… (all of the seat's roots in one cut). By AI agents, Wed Nov 11 2026. No macro, syntax, notation, axiom, sorry.
-/
import Derived.Test.YtkefbmbjkijilaaGreatDoorChecked
import GoSem.Claim
import GoSem.ClaimJoined
import GoSem.ClaimMapViews
import Derived.JoinedTies
import Derived.KernelRfl
namespace Go.Proofs.YtkefbmbjkijilaaGreatDoor
/- THE CELL 'sum', in the pinned program and in every row, IS THE sha256 OF THE DUMP (.gsa) THAT YtkefbmbjkijilaaGreatDoorProg.lean LOADS. Nothing in Lean hashes anything: it is a label: what it is worth is what the hold of that sum in a sandbox is worth. -/
noncomputable def Tryz.pinned : Pinned := { name := "ytkefbmbjkijilaagreatdoor", sum := "83d53cdc2d6973f87668c2e1c45e89b8d5c6eece251e783017d437b0adea00b7", checked := Tryz.checked }
namespace Rows
def none {H : Type} : Left H := { results := [], args := [] }

/- WHAT THE LISTED PACKAGE-LEVEL VARIABLES READ AS WHEN THE CALL BEGINS. Each datum BY PROGRAM (the guide's laid-datum.mjs) off the statement by which the dump's own 'gosem.cut.vars' lays the variable. In a bare row this is a premise. The card (YtkefbmbjkijilaaGreatDoorCards.lean) ties it to the program's text. -/
def laid_loop_example_g00767_impl_kindNames {H : Type} : DataW H := .agg [.lit (.string []), .lit (.string [112, 104, 97, 115, 101]), .lit (.string [112, 111, 100]), .lit (.string [98, 117, 115, 121]), .lit (.string [102, 114, 101, 101]), .lit (.string [103, 105, 118, 101]), .lit (.string [108, 111, 99, 107]), .lit (.string [117, 110, 108, 111, 99, 107]), .lit (.string [99, 108, 111, 99, 107]), .lit (.string [98, 97, 110, 100]), .lit (.string [98, 111, 111, 116]), .lit (.string [108, 111, 99, 107, 98, 121]), .lit (.string [112, 114, 111, 98, 101])]

/-- 'laws.FnExactAgentOk': WHATEVER THE INPUT: true; the input reads as it did. -/
def fnExactAgentOkSpec : ChangeSpec := { name := "fnExactAgentOk", vars := ["loop.example/g00767/impl.kindNames"], fn := fun _ => fun
  | [d, g1] => { results := [.lit (.bool true)], args := [d], vars := [g1] }
  | _ => none }
def fnExactAgentOkRow : OpenClaim := { program := "ytkefbmbjkijilaagreatdoor", sum := "83d53cdc2d6973f87668c2e1c45e89b8d5c6eece251e783017d437b0adea00b7", func := "loop.example/g00767/laws.FnExactAgentOk", spec := "fnExactAgentOk", inPlace := ["slices.overlaps[int64]"], unfollowed := true, recurses := true, named := ["loop.example/g00767/impl.kindNames"], apart := false, laid := [("loop.example/g00767/impl.kindNames", laid_loop_example_g00767_impl_kindNames)] }
def FnExactAgentOkSaid : Prop := fnExactAgentOkRow.holds Tryz.pinned (OpenSpec.ofChange fnExactAgentOkSpec)

/-- ITS FALSE NEIGHBOUR: 'it returns false'. Refute it at one input. -/
def fnExactAgentOkWrong : ChangeSpec := { name := "fnExactAgentOk", vars := ["loop.example/g00767/impl.kindNames"], fn := fun _ => fun
  | [d, g1] => { results := [.lit (.bool false)], args := [d], vars := [g1] }
  | _ => none }
def FnExactAgentOkWrongFalsely : Prop := fnExactAgentOkRow.holds Tryz.pinned (OpenSpec.ofChange fnExactAgentOkWrong)

/-- 'laws.FnExactNewAgent': WHATEVER THE INPUT: true; the input reads as it did. -/
def fnExactNewAgentSpec : ChangeSpec := { name := "fnExactNewAgent", vars := ["loop.example/g00767/impl.kindNames"], fn := fun _ => fun
  | [d, g1] => { results := [.lit (.bool true)], args := [d], vars := [g1] }
  | _ => none }
def fnExactNewAgentRow : OpenClaim := { program := "ytkefbmbjkijilaagreatdoor", sum := "83d53cdc2d6973f87668c2e1c45e89b8d5c6eece251e783017d437b0adea00b7", func := "loop.example/g00767/laws.FnExactNewAgent", spec := "fnExactNewAgent", inPlace := ["slices.overlaps[int64]"], unfollowed := true, recurses := true, named := ["loop.example/g00767/impl.kindNames"], apart := false, laid := [("loop.example/g00767/impl.kindNames", laid_loop_example_g00767_impl_kindNames)] }
def FnExactNewAgentSaid : Prop := fnExactNewAgentRow.holds Tryz.pinned (OpenSpec.ofChange fnExactNewAgentSpec)

/-- ITS FALSE NEIGHBOUR: 'it returns false'. Refute it at one input. -/
def fnExactNewAgentWrong : ChangeSpec := { name := "fnExactNewAgent", vars := ["loop.example/g00767/impl.kindNames"], fn := fun _ => fun
  | [d, g1] => { results := [.lit (.bool false)], args := [d], vars := [g1] }
  | _ => none }
def FnExactNewAgentWrongFalsely : Prop := fnExactNewAgentRow.holds Tryz.pinned (OpenSpec.ofChange fnExactNewAgentWrong)

/-- 'laws.FnExactRecovered': WHATEVER THE INPUT: true; the input reads as it did. -/
def fnExactRecoveredSpec : ChangeSpec := { name := "fnExactRecovered", vars := ["loop.example/g00767/impl.kindNames"], fn := fun _ => fun
  | [d1, d2, g1] => { results := [.lit (.bool true)], args := [d1, d2], vars := [g1] }
  | _ => none }
def fnExactRecoveredRow : OpenClaim := { program := "ytkefbmbjkijilaagreatdoor", sum := "83d53cdc2d6973f87668c2e1c45e89b8d5c6eece251e783017d437b0adea00b7", func := "loop.example/g00767/laws.FnExactRecovered", spec := "fnExactRecovered", inPlace := ["slices.overlaps[int64]"], unfollowed := true, recurses := true, named := ["loop.example/g00767/impl.kindNames"], apart := false, laid := [("loop.example/g00767/impl.kindNames", laid_loop_example_g00767_impl_kindNames)] }
def FnExactRecoveredSaid : Prop := fnExactRecoveredRow.holds Tryz.pinned (OpenSpec.ofChange fnExactRecoveredSpec)

/-- ITS FALSE NEIGHBOUR: 'it returns false'. Refute it at one input. -/
def fnExactRecoveredWrong : ChangeSpec := { name := "fnExactRecovered", vars := ["loop.example/g00767/impl.kindNames"], fn := fun _ => fun
  | [d1, d2, g1] => { results := [.lit (.bool false)], args := [d1, d2], vars := [g1] }
  | _ => none }
def FnExactRecoveredWrongFalsely : Prop := fnExactRecoveredRow.holds Tryz.pinned (OpenSpec.ofChange fnExactRecoveredWrong)

/- THE SECOND FORM. 'bulk': how many values and letters a reading holds, each counted each time it is reached (what is shared counts as often as it is met; a slice's spare places count too). A statement '..UptoSaid' is the law's where the arguments, and the package variables that the reading takes, are together of bulk at most 1048576: NARROWER than '..Said'. Prove '..Said' where nothing that the law and all that it calls make is longer than what came in: it says more and counts as full. Else prove '..UptoSaid'. A law counts once. -/
mutual
def uptoBulk {H : Type} : DataW H → Nat
  | .lit (.string bytes) => bytes.length + 1
  | .lit _ => 1
  | .nil => 1
  | .ptr d => uptoBulk d + 1
  | .slice elems spare => uptoBulkAll elems + uptoBulkAll spare + 1
  | .agg parts => uptoBulkAll parts + 1
  | .iface _ d => uptoBulk d + 1
  | .map entries => uptoBulkEntries entries + 1
  | .held _ => 1
def uptoBulkAll {H : Type} : List (DataW H) → Nat
  | [] => 0
  | d :: r => uptoBulk d + uptoBulkAll r
def uptoBulkEntries {H : Type} : List (Lit × DataW H) → Nat
  | [] => 0
  | x :: r => uptoBulkEntry x + uptoBulkEntries r
def uptoBulkEntry {H : Type} : Lit × DataW H → Nat
  | (.string bytes, d) => bytes.length + uptoBulk d + 1
  | (_, d) => uptoBulk d + 1
 end
def uptoSmall : (H : Type) → List (DataW H) → Bool := fun _ ds => decide (uptoBulkAll ds ≤ 1048576)
def OpenSpec.upto (s : _root_.Go.ChangeSpec) : _root_.Go.OpenSpec := { _root_.Go.OpenSpec.ofChange s with cond := some uptoSmall }

/-- 'laws.FnExactAgentOk', WHERE WHAT IT READS IS OF BULK AT MOST 1048576: true; the input reads as it did. -/
def fnExactAgentOkUptoRow : OpenClaim := { program := "ytkefbmbjkijilaagreatdoor", sum := "83d53cdc2d6973f87668c2e1c45e89b8d5c6eece251e783017d437b0adea00b7", func := "loop.example/g00767/laws.FnExactAgentOk", spec := "fnExactAgentOk", inPlace := ["slices.overlaps[int64]"], unfollowed := true, recurses := true, named := ["loop.example/g00767/impl.kindNames"], apart := false, laid := [("loop.example/g00767/impl.kindNames", laid_loop_example_g00767_impl_kindNames)], narrowed := true }
def FnExactAgentOkUptoSaid : Prop := fnExactAgentOkUptoRow.holds Tryz.pinned (OpenSpec.upto fnExactAgentOkSpec)

/-- 'laws.FnExactNewAgent', WHERE WHAT IT READS IS OF BULK AT MOST 1048576: true; the input reads as it did. -/
def fnExactNewAgentUptoRow : OpenClaim := { program := "ytkefbmbjkijilaagreatdoor", sum := "83d53cdc2d6973f87668c2e1c45e89b8d5c6eece251e783017d437b0adea00b7", func := "loop.example/g00767/laws.FnExactNewAgent", spec := "fnExactNewAgent", inPlace := ["slices.overlaps[int64]"], unfollowed := true, recurses := true, named := ["loop.example/g00767/impl.kindNames"], apart := false, laid := [("loop.example/g00767/impl.kindNames", laid_loop_example_g00767_impl_kindNames)], narrowed := true }
def FnExactNewAgentUptoSaid : Prop := fnExactNewAgentUptoRow.holds Tryz.pinned (OpenSpec.upto fnExactNewAgentSpec)

/-- 'laws.FnExactRecovered', WHERE WHAT IT READS IS OF BULK AT MOST 1048576: true; the input reads as it did. -/
def fnExactRecoveredUptoRow : OpenClaim := { program := "ytkefbmbjkijilaagreatdoor", sum := "83d53cdc2d6973f87668c2e1c45e89b8d5c6eece251e783017d437b0adea00b7", func := "loop.example/g00767/laws.FnExactRecovered", spec := "fnExactRecovered", inPlace := ["slices.overlaps[int64]"], unfollowed := true, recurses := true, named := ["loop.example/g00767/impl.kindNames"], apart := false, laid := [("loop.example/g00767/impl.kindNames", laid_loop_example_g00767_impl_kindNames)], narrowed := true }
def FnExactRecoveredUptoSaid : Prop := fnExactRecoveredUptoRow.holds Tryz.pinned (OpenSpec.upto fnExactRecoveredSpec)

end Rows
end Go.Proofs.YtkefbmbjkijilaaGreatDoor
