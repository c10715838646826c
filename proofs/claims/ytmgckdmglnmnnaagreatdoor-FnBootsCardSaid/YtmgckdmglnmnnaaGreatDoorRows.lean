/-
  NARROWER THAN 'FOR EVERY INPUT', by the rows' own cells (each row's printed sentence says how): FnBoots: laid.
  DERIVED. THE GIVEN ROWS OF THIS SEAT. 1 by the template 'for every input the law returns true; each argument reads behind the call as it read before'; 0 by the template 'total and deterministic' (their statements: YtmgckdmglnmnnaaGreatDoorTotals.lean).
  GIVEN WITH THE SEED: the statements are not yours to turn. If you find one false, say at which input.
  Laid BY PROGRAM, IN A SANDBOX (cutbox-rows.mjs): the forced cells as the released guide's own fill.sh prints them over the translation 9fcaaea6efc311ab… (all of the seat's roots in one cut). By AI agents, Wed Nov 11 2026. No macro, syntax, notation, axiom, sorry.
-/
import Derived.Test.YtmgckdmglnmnnaaGreatDoorChecked
import GoSem.Claim
import GoSem.ClaimJoined
import GoSem.ClaimMapViews
import Derived.JoinedTies
import Derived.KernelRfl
namespace Go.Proofs.YtmgckdmglnmnnaaGreatDoor
/- THE CELL 'sum', in the pinned program and in every row, IS THE sha256 OF THE DUMP (.gsa) THAT YtmgckdmglnmnnaaGreatDoorProg.lean LOADS. Nothing in Lean hashes anything: it is a label: what it is worth is what the hold of that sum in a sandbox is worth. -/
noncomputable def Tryz.pinned : Pinned := { name := "ytmgckdmglnmnnaagreatdoor", sum := "9fcaaea6efc311ab40f2a373ef3260db36c82b8e0c4a310a5bdf16e2391e0949", checked := Tryz.checked }
namespace Rows
def none {H : Type} : Left H := { results := [], args := [] }

/- WHAT THE LISTED PACKAGE-LEVEL VARIABLES READ AS WHEN THE CALL BEGINS. Each datum BY PROGRAM (the guide's laid-datum.mjs) off the statement by which the dump's own 'gosem.cut.vars' lays the variable. In a bare row this is a premise. The card (YtmgckdmglnmnnaaGreatDoorCards.lean) ties it to the program's text. -/
def laid_loop_example_g00767_impl_kindNames {H : Type} : DataW H := .agg [.lit (.string []), .lit (.string [112, 104, 97, 115, 101]), .lit (.string [112, 111, 100]), .lit (.string [98, 117, 115, 121]), .lit (.string [102, 114, 101, 101]), .lit (.string [103, 105, 118, 101]), .lit (.string [108, 111, 99, 107]), .lit (.string [117, 110, 108, 111, 99, 107]), .lit (.string [99, 108, 111, 99, 107]), .lit (.string [98, 97, 110, 100]), .lit (.string [98, 111, 111, 116]), .lit (.string [108, 111, 99, 107, 98, 121]), .lit (.string [112, 114, 111, 98, 101])]

/-- 'laws.FnBoots': WHATEVER THE INPUT: true; the input reads as it did. -/
def fnBootsSpec : ChangeSpec := { name := "fnBoots", vars := ["loop.example/g00767/impl.kindNames"], fn := fun _ => fun
  | [d, g1] => { results := [.lit (.bool true)], args := [d], vars := [g1] }
  | _ => none }
def fnBootsRow : OpenClaim := { program := "ytmgckdmglnmnnaagreatdoor", sum := "9fcaaea6efc311ab40f2a373ef3260db36c82b8e0c4a310a5bdf16e2391e0949", func := "loop.example/g00767/laws.FnBoots", spec := "fnBoots", inPlace := ["slices.overlaps[int64]"], unfollowed := true, recurses := true, named := ["loop.example/g00767/impl.kindNames"], apart := false, laid := [("loop.example/g00767/impl.kindNames", laid_loop_example_g00767_impl_kindNames)] }
def FnBootsSaid : Prop := fnBootsRow.holds Tryz.pinned (OpenSpec.ofChange fnBootsSpec)

/-- ITS FALSE NEIGHBOUR: 'it returns false'. Refute it at one input. -/
def fnBootsWrong : ChangeSpec := { name := "fnBoots", vars := ["loop.example/g00767/impl.kindNames"], fn := fun _ => fun
  | [d, g1] => { results := [.lit (.bool false)], args := [d], vars := [g1] }
  | _ => none }
def FnBootsWrongFalsely : Prop := fnBootsRow.holds Tryz.pinned (OpenSpec.ofChange fnBootsWrong)

/- THE SECOND FORM. 'bulk': how many values and letters a reading holds, each counted each time it is reached (what is shared counts as often as it is met; a slice's spare places count too). A statement '..UptoSaid' is the law's where the arguments, and the package variables that the reading takes, are together of bulk at most 1048576: NARROWER than '..Said'. Prove '..Said' where nothing that the law and all that it calls make is longer than what came in: it says more and counts as full. Else prove '..UptoSaid'. A law counts once. -/
mutual
def uptoBulk {H : Type} : DataW H → Nat
  | .lit (.string bytes) => bytes.length + 1
  | .lit _ => 1
  | .nil => 1
  | .ptr d => uptoBulk d + 1
  | .slice elems spare => uptoBulkAll elems + uptoBulkAll spare + 1
  | .agg parts => uptoBulkAll parts + 1
  | .iface _ d => uptoBulk d + 1
  | .map entries => uptoBulkEntries entries + 1
  | .held _ => 1
def uptoBulkAll {H : Type} : List (DataW H) → Nat
  | [] => 0
  | d :: r => uptoBulk d + uptoBulkAll r
def uptoBulkEntries {H : Type} : List (Lit × DataW H) → Nat
  | [] => 0
  | x :: r => uptoBulkEntry x + uptoBulkEntries r
def uptoBulkEntry {H : Type} : Lit × DataW H → Nat
  | (.string bytes, d) => bytes.length + uptoBulk d + 1
  | (_, d) => uptoBulk d + 1
 end
def uptoSmall : (H : Type) → List (DataW H) → Bool := fun _ ds => decide (uptoBulkAll ds ≤ 1048576)
def OpenSpec.upto (s : _root_.Go.ChangeSpec) : _root_.Go.OpenSpec := { _root_.Go.OpenSpec.ofChange s with cond := some uptoSmall }

/-- 'laws.FnBoots', WHERE WHAT IT READS IS OF BULK AT MOST 1048576: true; the input reads as it did. -/
def fnBootsUptoRow : OpenClaim := { program := "ytmgckdmglnmnnaagreatdoor", sum := "9fcaaea6efc311ab40f2a373ef3260db36c82b8e0c4a310a5bdf16e2391e0949", func := "loop.example/g00767/laws.FnBoots", spec := "fnBoots", inPlace := ["slices.overlaps[int64]"], unfollowed := true, recurses := true, named := ["loop.example/g00767/impl.kindNames"], apart := false, laid := [("loop.example/g00767/impl.kindNames", laid_loop_example_g00767_impl_kindNames)], narrowed := true }
def FnBootsUptoSaid : Prop := fnBootsUptoRow.holds Tryz.pinned (OpenSpec.upto fnBootsSpec)

end Rows
end Go.Proofs.YtmgckdmglnmnnaaGreatDoor
