/-
  No cell of these rows narrows 'for every input' (looked for: loops, veiled, ifaces, maps, wideKeys, modest, calm, conditions, laid).
  DERIVED. THE GIVEN ROWS OF THIS SEAT. 4 by the template 'for every input the law returns true; each argument reads behind the call as it read before'; 0 by the template 'total and deterministic' (their statements: YtbcpimnbmjhjlaaTotals.lean).
  GIVEN WITH THE SEED: the statements are not yours to turn. If you find one false, say at which input.
  Laid BY PROGRAM, IN A SANDBOX (cutbox-rows.mjs): the forced cells as the released guide's own fill.sh prints them over the translation 8f53b5c4cee011ec… (all of the seat's roots in one cut). By AI agents, Wed Nov 11 2026. No macro, syntax, notation, axiom, sorry.
-/
import Derived.Test.YtbcpimnbmjhjlaaChecked
import GoSem.Claim
import GoSem.ClaimJoined
import GoSem.ClaimMapViews
import Derived.JoinedTies
import Derived.KernelRfl
namespace Go.Proofs.Ytbcpimnbmjhjlaa
/- THE CELL 'sum', in the pinned program and in every row, IS THE sha256 OF THE DUMP (.gsa) THAT YtbcpimnbmjhjlaaProg.lean LOADS. Nothing in Lean hashes anything: it is a label: what it is worth is what the hold of that sum in a sandbox is worth. -/
noncomputable def Try.pinned : Pinned := { name := "ytbcpimnbmjhjlaa", sum := "8f53b5c4cee011ecc9423786cd292700821082ff2699fe09274e9f73ddb8aaaa", checked := Try.checked }
namespace Rows
def none {H : Type} : Left H := { results := [], args := [] }

/-- 'laws.FnExactPodStep': WHATEVER THE INPUT: true; the input reads as it did. -/
def fnExactPodStepSpec : ChangeSpec := { name := "fnExactPodStep", fn := fun _ => fun
  | [d1, d2, d3] => { results := [.lit (.bool true)], args := [d1, d2, d3] }
  | _ => none }
def fnExactPodStepRow : OpenClaim := { program := "ytbcpimnbmjhjlaa", sum := "8f53b5c4cee011ecc9423786cd292700821082ff2699fe09274e9f73ddb8aaaa", func := "loop.example/g00767/laws.FnExactPodStep", spec := "fnExactPodStep", apart := false }
def FnExactPodStepSaid : Prop := fnExactPodStepRow.holds Try.pinned (OpenSpec.ofChange fnExactPodStepSpec)

/-- ITS FALSE NEIGHBOUR: 'it returns false'. Refute it at one input. -/
def fnExactPodStepWrong : ChangeSpec := { name := "fnExactPodStep", fn := fun _ => fun
  | [d1, d2, d3] => { results := [.lit (.bool false)], args := [d1, d2, d3] }
  | _ => none }
def FnExactPodStepWrongFalsely : Prop := fnExactPodStepRow.holds Try.pinned (OpenSpec.ofChange fnExactPodStepWrong)

/-- 'laws.FnExactAfterHook': WHATEVER THE INPUT: true; the input reads as it did. -/
def fnExactAfterHookSpec : ChangeSpec := { name := "fnExactAfterHook", fn := fun _ => fun
  | [d] => { results := [.lit (.bool true)], args := [d] }
  | _ => none }
def fnExactAfterHookRow : OpenClaim := { program := "ytbcpimnbmjhjlaa", sum := "8f53b5c4cee011ecc9423786cd292700821082ff2699fe09274e9f73ddb8aaaa", func := "loop.example/g00767/laws.FnExactAfterHook", spec := "fnExactAfterHook", apart := false }
def FnExactAfterHookSaid : Prop := fnExactAfterHookRow.holds Try.pinned (OpenSpec.ofChange fnExactAfterHookSpec)

/-- ITS FALSE NEIGHBOUR: 'it returns false'. Refute it at one input. -/
def fnExactAfterHookWrong : ChangeSpec := { name := "fnExactAfterHook", fn := fun _ => fun
  | [d] => { results := [.lit (.bool false)], args := [d] }
  | _ => none }
def FnExactAfterHookWrongFalsely : Prop := fnExactAfterHookRow.holds Try.pinned (OpenSpec.ofChange fnExactAfterHookWrong)

/-- 'laws.FnExactAfterExit': WHATEVER THE INPUT: true; the input reads as it did. -/
def fnExactAfterExitSpec : ChangeSpec := { name := "fnExactAfterExit", fn := fun _ => fun
  | [d] => { results := [.lit (.bool true)], args := [d] }
  | _ => none }
def fnExactAfterExitRow : OpenClaim := { program := "ytbcpimnbmjhjlaa", sum := "8f53b5c4cee011ecc9423786cd292700821082ff2699fe09274e9f73ddb8aaaa", func := "loop.example/g00767/laws.FnExactAfterExit", spec := "fnExactAfterExit", apart := false }
def FnExactAfterExitSaid : Prop := fnExactAfterExitRow.holds Try.pinned (OpenSpec.ofChange fnExactAfterExitSpec)

/-- ITS FALSE NEIGHBOUR: 'it returns false'. Refute it at one input. -/
def fnExactAfterExitWrong : ChangeSpec := { name := "fnExactAfterExit", fn := fun _ => fun
  | [d] => { results := [.lit (.bool false)], args := [d] }
  | _ => none }
def FnExactAfterExitWrongFalsely : Prop := fnExactAfterExitRow.holds Try.pinned (OpenSpec.ofChange fnExactAfterExitWrong)

/-- 'laws.FnPods': WHATEVER THE INPUT: true; the input reads as it did. -/
def fnPodsSpec : ChangeSpec := { name := "fnPods", fn := fun _ => fun
  | [d] => { results := [.lit (.bool true)], args := [d] }
  | _ => none }
def fnPodsRow : OpenClaim := { program := "ytbcpimnbmjhjlaa", sum := "8f53b5c4cee011ecc9423786cd292700821082ff2699fe09274e9f73ddb8aaaa", func := "loop.example/g00767/laws.FnPods", spec := "fnPods", apart := false }
def FnPodsSaid : Prop := fnPodsRow.holds Try.pinned (OpenSpec.ofChange fnPodsSpec)

/-- ITS FALSE NEIGHBOUR: 'it returns false'. Refute it at one input. -/
def fnPodsWrong : ChangeSpec := { name := "fnPods", fn := fun _ => fun
  | [d] => { results := [.lit (.bool false)], args := [d] }
  | _ => none }
def FnPodsWrongFalsely : Prop := fnPodsRow.holds Try.pinned (OpenSpec.ofChange fnPodsWrong)

/- THE SECOND FORM. 'bulk': how many values and letters a reading holds, each counted each time it is reached (what is shared counts as often as it is met; a slice's spare places count too). A statement '..UptoSaid' is the law's where the arguments, and the package variables that the reading takes, are together of bulk at most 1048576: NARROWER than '..Said'. Prove '..Said' where nothing that the law and all that it calls make is longer than what came in: it says more and counts as full. Else prove '..UptoSaid'. A law counts once. -/
mutual
def uptoBulk {H : Type} : DataW H → Nat
  | .lit (.string bytes) => bytes.length + 1
  | .lit _ => 1
  | .nil => 1
  | .ptr d => uptoBulk d + 1
  | .slice elems spare => uptoBulkAll elems + uptoBulkAll spare + 1
  | .agg parts => uptoBulkAll parts + 1
  | .iface _ d => uptoBulk d + 1
  | .map entries => uptoBulkEntries entries + 1
  | .held _ => 1
def uptoBulkAll {H : Type} : List (DataW H) → Nat
  | [] => 0
  | d :: r => uptoBulk d + uptoBulkAll r
def uptoBulkEntries {H : Type} : List (Lit × DataW H) → Nat
  | [] => 0
  | x :: r => uptoBulkEntry x + uptoBulkEntries r
def uptoBulkEntry {H : Type} : Lit × DataW H → Nat
  | (.string bytes, d) => bytes.length + uptoBulk d + 1
  | (_, d) => uptoBulk d + 1
 end
def uptoSmall : (H : Type) → List (DataW H) → Bool := fun _ ds => decide (uptoBulkAll ds ≤ 1048576)
def OpenSpec.upto (s : _root_.Go.ChangeSpec) : _root_.Go.OpenSpec := { _root_.Go.OpenSpec.ofChange s with cond := some uptoSmall }

/-- 'laws.FnExactPodStep', WHERE WHAT IT READS IS OF BULK AT MOST 1048576: true; the input reads as it did. -/
def fnExactPodStepUptoRow : OpenClaim := { program := "ytbcpimnbmjhjlaa", sum := "8f53b5c4cee011ecc9423786cd292700821082ff2699fe09274e9f73ddb8aaaa", func := "loop.example/g00767/laws.FnExactPodStep", spec := "fnExactPodStep", apart := false, narrowed := true }
def FnExactPodStepUptoSaid : Prop := fnExactPodStepUptoRow.holds Try.pinned (OpenSpec.upto fnExactPodStepSpec)

/-- 'laws.FnExactAfterHook', WHERE WHAT IT READS IS OF BULK AT MOST 1048576: true; the input reads as it did. -/
def fnExactAfterHookUptoRow : OpenClaim := { program := "ytbcpimnbmjhjlaa", sum := "8f53b5c4cee011ecc9423786cd292700821082ff2699fe09274e9f73ddb8aaaa", func := "loop.example/g00767/laws.FnExactAfterHook", spec := "fnExactAfterHook", apart := false, narrowed := true }
def FnExactAfterHookUptoSaid : Prop := fnExactAfterHookUptoRow.holds Try.pinned (OpenSpec.upto fnExactAfterHookSpec)

/-- 'laws.FnExactAfterExit', WHERE WHAT IT READS IS OF BULK AT MOST 1048576: true; the input reads as it did. -/
def fnExactAfterExitUptoRow : OpenClaim := { program := "ytbcpimnbmjhjlaa", sum := "8f53b5c4cee011ecc9423786cd292700821082ff2699fe09274e9f73ddb8aaaa", func := "loop.example/g00767/laws.FnExactAfterExit", spec := "fnExactAfterExit", apart := false, narrowed := true }
def FnExactAfterExitUptoSaid : Prop := fnExactAfterExitUptoRow.holds Try.pinned (OpenSpec.upto fnExactAfterExitSpec)

/-- 'laws.FnPods', WHERE WHAT IT READS IS OF BULK AT MOST 1048576: true; the input reads as it did. -/
def fnPodsUptoRow : OpenClaim := { program := "ytbcpimnbmjhjlaa", sum := "8f53b5c4cee011ecc9423786cd292700821082ff2699fe09274e9f73ddb8aaaa", func := "loop.example/g00767/laws.FnPods", spec := "fnPods", apart := false, narrowed := true }
def FnPodsUptoSaid : Prop := fnPodsUptoRow.holds Try.pinned (OpenSpec.upto fnPodsSpec)

end Rows
end Go.Proofs.Ytbcpimnbmjhjlaa
