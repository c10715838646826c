/-
  No cell of these rows narrows 'for every input' (looked for: loops, veiled, ifaces, maps, wideKeys, modest, calm, conditions, laid).
  DERIVED. THE GIVEN ROWS OF THIS SEAT. 2 by the template 'for every input the law returns true; each argument reads behind the call as it read before'; 0 by the template 'total and deterministic' (their statements: YtlmjjkljkmalpaaTotals.lean).
  GIVEN WITH THE SEED: the statements are not yours to turn. If you find one false, say at which input.
  Laid BY PROGRAM, IN A SANDBOX (cutbox-rows.mjs): the forced cells as the released guide's own fill.sh prints them over the translation e3e49a9ab155ff85… (all of the seat's roots in one cut). By AI agents, Wed Nov 11 2026. No macro, syntax, notation, axiom, sorry.
-/
import Derived.Test.YtlmjjkljkmalpaaChecked
import GoSem.Claim
import GoSem.ClaimJoined
import GoSem.ClaimMapViews
import Derived.JoinedTies
import Derived.KernelRfl
namespace Go.Proofs.Ytlmjjkljkmalpaa
/- THE CELL 'sum', in the pinned program and in every row, IS THE sha256 OF THE DUMP (.gsa) THAT YtlmjjkljkmalpaaProg.lean LOADS. Nothing in Lean hashes anything: it is a label: what it is worth is what the hold of that sum in a sandbox is worth. -/
noncomputable def Try.pinned : Pinned := { name := "ytlmjjkljkmalpaa", sum := "e3e49a9ab155ff85e07bc0834a7632b7a01e11999cfd885b0cb263bcd164bc31", checked := Try.checked }
namespace Rows
def none {H : Type} : Left H := { results := [], args := [] }

/-- 'laws.FnExactMayFree': WHATEVER THE INPUT: true; the input reads as it did. -/
def fnExactMayFreeSpec : ChangeSpec := { name := "fnExactMayFree", fn := fun _ => fun
  | [d1, d2, d3] => { results := [.lit (.bool true)], args := [d1, d2, d3] }
  | _ => none }
def fnExactMayFreeRow : OpenClaim := { program := "ytlmjjkljkmalpaa", sum := "e3e49a9ab155ff85e07bc0834a7632b7a01e11999cfd885b0cb263bcd164bc31", func := "loop.example/g00767/laws.FnExactMayFree", spec := "fnExactMayFree", unfollowed := true, recurses := true, apart := false }
def FnExactMayFreeSaid : Prop := fnExactMayFreeRow.holds Try.pinned (OpenSpec.ofChange fnExactMayFreeSpec)

/-- ITS FALSE NEIGHBOUR: 'it returns false'. Refute it at one input. -/
def fnExactMayFreeWrong : ChangeSpec := { name := "fnExactMayFree", fn := fun _ => fun
  | [d1, d2, d3] => { results := [.lit (.bool false)], args := [d1, d2, d3] }
  | _ => none }
def FnExactMayFreeWrongFalsely : Prop := fnExactMayFreeRow.holds Try.pinned (OpenSpec.ofChange fnExactMayFreeWrong)

/-- 'laws.FnExactMayGive': WHATEVER THE INPUT: true; the input reads as it did. -/
def fnExactMayGiveSpec : ChangeSpec := { name := "fnExactMayGive", fn := fun _ => fun
  | [d1, d2, d3] => { results := [.lit (.bool true)], args := [d1, d2, d3] }
  | _ => none }
def fnExactMayGiveRow : OpenClaim := { program := "ytlmjjkljkmalpaa", sum := "e3e49a9ab155ff85e07bc0834a7632b7a01e11999cfd885b0cb263bcd164bc31", func := "loop.example/g00767/laws.FnExactMayGive", spec := "fnExactMayGive", unfollowed := true, recurses := true, apart := false }
def FnExactMayGiveSaid : Prop := fnExactMayGiveRow.holds Try.pinned (OpenSpec.ofChange fnExactMayGiveSpec)

/-- ITS FALSE NEIGHBOUR: 'it returns false'. Refute it at one input. -/
def fnExactMayGiveWrong : ChangeSpec := { name := "fnExactMayGive", fn := fun _ => fun
  | [d1, d2, d3] => { results := [.lit (.bool false)], args := [d1, d2, d3] }
  | _ => none }
def FnExactMayGiveWrongFalsely : Prop := fnExactMayGiveRow.holds Try.pinned (OpenSpec.ofChange fnExactMayGiveWrong)

/- THE SECOND FORM. 'bulk': how many values and letters a reading holds, each counted each time it is reached (what is shared counts as often as it is met; a slice's spare places count too). A statement '..UptoSaid' is the law's where the arguments, and the package variables that the reading takes, are together of bulk at most 1048576: NARROWER than '..Said'. Prove '..Said' where nothing that the law and all that it calls make is longer than what came in: it says more and counts as full. Else prove '..UptoSaid'. A law counts once. -/
mutual
def uptoBulk {H : Type} : DataW H → Nat
  | .lit (.string bytes) => bytes.length + 1
  | .lit _ => 1
  | .nil => 1
  | .ptr d => uptoBulk d + 1
  | .slice elems spare => uptoBulkAll elems + uptoBulkAll spare + 1
  | .agg parts => uptoBulkAll parts + 1
  | .iface _ d => uptoBulk d + 1
  | .map entries => uptoBulkEntries entries + 1
  | .held _ => 1
def uptoBulkAll {H : Type} : List (DataW H) → Nat
  | [] => 0
  | d :: r => uptoBulk d + uptoBulkAll r
def uptoBulkEntries {H : Type} : List (Lit × DataW H) → Nat
  | [] => 0
  | x :: r => uptoBulkEntry x + uptoBulkEntries r
def uptoBulkEntry {H : Type} : Lit × DataW H → Nat
  | (.string bytes, d) => bytes.length + uptoBulk d + 1
  | (_, d) => uptoBulk d + 1
 end
def uptoSmall : (H : Type) → List (DataW H) → Bool := fun _ ds => decide (uptoBulkAll ds ≤ 1048576)
def OpenSpec.upto (s : _root_.Go.ChangeSpec) : _root_.Go.OpenSpec := { _root_.Go.OpenSpec.ofChange s with cond := some uptoSmall }

/-- 'laws.FnExactMayFree', WHERE WHAT IT READS IS OF BULK AT MOST 1048576: true; the input reads as it did. -/
def fnExactMayFreeUptoRow : OpenClaim := { program := "ytlmjjkljkmalpaa", sum := "e3e49a9ab155ff85e07bc0834a7632b7a01e11999cfd885b0cb263bcd164bc31", func := "loop.example/g00767/laws.FnExactMayFree", spec := "fnExactMayFree", unfollowed := true, recurses := true, apart := false, narrowed := true }
def FnExactMayFreeUptoSaid : Prop := fnExactMayFreeUptoRow.holds Try.pinned (OpenSpec.upto fnExactMayFreeSpec)

/-- 'laws.FnExactMayGive', WHERE WHAT IT READS IS OF BULK AT MOST 1048576: true; the input reads as it did. -/
def fnExactMayGiveUptoRow : OpenClaim := { program := "ytlmjjkljkmalpaa", sum := "e3e49a9ab155ff85e07bc0834a7632b7a01e11999cfd885b0cb263bcd164bc31", func := "loop.example/g00767/laws.FnExactMayGive", spec := "fnExactMayGive", unfollowed := true, recurses := true, apart := false, narrowed := true }
def FnExactMayGiveUptoSaid : Prop := fnExactMayGiveUptoRow.holds Try.pinned (OpenSpec.upto fnExactMayGiveSpec)

end Rows
end Go.Proofs.Ytlmjjkljkmalpaa
