/-
  No cell of these rows narrows 'for every input' (looked for: loops, veiled, ifaces, maps, wideKeys, modest, calm, conditions, laid).
  DERIVED. THE GIVEN ROWS OF THIS SEAT. 9 by the template 'for every input the law returns true; each argument reads behind the call as it read before'; 0 by the template 'total and deterministic' (their statements: YtdphpjnecjofeaaTotals.lean).
  GIVEN WITH THE SEED: the statements are not yours to turn. If you find one false, say at which input.
  Laid BY PROGRAM, IN A SANDBOX (cutbox-rows.mjs): the forced cells as the released guide's own fill.sh prints them over the translation a0c62be836e1b5c2… (all of the seat's roots in one cut). By AI agents, Wed Nov 11 2026. No macro, syntax, notation, axiom, sorry.
-/
import Derived.Test.YtdphpjnecjofeaaChecked
import GoSem.Claim
import GoSem.ClaimJoined
import GoSem.ClaimMapViews
import Derived.JoinedTies
import Derived.KernelRfl
namespace Go.Proofs.Ytdphpjnecjofeaa
/- THE CELL 'sum', in the pinned program and in every row, IS THE sha256 OF THE DUMP (.gsa) THAT YtdphpjnecjofeaaProg.lean LOADS. Nothing in Lean hashes anything: it is a label: what it is worth is what the hold of that sum in a sandbox is worth. -/
noncomputable def Try.pinned : Pinned := { name := "ytdphpjnecjofeaa", sum := "a0c62be836e1b5c2394f36898c119040f7b9c4d14e434d973cac3fa6eb712df6", checked := Try.checked }
namespace Rows
def none {H : Type} : Left H := { results := [], args := [] }

/-- 'laws.FnExactSnapOf': WHATEVER THE INPUT: true; the input reads as it did. -/
def fnExactSnapOfSpec : ChangeSpec := { name := "fnExactSnapOf", fn := fun _ => fun
  | [d1, d2] => { results := [.lit (.bool true)], args := [d1, d2] }
  | _ => none }
def fnExactSnapOfRow : OpenClaim := { program := "ytdphpjnecjofeaa", sum := "a0c62be836e1b5c2394f36898c119040f7b9c4d14e434d973cac3fa6eb712df6", func := "loop.example/g00767/laws.FnExactSnapOf", spec := "fnExactSnapOf", unfollowed := true, recurses := true, apart := false }
def FnExactSnapOfSaid : Prop := fnExactSnapOfRow.holds Try.pinned (OpenSpec.ofChange fnExactSnapOfSpec)

/-- ITS FALSE NEIGHBOUR: 'it returns false'. Refute it at one input. -/
def fnExactSnapOfWrong : ChangeSpec := { name := "fnExactSnapOf", fn := fun _ => fun
  | [d1, d2] => { results := [.lit (.bool false)], args := [d1, d2] }
  | _ => none }
def FnExactSnapOfWrongFalsely : Prop := fnExactSnapOfRow.holds Try.pinned (OpenSpec.ofChange fnExactSnapOfWrong)

/-- 'laws.FnExactSameState': WHATEVER THE INPUT: true; the input reads as it did. -/
def fnExactSameStateSpec : ChangeSpec := { name := "fnExactSameState", fn := fun _ => fun
  | [d1, d2] => { results := [.lit (.bool true)], args := [d1, d2] }
  | _ => none }
def fnExactSameStateRow : OpenClaim := { program := "ytdphpjnecjofeaa", sum := "a0c62be836e1b5c2394f36898c119040f7b9c4d14e434d973cac3fa6eb712df6", func := "loop.example/g00767/laws.FnExactSameState", spec := "fnExactSameState", apart := false }
def FnExactSameStateSaid : Prop := fnExactSameStateRow.holds Try.pinned (OpenSpec.ofChange fnExactSameStateSpec)

/-- ITS FALSE NEIGHBOUR: 'it returns false'. Refute it at one input. -/
def fnExactSameStateWrong : ChangeSpec := { name := "fnExactSameState", fn := fun _ => fun
  | [d1, d2] => { results := [.lit (.bool false)], args := [d1, d2] }
  | _ => none }
def FnExactSameStateWrongFalsely : Prop := fnExactSameStateRow.holds Try.pinned (OpenSpec.ofChange fnExactSameStateWrong)

/-- 'laws.FnExactStateOk': WHATEVER THE INPUT: true; the input reads as it did. -/
def fnExactStateOkSpec : ChangeSpec := { name := "fnExactStateOk", fn := fun _ => fun
  | [d1, d2] => { results := [.lit (.bool true)], args := [d1, d2] }
  | _ => none }
def fnExactStateOkRow : OpenClaim := { program := "ytdphpjnecjofeaa", sum := "a0c62be836e1b5c2394f36898c119040f7b9c4d14e434d973cac3fa6eb712df6", func := "loop.example/g00767/laws.FnExactStateOk", spec := "fnExactStateOk", unfollowed := true, recurses := true, apart := false }
def FnExactStateOkSaid : Prop := fnExactStateOkRow.holds Try.pinned (OpenSpec.ofChange fnExactStateOkSpec)

/-- ITS FALSE NEIGHBOUR: 'it returns false'. Refute it at one input. -/
def fnExactStateOkWrong : ChangeSpec := { name := "fnExactStateOk", fn := fun _ => fun
  | [d1, d2] => { results := [.lit (.bool false)], args := [d1, d2] }
  | _ => none }
def FnExactStateOkWrongFalsely : Prop := fnExactStateOkRow.holds Try.pinned (OpenSpec.ofChange fnExactStateOkWrong)

/-- 'laws.FnExactHealthyIn': WHATEVER THE INPUT: true; the input reads as it did. -/
def fnExactHealthyInSpec : ChangeSpec := { name := "fnExactHealthyIn", fn := fun _ => fun
  | [d1, d2, d3] => { results := [.lit (.bool true)], args := [d1, d2, d3] }
  | _ => none }
def fnExactHealthyInRow : OpenClaim := { program := "ytdphpjnecjofeaa", sum := "a0c62be836e1b5c2394f36898c119040f7b9c4d14e434d973cac3fa6eb712df6", func := "loop.example/g00767/laws.FnExactHealthyIn", spec := "fnExactHealthyIn", unfollowed := true, recurses := true, apart := false }
def FnExactHealthyInSaid : Prop := fnExactHealthyInRow.holds Try.pinned (OpenSpec.ofChange fnExactHealthyInSpec)

/-- ITS FALSE NEIGHBOUR: 'it returns false'. Refute it at one input. -/
def fnExactHealthyInWrong : ChangeSpec := { name := "fnExactHealthyIn", fn := fun _ => fun
  | [d1, d2, d3] => { results := [.lit (.bool false)], args := [d1, d2, d3] }
  | _ => none }
def FnExactHealthyInWrongFalsely : Prop := fnExactHealthyInRow.holds Try.pinned (OpenSpec.ofChange fnExactHealthyInWrong)

/-- 'laws.FnExactMayEvict': WHATEVER THE INPUT: true; the input reads as it did. -/
def fnExactMayEvictSpec : ChangeSpec := { name := "fnExactMayEvict", fn := fun _ => fun
  | [d1, d2, d3] => { results := [.lit (.bool true)], args := [d1, d2, d3] }
  | _ => none }
def fnExactMayEvictRow : OpenClaim := { program := "ytdphpjnecjofeaa", sum := "a0c62be836e1b5c2394f36898c119040f7b9c4d14e434d973cac3fa6eb712df6", func := "loop.example/g00767/laws.FnExactMayEvict", spec := "fnExactMayEvict", unfollowed := true, recurses := true, apart := false }
def FnExactMayEvictSaid : Prop := fnExactMayEvictRow.holds Try.pinned (OpenSpec.ofChange fnExactMayEvictSpec)

/-- ITS FALSE NEIGHBOUR: 'it returns false'. Refute it at one input. -/
def fnExactMayEvictWrong : ChangeSpec := { name := "fnExactMayEvict", fn := fun _ => fun
  | [d1, d2, d3] => { results := [.lit (.bool false)], args := [d1, d2, d3] }
  | _ => none }
def FnExactMayEvictWrongFalsely : Prop := fnExactMayEvictRow.holds Try.pinned (OpenSpec.ofChange fnExactMayEvictWrong)

/-- 'laws.FnExactMayFree': WHATEVER THE INPUT: true; the input reads as it did. -/
def fnExactMayFreeSpec : ChangeSpec := { name := "fnExactMayFree", fn := fun _ => fun
  | [d1, d2, d3] => { results := [.lit (.bool true)], args := [d1, d2, d3] }
  | _ => none }
def fnExactMayFreeRow : OpenClaim := { program := "ytdphpjnecjofeaa", sum := "a0c62be836e1b5c2394f36898c119040f7b9c4d14e434d973cac3fa6eb712df6", func := "loop.example/g00767/laws.FnExactMayFree", spec := "fnExactMayFree", unfollowed := true, recurses := true, apart := false }
def FnExactMayFreeSaid : Prop := fnExactMayFreeRow.holds Try.pinned (OpenSpec.ofChange fnExactMayFreeSpec)

/-- ITS FALSE NEIGHBOUR: 'it returns false'. Refute it at one input. -/
def fnExactMayFreeWrong : ChangeSpec := { name := "fnExactMayFree", fn := fun _ => fun
  | [d1, d2, d3] => { results := [.lit (.bool false)], args := [d1, d2, d3] }
  | _ => none }
def FnExactMayFreeWrongFalsely : Prop := fnExactMayFreeRow.holds Try.pinned (OpenSpec.ofChange fnExactMayFreeWrong)

/-- 'laws.FnExactMayGive': WHATEVER THE INPUT: true; the input reads as it did. -/
def fnExactMayGiveSpec : ChangeSpec := { name := "fnExactMayGive", fn := fun _ => fun
  | [d1, d2, d3] => { results := [.lit (.bool true)], args := [d1, d2, d3] }
  | _ => none }
def fnExactMayGiveRow : OpenClaim := { program := "ytdphpjnecjofeaa", sum := "a0c62be836e1b5c2394f36898c119040f7b9c4d14e434d973cac3fa6eb712df6", func := "loop.example/g00767/laws.FnExactMayGive", spec := "fnExactMayGive", unfollowed := true, recurses := true, apart := false }
def FnExactMayGiveSaid : Prop := fnExactMayGiveRow.holds Try.pinned (OpenSpec.ofChange fnExactMayGiveSpec)

/-- ITS FALSE NEIGHBOUR: 'it returns false'. Refute it at one input. -/
def fnExactMayGiveWrong : ChangeSpec := { name := "fnExactMayGive", fn := fun _ => fun
  | [d1, d2, d3] => { results := [.lit (.bool false)], args := [d1, d2, d3] }
  | _ => none }
def FnExactMayGiveWrongFalsely : Prop := fnExactMayGiveRow.holds Try.pinned (OpenSpec.ofChange fnExactMayGiveWrong)

/-- 'laws.FnExactBootRecs': WHATEVER THE INPUT: true; the input reads as it did. -/
def fnExactBootRecsSpec : ChangeSpec := { name := "fnExactBootRecs", fn := fun _ => fun
  | [d1, d2, d3] => { results := [.lit (.bool true)], args := [d1, d2, d3] }
  | _ => none }
def fnExactBootRecsRow : OpenClaim := { program := "ytdphpjnecjofeaa", sum := "a0c62be836e1b5c2394f36898c119040f7b9c4d14e434d973cac3fa6eb712df6", func := "loop.example/g00767/laws.FnExactBootRecs", spec := "fnExactBootRecs", unfollowed := true, recurses := true, apart := false }
def FnExactBootRecsSaid : Prop := fnExactBootRecsRow.holds Try.pinned (OpenSpec.ofChange fnExactBootRecsSpec)

/-- ITS FALSE NEIGHBOUR: 'it returns false'. Refute it at one input. -/
def fnExactBootRecsWrong : ChangeSpec := { name := "fnExactBootRecs", fn := fun _ => fun
  | [d1, d2, d3] => { results := [.lit (.bool false)], args := [d1, d2, d3] }
  | _ => none }
def FnExactBootRecsWrongFalsely : Prop := fnExactBootRecsRow.holds Try.pinned (OpenSpec.ofChange fnExactBootRecsWrong)

/-- 'laws.FnExactProbeRecs': WHATEVER THE INPUT: true; the input reads as it did. -/
def fnExactProbeRecsSpec : ChangeSpec := { name := "fnExactProbeRecs", fn := fun _ => fun
  | [d1, d2, d3] => { results := [.lit (.bool true)], args := [d1, d2, d3] }
  | _ => none }
def fnExactProbeRecsRow : OpenClaim := { program := "ytdphpjnecjofeaa", sum := "a0c62be836e1b5c2394f36898c119040f7b9c4d14e434d973cac3fa6eb712df6", func := "loop.example/g00767/laws.FnExactProbeRecs", spec := "fnExactProbeRecs", unfollowed := true, recurses := true, apart := false }
def FnExactProbeRecsSaid : Prop := fnExactProbeRecsRow.holds Try.pinned (OpenSpec.ofChange fnExactProbeRecsSpec)

/-- ITS FALSE NEIGHBOUR: 'it returns false'. Refute it at one input. -/
def fnExactProbeRecsWrong : ChangeSpec := { name := "fnExactProbeRecs", fn := fun _ => fun
  | [d1, d2, d3] => { results := [.lit (.bool false)], args := [d1, d2, d3] }
  | _ => none }
def FnExactProbeRecsWrongFalsely : Prop := fnExactProbeRecsRow.holds Try.pinned (OpenSpec.ofChange fnExactProbeRecsWrong)

/- THE SECOND FORM. 'bulk': how many values and letters a reading holds, each counted each time it is reached (what is shared counts as often as it is met; a slice's spare places count too). A statement '..UptoSaid' is the law's where the arguments, and the package variables that the reading takes, are together of bulk at most 1048576: NARROWER than '..Said'. Prove '..Said' where nothing that the law and all that it calls make is longer than what came in: it says more and counts as full. Else prove '..UptoSaid'. A law counts once. -/
mutual
def uptoBulk {H : Type} : DataW H → Nat
  | .lit (.string bytes) => bytes.length + 1
  | .lit _ => 1
  | .nil => 1
  | .ptr d => uptoBulk d + 1
  | .slice elems spare => uptoBulkAll elems + uptoBulkAll spare + 1
  | .agg parts => uptoBulkAll parts + 1
  | .iface _ d => uptoBulk d + 1
  | .map entries => uptoBulkEntries entries + 1
  | .held _ => 1
def uptoBulkAll {H : Type} : List (DataW H) → Nat
  | [] => 0
  | d :: r => uptoBulk d + uptoBulkAll r
def uptoBulkEntries {H : Type} : List (Lit × DataW H) → Nat
  | [] => 0
  | x :: r => uptoBulkEntry x + uptoBulkEntries r
def uptoBulkEntry {H : Type} : Lit × DataW H → Nat
  | (.string bytes, d) => bytes.length + uptoBulk d + 1
  | (_, d) => uptoBulk d + 1
 end
def uptoSmall : (H : Type) → List (DataW H) → Bool := fun _ ds => decide (uptoBulkAll ds ≤ 1048576)
def OpenSpec.upto (s : _root_.Go.ChangeSpec) : _root_.Go.OpenSpec := { _root_.Go.OpenSpec.ofChange s with cond := some uptoSmall }

/-- 'laws.FnExactSnapOf', WHERE WHAT IT READS IS OF BULK AT MOST 1048576: true; the input reads as it did. -/
def fnExactSnapOfUptoRow : OpenClaim := { program := "ytdphpjnecjofeaa", sum := "a0c62be836e1b5c2394f36898c119040f7b9c4d14e434d973cac3fa6eb712df6", func := "loop.example/g00767/laws.FnExactSnapOf", spec := "fnExactSnapOf", unfollowed := true, recurses := true, apart := false, narrowed := true }
def FnExactSnapOfUptoSaid : Prop := fnExactSnapOfUptoRow.holds Try.pinned (OpenSpec.upto fnExactSnapOfSpec)

/-- 'laws.FnExactSameState', WHERE WHAT IT READS IS OF BULK AT MOST 1048576: true; the input reads as it did. -/
def fnExactSameStateUptoRow : OpenClaim := { program := "ytdphpjnecjofeaa", sum := "a0c62be836e1b5c2394f36898c119040f7b9c4d14e434d973cac3fa6eb712df6", func := "loop.example/g00767/laws.FnExactSameState", spec := "fnExactSameState", apart := false, narrowed := true }
def FnExactSameStateUptoSaid : Prop := fnExactSameStateUptoRow.holds Try.pinned (OpenSpec.upto fnExactSameStateSpec)

/-- 'laws.FnExactStateOk', WHERE WHAT IT READS IS OF BULK AT MOST 1048576: true; the input reads as it did. -/
def fnExactStateOkUptoRow : OpenClaim := { program := "ytdphpjnecjofeaa", sum := "a0c62be836e1b5c2394f36898c119040f7b9c4d14e434d973cac3fa6eb712df6", func := "loop.example/g00767/laws.FnExactStateOk", spec := "fnExactStateOk", unfollowed := true, recurses := true, apart := false, narrowed := true }
def FnExactStateOkUptoSaid : Prop := fnExactStateOkUptoRow.holds Try.pinned (OpenSpec.upto fnExactStateOkSpec)

/-- 'laws.FnExactHealthyIn', WHERE WHAT IT READS IS OF BULK AT MOST 1048576: true; the input reads as it did. -/
def fnExactHealthyInUptoRow : OpenClaim := { program := "ytdphpjnecjofeaa", sum := "a0c62be836e1b5c2394f36898c119040f7b9c4d14e434d973cac3fa6eb712df6", func := "loop.example/g00767/laws.FnExactHealthyIn", spec := "fnExactHealthyIn", unfollowed := true, recurses := true, apart := false, narrowed := true }
def FnExactHealthyInUptoSaid : Prop := fnExactHealthyInUptoRow.holds Try.pinned (OpenSpec.upto fnExactHealthyInSpec)

/-- 'laws.FnExactMayEvict', WHERE WHAT IT READS IS OF BULK AT MOST 1048576: true; the input reads as it did. -/
def fnExactMayEvictUptoRow : OpenClaim := { program := "ytdphpjnecjofeaa", sum := "a0c62be836e1b5c2394f36898c119040f7b9c4d14e434d973cac3fa6eb712df6", func := "loop.example/g00767/laws.FnExactMayEvict", spec := "fnExactMayEvict", unfollowed := true, recurses := true, apart := false, narrowed := true }
def FnExactMayEvictUptoSaid : Prop := fnExactMayEvictUptoRow.holds Try.pinned (OpenSpec.upto fnExactMayEvictSpec)

/-- 'laws.FnExactMayFree', WHERE WHAT IT READS IS OF BULK AT MOST 1048576: true; the input reads as it did. -/
def fnExactMayFreeUptoRow : OpenClaim := { program := "ytdphpjnecjofeaa", sum := "a0c62be836e1b5c2394f36898c119040f7b9c4d14e434d973cac3fa6eb712df6", func := "loop.example/g00767/laws.FnExactMayFree", spec := "fnExactMayFree", unfollowed := true, recurses := true, apart := false, narrowed := true }
def FnExactMayFreeUptoSaid : Prop := fnExactMayFreeUptoRow.holds Try.pinned (OpenSpec.upto fnExactMayFreeSpec)

/-- 'laws.FnExactMayGive', WHERE WHAT IT READS IS OF BULK AT MOST 1048576: true; the input reads as it did. -/
def fnExactMayGiveUptoRow : OpenClaim := { program := "ytdphpjnecjofeaa", sum := "a0c62be836e1b5c2394f36898c119040f7b9c4d14e434d973cac3fa6eb712df6", func := "loop.example/g00767/laws.FnExactMayGive", spec := "fnExactMayGive", unfollowed := true, recurses := true, apart := false, narrowed := true }
def FnExactMayGiveUptoSaid : Prop := fnExactMayGiveUptoRow.holds Try.pinned (OpenSpec.upto fnExactMayGiveSpec)

/-- 'laws.FnExactBootRecs', WHERE WHAT IT READS IS OF BULK AT MOST 1048576: true; the input reads as it did. -/
def fnExactBootRecsUptoRow : OpenClaim := { program := "ytdphpjnecjofeaa", sum := "a0c62be836e1b5c2394f36898c119040f7b9c4d14e434d973cac3fa6eb712df6", func := "loop.example/g00767/laws.FnExactBootRecs", spec := "fnExactBootRecs", unfollowed := true, recurses := true, apart := false, narrowed := true }
def FnExactBootRecsUptoSaid : Prop := fnExactBootRecsUptoRow.holds Try.pinned (OpenSpec.upto fnExactBootRecsSpec)

/-- 'laws.FnExactProbeRecs', WHERE WHAT IT READS IS OF BULK AT MOST 1048576: true; the input reads as it did. -/
def fnExactProbeRecsUptoRow : OpenClaim := { program := "ytdphpjnecjofeaa", sum := "a0c62be836e1b5c2394f36898c119040f7b9c4d14e434d973cac3fa6eb712df6", func := "loop.example/g00767/laws.FnExactProbeRecs", spec := "fnExactProbeRecs", unfollowed := true, recurses := true, apart := false, narrowed := true }
def FnExactProbeRecsUptoSaid : Prop := fnExactProbeRecsUptoRow.holds Try.pinned (OpenSpec.upto fnExactProbeRecsSpec)

end Rows
end Go.Proofs.Ytdphpjnecjofeaa
