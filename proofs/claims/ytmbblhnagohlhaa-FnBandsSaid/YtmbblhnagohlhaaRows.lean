/-
  No cell of these rows narrows 'for every input' (looked for: loops, veiled, ifaces, maps, wideKeys, modest, calm, conditions, laid).
  DERIVED. THE GIVEN ROWS OF THIS SEAT. 6 by the template 'for every input the law returns true; each argument reads behind the call as it read before'; 0 by the template 'total and deterministic' (their statements: YtmbblhnagohlhaaTotals.lean).
  GIVEN WITH THE SEED: the statements are not yours to turn. If you find one false, say at which input.
  Laid BY PROGRAM, IN A SANDBOX (cutbox-rows.mjs): the forced cells as the released guide's own fill.sh prints them over the translation 06a864367eb567fc… (all of the seat's roots in one cut). By AI agents, Wed Nov 11 2026. No macro, syntax, notation, axiom, sorry.
-/
import Derived.Test.YtmbblhnagohlhaaChecked
import GoSem.Claim
import GoSem.ClaimJoined
import GoSem.ClaimMapViews
import Derived.JoinedTies
import Derived.KernelRfl
namespace Go.Proofs.Ytmbblhnagohlhaa
/- THE CELL 'sum', in the pinned program and in every row, IS THE sha256 OF THE DUMP (.gsa) THAT YtmbblhnagohlhaaProg.lean LOADS. Nothing in Lean hashes anything: it is a label: what it is worth is what the hold of that sum in a sandbox is worth. -/
noncomputable def Try.pinned : Pinned := { name := "ytmbblhnagohlhaa", sum := "06a864367eb567fc1a619e9368406e62c6eac052e2494b00ebc6c1c0b7b5ed30", checked := Try.checked }
namespace Rows
def none {H : Type} : Left H := { results := [], args := [] }

/-- 'laws.FnBands': WHATEVER THE INPUT: true; the input reads as it did. -/
def fnBandsSpec : ChangeSpec := { name := "fnBands", fn := fun _ => fun
  | [d] => { results := [.lit (.bool true)], args := [d] }
  | _ => none }
def fnBandsRow : OpenClaim := { program := "ytmbblhnagohlhaa", sum := "06a864367eb567fc1a619e9368406e62c6eac052e2494b00ebc6c1c0b7b5ed30", func := "loop.example/g00767/laws.FnBands", spec := "fnBands", unfollowed := true, recurses := true, apart := false }
def FnBandsSaid : Prop := fnBandsRow.holds Try.pinned (OpenSpec.ofChange fnBandsSpec)

/-- ITS FALSE NEIGHBOUR: 'it returns false'. Refute it at one input. -/
def fnBandsWrong : ChangeSpec := { name := "fnBands", fn := fun _ => fun
  | [d] => { results := [.lit (.bool false)], args := [d] }
  | _ => none }
def FnBandsWrongFalsely : Prop := fnBandsRow.holds Try.pinned (OpenSpec.ofChange fnBandsWrong)

/-- 'laws.FnExactBandsOf': WHATEVER THE INPUT: true; the input reads as it did. -/
def fnExactBandsOfSpec : ChangeSpec := { name := "fnExactBandsOf", fn := fun _ => fun
  | [d] => { results := [.lit (.bool true)], args := [d] }
  | _ => none }
def fnExactBandsOfRow : OpenClaim := { program := "ytmbblhnagohlhaa", sum := "06a864367eb567fc1a619e9368406e62c6eac052e2494b00ebc6c1c0b7b5ed30", func := "loop.example/g00767/laws.FnExactBandsOf", spec := "fnExactBandsOf", unfollowed := true, recurses := true, apart := false }
def FnExactBandsOfSaid : Prop := fnExactBandsOfRow.holds Try.pinned (OpenSpec.ofChange fnExactBandsOfSpec)

/-- ITS FALSE NEIGHBOUR: 'it returns false'. Refute it at one input. -/
def fnExactBandsOfWrong : ChangeSpec := { name := "fnExactBandsOf", fn := fun _ => fun
  | [d] => { results := [.lit (.bool false)], args := [d] }
  | _ => none }
def FnExactBandsOfWrongFalsely : Prop := fnExactBandsOfRow.holds Try.pinned (OpenSpec.ofChange fnExactBandsOfWrong)

/-- 'laws.FnExactNextBand': WHATEVER THE INPUT: true; the input reads as it did. -/
def fnExactNextBandSpec : ChangeSpec := { name := "fnExactNextBand", fn := fun _ => fun
  | [d1, d2] => { results := [.lit (.bool true)], args := [d1, d2] }
  | _ => none }
def fnExactNextBandRow : OpenClaim := { program := "ytmbblhnagohlhaa", sum := "06a864367eb567fc1a619e9368406e62c6eac052e2494b00ebc6c1c0b7b5ed30", func := "loop.example/g00767/laws.FnExactNextBand", spec := "fnExactNextBand", unfollowed := true, recurses := true, apart := false }
def FnExactNextBandSaid : Prop := fnExactNextBandRow.holds Try.pinned (OpenSpec.ofChange fnExactNextBandSpec)

/-- ITS FALSE NEIGHBOUR: 'it returns false'. Refute it at one input. -/
def fnExactNextBandWrong : ChangeSpec := { name := "fnExactNextBand", fn := fun _ => fun
  | [d1, d2] => { results := [.lit (.bool false)], args := [d1, d2] }
  | _ => none }
def FnExactNextBandWrongFalsely : Prop := fnExactNextBandRow.holds Try.pinned (OpenSpec.ofChange fnExactNextBandWrong)

/-- 'laws.FnExactPodsOf': WHATEVER THE INPUT: true; the input reads as it did. -/
def fnExactPodsOfSpec : ChangeSpec := { name := "fnExactPodsOf", fn := fun _ => fun
  | [d1, d2] => { results := [.lit (.bool true)], args := [d1, d2] }
  | _ => none }
def fnExactPodsOfRow : OpenClaim := { program := "ytmbblhnagohlhaa", sum := "06a864367eb567fc1a619e9368406e62c6eac052e2494b00ebc6c1c0b7b5ed30", func := "loop.example/g00767/laws.FnExactPodsOf", spec := "fnExactPodsOf", unfollowed := true, recurses := true, apart := false }
def FnExactPodsOfSaid : Prop := fnExactPodsOfRow.holds Try.pinned (OpenSpec.ofChange fnExactPodsOfSpec)

/-- ITS FALSE NEIGHBOUR: 'it returns false'. Refute it at one input. -/
def fnExactPodsOfWrong : ChangeSpec := { name := "fnExactPodsOf", fn := fun _ => fun
  | [d1, d2] => { results := [.lit (.bool false)], args := [d1, d2] }
  | _ => none }
def FnExactPodsOfWrongFalsely : Prop := fnExactPodsOfRow.holds Try.pinned (OpenSpec.ofChange fnExactPodsOfWrong)

/-- 'laws.FnExactBandTime': WHATEVER THE INPUT: true; the input reads as it did. -/
def fnExactBandTimeSpec : ChangeSpec := { name := "fnExactBandTime", fn := fun _ => fun
  | [d1, d2] => { results := [.lit (.bool true)], args := [d1, d2] }
  | _ => none }
def fnExactBandTimeRow : OpenClaim := { program := "ytmbblhnagohlhaa", sum := "06a864367eb567fc1a619e9368406e62c6eac052e2494b00ebc6c1c0b7b5ed30", func := "loop.example/g00767/laws.FnExactBandTime", spec := "fnExactBandTime", unfollowed := true, recurses := true, apart := false }
def FnExactBandTimeSaid : Prop := fnExactBandTimeRow.holds Try.pinned (OpenSpec.ofChange fnExactBandTimeSpec)

/-- ITS FALSE NEIGHBOUR: 'it returns false'. Refute it at one input. -/
def fnExactBandTimeWrong : ChangeSpec := { name := "fnExactBandTime", fn := fun _ => fun
  | [d1, d2] => { results := [.lit (.bool false)], args := [d1, d2] }
  | _ => none }
def FnExactBandTimeWrongFalsely : Prop := fnExactBandTimeRow.holds Try.pinned (OpenSpec.ofChange fnExactBandTimeWrong)

/-- 'laws.FnExactWholeTime': WHATEVER THE INPUT: true; the input reads as it did. -/
def fnExactWholeTimeSpec : ChangeSpec := { name := "fnExactWholeTime", fn := fun _ => fun
  | [d] => { results := [.lit (.bool true)], args := [d] }
  | _ => none }
def fnExactWholeTimeRow : OpenClaim := { program := "ytmbblhnagohlhaa", sum := "06a864367eb567fc1a619e9368406e62c6eac052e2494b00ebc6c1c0b7b5ed30", func := "loop.example/g00767/laws.FnExactWholeTime", spec := "fnExactWholeTime", unfollowed := true, recurses := true, apart := false }
def FnExactWholeTimeSaid : Prop := fnExactWholeTimeRow.holds Try.pinned (OpenSpec.ofChange fnExactWholeTimeSpec)

/-- ITS FALSE NEIGHBOUR: 'it returns false'. Refute it at one input. -/
def fnExactWholeTimeWrong : ChangeSpec := { name := "fnExactWholeTime", fn := fun _ => fun
  | [d] => { results := [.lit (.bool false)], args := [d] }
  | _ => none }
def FnExactWholeTimeWrongFalsely : Prop := fnExactWholeTimeRow.holds Try.pinned (OpenSpec.ofChange fnExactWholeTimeWrong)

/- THE SECOND FORM. 'bulk': how many values and letters a reading holds, each counted each time it is reached (what is shared counts as often as it is met; a slice's spare places count too). A statement '..UptoSaid' is the law's where the arguments, and the package variables that the reading takes, are together of bulk at most 1048576: NARROWER than '..Said'. Prove '..Said' where nothing that the law and all that it calls make is longer than what came in: it says more and counts as full. Else prove '..UptoSaid'. A law counts once. -/
mutual
def uptoBulk {H : Type} : DataW H → Nat
  | .lit (.string bytes) => bytes.length + 1
  | .lit _ => 1
  | .nil => 1
  | .ptr d => uptoBulk d + 1
  | .slice elems spare => uptoBulkAll elems + uptoBulkAll spare + 1
  | .agg parts => uptoBulkAll parts + 1
  | .iface _ d => uptoBulk d + 1
  | .map entries => uptoBulkEntries entries + 1
  | .held _ => 1
def uptoBulkAll {H : Type} : List (DataW H) → Nat
  | [] => 0
  | d :: r => uptoBulk d + uptoBulkAll r
def uptoBulkEntries {H : Type} : List (Lit × DataW H) → Nat
  | [] => 0
  | x :: r => uptoBulkEntry x + uptoBulkEntries r
def uptoBulkEntry {H : Type} : Lit × DataW H → Nat
  | (.string bytes, d) => bytes.length + uptoBulk d + 1
  | (_, d) => uptoBulk d + 1
 end
def uptoSmall : (H : Type) → List (DataW H) → Bool := fun _ ds => decide (uptoBulkAll ds ≤ 1048576)
def OpenSpec.upto (s : _root_.Go.ChangeSpec) : _root_.Go.OpenSpec := { _root_.Go.OpenSpec.ofChange s with cond := some uptoSmall }

/-- 'laws.FnBands', WHERE WHAT IT READS IS OF BULK AT MOST 1048576: true; the input reads as it did. -/
def fnBandsUptoRow : OpenClaim := { program := "ytmbblhnagohlhaa", sum := "06a864367eb567fc1a619e9368406e62c6eac052e2494b00ebc6c1c0b7b5ed30", func := "loop.example/g00767/laws.FnBands", spec := "fnBands", unfollowed := true, recurses := true, apart := false, narrowed := true }
def FnBandsUptoSaid : Prop := fnBandsUptoRow.holds Try.pinned (OpenSpec.upto fnBandsSpec)

/-- 'laws.FnExactBandsOf', WHERE WHAT IT READS IS OF BULK AT MOST 1048576: true; the input reads as it did. -/
def fnExactBandsOfUptoRow : OpenClaim := { program := "ytmbblhnagohlhaa", sum := "06a864367eb567fc1a619e9368406e62c6eac052e2494b00ebc6c1c0b7b5ed30", func := "loop.example/g00767/laws.FnExactBandsOf", spec := "fnExactBandsOf", unfollowed := true, recurses := true, apart := false, narrowed := true }
def FnExactBandsOfUptoSaid : Prop := fnExactBandsOfUptoRow.holds Try.pinned (OpenSpec.upto fnExactBandsOfSpec)

/-- 'laws.FnExactNextBand', WHERE WHAT IT READS IS OF BULK AT MOST 1048576: true; the input reads as it did. -/
def fnExactNextBandUptoRow : OpenClaim := { program := "ytmbblhnagohlhaa", sum := "06a864367eb567fc1a619e9368406e62c6eac052e2494b00ebc6c1c0b7b5ed30", func := "loop.example/g00767/laws.FnExactNextBand", spec := "fnExactNextBand", unfollowed := true, recurses := true, apart := false, narrowed := true }
def FnExactNextBandUptoSaid : Prop := fnExactNextBandUptoRow.holds Try.pinned (OpenSpec.upto fnExactNextBandSpec)

/-- 'laws.FnExactPodsOf', WHERE WHAT IT READS IS OF BULK AT MOST 1048576: true; the input reads as it did. -/
def fnExactPodsOfUptoRow : OpenClaim := { program := "ytmbblhnagohlhaa", sum := "06a864367eb567fc1a619e9368406e62c6eac052e2494b00ebc6c1c0b7b5ed30", func := "loop.example/g00767/laws.FnExactPodsOf", spec := "fnExactPodsOf", unfollowed := true, recurses := true, apart := false, narrowed := true }
def FnExactPodsOfUptoSaid : Prop := fnExactPodsOfUptoRow.holds Try.pinned (OpenSpec.upto fnExactPodsOfSpec)

/-- 'laws.FnExactBandTime', WHERE WHAT IT READS IS OF BULK AT MOST 1048576: true; the input reads as it did. -/
def fnExactBandTimeUptoRow : OpenClaim := { program := "ytmbblhnagohlhaa", sum := "06a864367eb567fc1a619e9368406e62c6eac052e2494b00ebc6c1c0b7b5ed30", func := "loop.example/g00767/laws.FnExactBandTime", spec := "fnExactBandTime", unfollowed := true, recurses := true, apart := false, narrowed := true }
def FnExactBandTimeUptoSaid : Prop := fnExactBandTimeUptoRow.holds Try.pinned (OpenSpec.upto fnExactBandTimeSpec)

/-- 'laws.FnExactWholeTime', WHERE WHAT IT READS IS OF BULK AT MOST 1048576: true; the input reads as it did. -/
def fnExactWholeTimeUptoRow : OpenClaim := { program := "ytmbblhnagohlhaa", sum := "06a864367eb567fc1a619e9368406e62c6eac052e2494b00ebc6c1c0b7b5ed30", func := "loop.example/g00767/laws.FnExactWholeTime", spec := "fnExactWholeTime", unfollowed := true, recurses := true, apart := false, narrowed := true }
def FnExactWholeTimeUptoSaid : Prop := fnExactWholeTimeUptoRow.holds Try.pinned (OpenSpec.upto fnExactWholeTimeSpec)

end Rows
end Go.Proofs.Ytmbblhnagohlhaa
