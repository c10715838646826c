/-
  Chapter 2's functions, of both sides, in one form.
-/
import Derived.Test.YtmbblhnagohlhaaSh
set_option linter.unusedVariables false
namespace Go.Proofs.Ytmbblhnagohlhaa
open Go.RowKit

theorem xSpecBands (v : Value) (d : PlanD) {w : World} (h : IsPlan w w.heap.size v d) (q0 : d.n0 ≤ 1048576) (_ : d.n1 ≤ 1048576) (_ : d.n2 ≤ 1048576) (_ : d.n3 ≤ 1048576) :
    Calls Try.prog 22 #[v] w (Listed w (bandsL d)) := specBands_any v d w h q0
theorem xImplBands (v : Value) (d : PlanD) {w : World} (h : IsPlan w w.heap.size v d) (q0 : d.n0 ≤ 1048576) (_ : d.n1 ≤ 1048576) (_ : d.n2 ≤ 1048576) (_ : d.n3 ≤ 1048576) :
    Calls Try.prog 12 #[v] w (Listed w (bandsL d)) := implBands_any v d w h
theorem xSpecPods (v : Value) (d : PlanD) (b : Int) {w : World} (h : IsPlan w w.heap.size v d) (q0 : d.n0 ≤ 1048576) (_ : d.n1 ≤ 1048576) (_ : d.n2 ≤ 1048576) (_ : d.n3 ≤ 1048576) :
    Calls Try.prog 23 #[v, .int .i64 b] w (Listed w (podsL d b)) := specPods_any v d b w h q0
theorem xImplPods (v : Value) (d : PlanD) (b : Int) {w : World} (h : IsPlan w w.heap.size v d) (q0 : d.n0 ≤ 1048576) (_ : d.n1 ≤ 1048576) (_ : d.n2 ≤ 1048576) (_ : d.n3 ≤ 1048576) :
    Calls Try.prog 14 #[v, .int .i64 b] w (Listed w (podsL d b)) := implPods_any v d b w h q0
theorem xSpecNext (v : Value) (d : PlanD) (b : Int) {w : World} (h : IsPlan w w.heap.size v d) (q0 : d.n0 ≤ 1048576) (_ : d.n1 ≤ 1048576) (_ : d.n2 ≤ 1048576) (_ : d.n3 ≤ 1048576) :
    Calls Try.prog 18 #[v, .int .i64 b] w fun e w' => e = .returned (.int .i64 (nextL d b)) ∧ Below w.heap.size w w' := specNext_any v d b w h q0
theorem xImplNext (v : Value) (d : PlanD) (b : Int) {w : World} (h : IsPlan w w.heap.size v d) (q0 : d.n0 ≤ 1048576) (_ : d.n1 ≤ 1048576) (_ : d.n2 ≤ 1048576) (_ : d.n3 ≤ 1048576) :
    Calls Try.prog 13 #[v, .int .i64 b] w fun e w' => e = .returned (.int .i64 (nextL d b)) ∧ Below w.heap.size w w' := implNext_any v d b w h
theorem xSpecTime (v : Value) (d : PlanD) (b : Int) {w : World} (h : IsPlan w w.heap.size v d) (q0 : d.n0 ≤ 1048576) (_ : d.n1 ≤ 1048576) (_ : d.n2 ≤ 1048576) (_ : d.n3 ≤ 1048576) :
    Calls Try.prog 19 #[v, .int .i64 b] w fun e w' => e = .returned (.int .i64 (bandT d b)) ∧ Below w.heap.size w w' := specTime_any v d b w h q0
theorem xImplTime (v : Value) (d : PlanD) (b : Int) {w : World} (h : IsPlan w w.heap.size v d) (q0 : d.n0 ≤ 1048576) (_ : d.n1 ≤ 1048576) (_ : d.n2 ≤ 1048576) (_ : d.n3 ≤ 1048576) :
    Calls Try.prog 15 #[v, .int .i64 b] w fun e w' => e = .returned (.int .i64 (bandT d b)) ∧ Below w.heap.size w w' := implTime_any v d b w h q0
theorem xSpecWhole (v : Value) (d : PlanD) {w : World} (h : IsPlan w w.heap.size v d) (q0 : d.n0 ≤ 1048576) (_ : d.n1 ≤ 1048576) (_ : d.n2 ≤ 1048576) (_ : d.n3 ≤ 1048576) :
    Calls Try.prog 20 #[v] w fun e w' => e = .returned (.int .i64 (wholeT d)) ∧ Below w.heap.size w w' := specWhole_any v d w h q0
theorem xImplWhole (v : Value) (d : PlanD) {w : World} (h : IsPlan w w.heap.size v d) (q0 : d.n0 ≤ 1048576) (_ : d.n1 ≤ 1048576) (_ : d.n2 ≤ 1048576) (_ : d.n3 ≤ 1048576) :
    Calls Try.prog 17 #[v] w fun e w' => e = .returned (.int .i64 (wholeT d)) ∧ Below w.heap.size w w' := implWhole_any v d w h q0
end Go.Proofs.Ytmbblhnagohlhaa
