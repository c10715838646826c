/-
  The model's draw of a plan and a state from bytes.
-/
import Derived.Test.YtdkmhaghnfhajaaGreatDoorMZxZm
import Derived.Test.YtdkmhaghnfhajaaGreatDoorMZxPu
import Derived.Test.YtdkmhaghnfhajaaGreatDoorMZxPv
/- Zn -/
namespace Go.Proofs.YtdkmhaghnfhajaaGreatDoor
open Go.RowKit

theorem l5DrawAny_any (g : Nat) (w : World) (h : Cur 141 .i64 w g) : Calls Tryz.prog 46 #[.pointer (some ⟨g, 0, none⟩)] w (DrawnPS g w) :=
  l5DrawAny_of drawPlan_any (drawAny_of (Lib.hid drawPlan_any)) g w h
end Go.Proofs.YtdkmhaghnfhajaaGreatDoor
/- Zo -/
set_option linter.unusedVariables false
namespace Go.Proofs.YtdkmhaghnfhajaaGreatDoor
open Go.RowKit

def GivesPS (w : World) (e : Ending) (w' : World) : Prop :=
  ∃ v0 v1 v2 v3 d vs s, e = .returned (.tuple #[.agg #[v0, v1, v2, v3, .int .i64 d.l, .int .i64 d.p, .int .i64 d.t], vs]) ∧ Lists w' w.heap.size v0 v1 v2 v3 d ∧ OwnSt w' w.heap.size vs s ∧ PlSmall d ∧ StSmall s ∧ Below w.heap.size w w'
theorem store_state {ops : Array Oper} {rest : List Oper} {dst : Option Tmp} {ty : TypeId} {pos : String} {after : Array Edge} {a : Act} {w : World} {Q : Exit → Act → World → Prop} {g x y : Nat} {cs old : Array Value}
    (hx : a.eval (.tmp x) = .pointer (some ⟨g, 0, none⟩)) (hy : a.eval (.tmp y) = .agg cs) (hg : w.heap[g]? = some (.cells old 34)) (hi : (Tryz.prog.info? 34).map (·.size) = some cs.size) (hold : old.size = cs.size) (h1 : cs.all (·.oneCell') = true)
    (h : wpList Tryz.prog ops Q rest (a.put dst undef) (w.setRow g cs)) : wpList Tryz.prog ops Q (Oper.mk dst (.store 34 (.tmp x) (.tmp y)) ty pos after none :: rest) a w :=
  wpList_store_row rfl 34 (.tmp x) (.tmp y) rfl g cs hx hy 34 old hg hi hold h1 h
end Go.Proofs.YtdkmhaghnfhajaaGreatDoor
