/-
  The model's draw of a plan and a state from bytes.
-/
import Derived.Test.YtmcafdhffkhcgaaGreatMZxZm
import Derived.Test.YtmcafdhffkhcgaaGreatMZxPu
import Derived.Test.YtmcafdhffkhcgaaGreatMZxPv
/- Zn -/
namespace Go.Proofs.YtmcafdhffkhcgaaGreat
open Go.RowKit

theorem l5DrawAny_any (g : Nat) (w : World) (h : Cur 75 .i64 w g) : Calls Tryz.prog 21 #[.pointer (some ⟨g, 0, none⟩)] w (DrawnPS g w) :=
  l5DrawAny_of drawPlan_any (drawAny_of (Lib.hid drawPlan_any)) g w h
end Go.Proofs.YtmcafdhffkhcgaaGreat
/- Zo -/
set_option linter.unusedVariables false
namespace Go.Proofs.YtmcafdhffkhcgaaGreat
open Go.RowKit

theorem store_state {ops : Array Oper} {rest : List Oper} {dst : Option Tmp} {ty : TypeId} {pos : String} {after : Array Edge} {a : Act} {w : World} {Q : Exit → Act → World → Prop} {g x y : Nat} {cs old : Array Value}
    (hx : a.eval (.tmp x) = .pointer (some ⟨g, 0, none⟩)) (hy : a.eval (.tmp y) = .agg cs) (hg : w.heap[g]? = some (.cells old 38)) (hi : (Tryz.prog.info? 38).map (·.size) = some cs.size) (hold : old.size = cs.size) (h1 : cs.all (·.oneCell') = true)
    (h : wpList Tryz.prog ops Q rest (a.put dst undef) (w.setRow g cs)) : wpList Tryz.prog ops Q (Oper.mk dst (.store 38 (.tmp x) (.tmp y)) ty pos after none :: rest) a w :=
  wpList_store_row rfl 38 (.tmp x) (.tmp y) rfl g cs hx hy 38 old hg hi hold h1 h
end Go.Proofs.YtmcafdhffkhcgaaGreat
