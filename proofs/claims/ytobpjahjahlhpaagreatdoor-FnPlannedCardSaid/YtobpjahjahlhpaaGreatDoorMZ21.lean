/-
  The model's draws of a plan, a state and a number (chapter 8).
-/
import Derived.Test.YtobpjahjahlhpaaGreatDoorMZxZm
import Derived.Test.YtobpjahjahlhpaaGreatDoorMZxPu
import Derived.Test.YtobpjahjahlhpaaGreatDoorMZxPv
import Derived.Test.YtobpjahjahlhpaaGreatDoorMZ7
import Derived.Test.YtobpjahjahlhpaaGreatDoorMZ0
import Derived.Deep.DeepCutAuto
/- Zn -/
namespace Go.Proofs.YtobpjahjahlhpaaGreatDoor
open Go.RowKit

theorem l5DrawAny_any (g : Nat) (w : World) (h : Cur 90 .i64 w g) : Calls Tryz.prog 15 #[.pointer (some ⟨g, 0, none⟩)] w (DrawnPS g w) :=
  l5DrawAny_of drawPlan_any (drawAny_of (Lib.hid drawPlan_any)) g w h
end Go.Proofs.YtobpjahjahlhpaaGreatDoor
/- Zo -/
set_option linter.unusedVariables false
namespace Go.Proofs.YtobpjahjahlhpaaGreatDoor
open Go.RowKit

def GivesPS (w : World) (e : Ending) (w' : World) : Prop :=
  ∃ v0 v1 v2 v3 d vs s, e = .returned (.tuple #[.agg #[v0, v1, v2, v3, .int .i64 d.l, .int .i64 d.p, .int .i64 d.t], vs]) ∧ Lists w' w.heap.size v0 v1 v2 v3 d ∧ OwnSt w' w.heap.size vs s ∧ PlSmall d ∧ StSmall s ∧ Below w.heap.size w w'
theorem store_state {ops : Array Oper} {rest : List Oper} {dst : Option Tmp} {ty : TypeId} {pos : String} {after : Array Edge} {a : Act} {w : World} {Q : Exit → Act → World → Prop} {g x y : Nat} {cs old : Array Value}
    (hx : a.eval (.tmp x) = .pointer (some ⟨g, 0, none⟩)) (hy : a.eval (.tmp y) = .agg cs) (hg : w.heap[g]? = some (.cells old 34)) (hi : (Tryz.prog.info? 34).map (·.size) = some cs.size) (hold : old.size = cs.size) (h1 : cs.all (·.oneCell') = true)
    (h : wpList Tryz.prog ops Q rest (a.put dst undef) (w.setRow g cs)) : wpList Tryz.prog ops Q (Oper.mk dst (.store 34 (.tmp x) (.tmp y)) ty pos after none :: rest) a w :=
  wpList_store_row rfl 34 (.tmp x) (.tmp y) rfl g cs hx hy 34 old hg hi hold h1 h
end Go.Proofs.YtobpjahjahlhpaaGreatDoor
/- Nc -/
set_option linter.unusedVariables false
namespace Go.Proofs.YtobpjahjahlhpaaGreatDoor
open Go.RowKit

def GivesPSN (w : World) (e : Ending) (w' : World) : Prop :=
  ∃ v0 v1 v2 v3 d vs s k, e = .returned (.tuple #[.agg #[v0, v1, v2, v3, .int .i64 d.l, .int .i64 d.p, .int .i64 d.t], vs, .int .i64 k]) ∧ Lists w' w.heap.size v0 v1 v2 v3 d ∧ OwnSt w' w.heap.size vs s ∧ PlSmall d ∧ StSmall s ∧ Below w.heap.size w w'
theorem results_cells_num {P : Program} {fn : Func} {p q r : Tmp} {ty ty' : TypeId} (h : fn.results = #[.cell p ty, .cell q ty', .tmp r]) (tmps : Array Value) (w : World) (g g' : Nat) (t t' : TypeId) (cs cs' : Array Value) (fr fr' : Nat × Nat) (d d' : TypeDesc) (u : Value)
    (hp : tmps.getD p undef = .pointer (some ⟨g, 0, none⟩)) (hq : tmps.getD q undef = .pointer (some ⟨g', 0, none⟩)) (hr : tmps.getD r undef = u) (hg : w.heap[g]? = some (.cells cs t fr)) (hg' : w.heap[g']? = some (.cells cs' t' fr'))
    (hu : P.underlying ty = some d) (hd : (match d with | .struct _ | .array _ _ => true | _ => false) = true) (hi : (P.info? ty).map (·.size) = some cs.size)
    (hu' : P.underlying ty' = some d') (hd' : (match d' with | .struct _ | .array _ _ => true | _ => false) = true) (hi' : (P.info? ty').map (·.size) = some cs'.size) :
    (results fn tmps).run P w = .ok (.tuple #[.agg cs, .agg cs', u]) w := by
  have hp' : tmps[p]?.getD undef = .pointer (some ⟨g, 0, none⟩) := by simpa using hp
  have hq' : tmps[q]?.getD undef = .pointer (some ⟨g', 0, none⟩) := by simpa using hq
  have hr' : tmps[r]?.getD undef = u := by simpa using hr
  simp [results, h, hp', hq', hr', asAddr, run_loadVar_row w g t ty cs fr d hg hu hd hi, run_loadVar_row w g' t' ty' cs' fr' d' hg' hu' hd' hi']
/-- The numbers of a state beside its lists may be others. -/
theorem OwnSt.nums {w : World} {B : Nat} {v0 v1 v2 v3 : Value} {ph ck bo ba lb gd pr : Int} {co : Bool} {ps : List (Int × Int)} {ms : List (Bool × Int)} {ds : List Bool} {ls : List Int} (h : OwnSt w B (.agg #[.int .i64 ph, .bool co, .int .i64 ck, .int .i64 bo, .int .i64 ba, .int .i64 lb, v0, v1, v2, v3, .int .i64 gd, .int .i64 pr]) ⟨ph, co, ck, bo, ba, lb, ps, ms, ds, ls, gd, pr⟩)
    (ph' : Int) (co' : Bool) (ck' bo' ba' lb' gd' pr' : Int) : OwnSt w B (.agg #[.int .i64 ph', .bool co', .int .i64 ck', .int .i64 bo', .int .i64 ba', .int .i64 lb', v0, v1, v2, v3, .int .i64 gd', .int .i64 pr']) ⟨ph', co', ck', bo', ba', lb', ps, ms, ds, ls, gd', pr'⟩ := by
  obtain ⟨u0, u1, u2, u3, hy, z0, z1, z2, z3⟩ := h.it
  injection hy with hy
  have e0 : v0 = u0 := Option.some.inj (show some v0 = some u0 from congrArg (fun a : Array Value => a[6]?) hy)
  have e1 : v1 = u1 := Option.some.inj (show some v1 = some u1 from congrArg (fun a : Array Value => a[7]?) hy)
  have e2 : v2 = u2 := Option.some.inj (show some v2 = some u2 from congrArg (fun a : Array Value => a[8]?) hy)
  have e3 : v3 = u3 := Option.some.inj (show some v3 = some u3 from congrArg (fun a : Array Value => a[9]?) hy)
  subst e0 e1 e2 e3
  exact ⟨_, _, _, _, rfl, z0, z1, z2, z3⟩

end Go.Proofs.YtobpjahjahlhpaaGreatDoor
