/-
  The model's draws of a plan, a state and a number of a mount or a device (chapter 9).
-/
import Derived.Test.YtmgckdmglnmnnaaGreatDoorMZxZm
import Derived.Test.YtmgckdmglnmnnaaGreatDoorMZxPu
import Derived.Test.YtmgckdmglnmnnaaGreatDoorMZxPv
import Derived.Test.YtmgckdmglnmnnaaGreatDoorMZ3
import Derived.Test.YtmgckdmglnmnnaaGreatDoorMZ0
import Derived.Deep.DeepCutAuto
/- Zn -/
namespace Go.Proofs.YtmgckdmglnmnnaaGreatDoor
open Go.RowKit

theorem l5DrawAny_any (g : Nat) (w : World) (h : Cur 71 .i64 w g) : Calls Tryz.prog 13 #[.pointer (some ⟨g, 0, none⟩)] w (DrawnPS g w) :=
  l5DrawAny_of drawPlan_any (drawAny_of (Lib.hid drawPlan_any)) g w h
end Go.Proofs.YtmgckdmglnmnnaaGreatDoor
/- Zo -/
set_option linter.unusedVariables false
namespace Go.Proofs.YtmgckdmglnmnnaaGreatDoor
open Go.RowKit

theorem store_state {ops : Array Oper} {rest : List Oper} {dst : Option Tmp} {ty : TypeId} {pos : String} {after : Array Edge} {a : Act} {w : World} {Q : Exit → Act → World → Prop} {g x y : Nat} {cs old : Array Value}
    (hx : a.eval (.tmp x) = .pointer (some ⟨g, 0, none⟩)) (hy : a.eval (.tmp y) = .agg cs) (hg : w.heap[g]? = some (.cells old 34)) (hi : (Tryz.prog.info? 34).map (·.size) = some cs.size) (hold : old.size = cs.size) (h1 : cs.all (·.oneCell') = true)
    (h : wpList Tryz.prog ops Q rest (a.put dst undef) (w.setRow g cs)) : wpList Tryz.prog ops Q (Oper.mk dst (.store 34 (.tmp x) (.tmp y)) ty pos after none :: rest) a w :=
  wpList_store_row rfl 34 (.tmp x) (.tmp y) rfl g cs hx hy 34 old hg hi hold h1 h
end Go.Proofs.YtmgckdmglnmnnaaGreatDoor
/- Hd -/
set_option linter.unusedVariables false
namespace Go.Proofs.YtmgckdmglnmnnaaGreatDoor
open Go.RowKit

def GivesPSN (w : World) (e : Ending) (w' : World) : Prop :=
  ∃ v0 v1 v2 v3 d vs s k, e = .returned (.tuple #[.agg #[v0, v1, v2, v3, .int .i64 d.l, .int .i64 d.p, .int .i64 d.t], vs, .int .i64 k]) ∧ Lists w' w.heap.size v0 v1 v2 v3 d ∧ OwnSt w' w.heap.size vs s ∧ PlSmall d ∧ StSmall s ∧ Below w.heap.size w w'
theorem results_cells_num {P : Program} {fn : Func} {p q r : Tmp} {ty ty' : TypeId} (h : fn.results = #[.cell p ty, .cell q ty', .tmp r]) (tmps : Array Value) (w : World) (g g' : Nat) (t t' : TypeId) (cs cs' : Array Value) (fr fr' : Nat × Nat) (d d' : TypeDesc) (u : Value)
    (hp : tmps.getD p undef = .pointer (some ⟨g, 0, none⟩)) (hq : tmps.getD q undef = .pointer (some ⟨g', 0, none⟩)) (hr : tmps.getD r undef = u) (hg : w.heap[g]? = some (.cells cs t fr)) (hg' : w.heap[g']? = some (.cells cs' t' fr'))
    (hu : P.underlying ty = some d) (hd : (match d with | .struct _ | .array _ _ => true | _ => false) = true) (hi : (P.info? ty).map (·.size) = some cs.size)
    (hu' : P.underlying ty' = some d') (hd' : (match d' with | .struct _ | .array _ _ => true | _ => false) = true) (hi' : (P.info? ty').map (·.size) = some cs'.size) :
    (results fn tmps).run P w = .ok (.tuple #[.agg cs, .agg cs', u]) w := by
  have hp' : tmps[p]?.getD undef = .pointer (some ⟨g, 0, none⟩) := by simpa using hp
  have hq' : tmps[q]?.getD undef = .pointer (some ⟨g', 0, none⟩) := by simpa using hq
  have hr' : tmps[r]?.getD undef = u := by simpa using hr
  simp [results, h, hp', hq', hr', asAddr, run_loadVar_row w g t ty cs fr d hg hu hd hi, run_loadVar_row w g' t' ty' cs' fr' d' hg' hu' hd' hi']
theorem OwnSt.podRow {W : World} {B : Nat} {Y0 Y1 Y2 Y3 : Option Addr} {n0 f0 n1 f1 n2 f2 n3 f3 : Nat} {ph ck bo ba lb gd pr : Int} {co : Bool} {s : StD} (h : OwnSt W B (.agg (stC Y0 Y1 Y2 Y3 n0 f0 n1 f1 n2 f2 n3 f3 ph co ck bo ba lb gd pr)) s) {i : Nat} (hi : i < s.pods.length) :
    ∃ gr, Y0 = some ⟨gr, 0, none⟩ ∧ B ≤ gr ∧ gr < W.heap.size ∧ (∃ cs, W.heap[gr]? = some (.cells cs 46)) ∧ RowV W gr (podCs s.pods) := by
  obtain ⟨u0, u1, u2, u3, hy, z0, z1, z2, z3⟩ := h.it
  injection hy with hy
  obtain rfl : Value.slice Y0 n0 f0 = u0 := Option.some.inj (show some _ = some u0 from congrArg (fun a : Array Value => a[6]?) hy)
  obtain ⟨A, c, g, hv, hA, -, hBg, hgz, R, -, -⟩ := open_row z0
  injection hv with hv0 hv1 hv2
  obtain rfl := hA (by omega)
  subst hv0 hv1 hv2
  exact ⟨g, rfl, hBg, hgz (by omega), row_block z0, R⟩
end Go.Proofs.YtmgckdmglnmnnaaGreatDoor
