/-
  The model's draws of a plan, a state and a number of a mount or a device (chapter 9).
-/
import Derived.Test.YtbcaginjibnngaaGreatDoorMZxZm
import Derived.Test.YtbcaginjibnngaaGreatDoorMZxPu
import Derived.Test.YtbcaginjibnngaaGreatDoorMZxPv
import Derived.Test.YtbcaginjibnngaaGreatDoorMZ2
import Derived.Test.YtbcaginjibnngaaGreatDoorMZ0
import Derived.Deep.DeepCutAuto
/- Zn -/
namespace Go.Proofs.YtbcaginjibnngaaGreatDoor
open Go.RowKit

theorem l5DrawAny_any (g : Nat) (w : World) (h : Cur 67 .i64 w g) : Calls Tryz.prog 11 #[.pointer (some ⟨g, 0, none⟩)] w (DrawnPS g w) :=
  l5DrawAny_of drawPlan_any (drawAny_of (Lib.hid drawPlan_any)) g w h
end Go.Proofs.YtbcaginjibnngaaGreatDoor
/- Zo -/
set_option linter.unusedVariables false
namespace Go.Proofs.YtbcaginjibnngaaGreatDoor
open Go.RowKit

def GivesPS (w : World) (e : Ending) (w' : World) : Prop :=
  ∃ v0 v1 v2 v3 d vs s, e = .returned (.tuple #[.agg #[v0, v1, v2, v3, .int .i64 d.l, .int .i64 d.p, .int .i64 d.t], vs]) ∧ Lists w' w.heap.size v0 v1 v2 v3 d ∧ OwnSt w' w.heap.size vs s ∧ PlSmall d ∧ StSmall s ∧ Below w.heap.size w w'
theorem store_state {ops : Array Oper} {rest : List Oper} {dst : Option Tmp} {ty : TypeId} {pos : String} {after : Array Edge} {a : Act} {w : World} {Q : Exit → Act → World → Prop} {g x y : Nat} {cs old : Array Value}
    (hx : a.eval (.tmp x) = .pointer (some ⟨g, 0, none⟩)) (hy : a.eval (.tmp y) = .agg cs) (hg : w.heap[g]? = some (.cells old 34)) (hi : (Tryz.prog.info? 34).map (·.size) = some cs.size) (hold : old.size = cs.size) (h1 : cs.all (·.oneCell') = true)
    (h : wpList Tryz.prog ops Q rest (a.put dst undef) (w.setRow g cs)) : wpList Tryz.prog ops Q (Oper.mk dst (.store 34 (.tmp x) (.tmp y)) ty pos after none :: rest) a w :=
  wpList_store_row rfl 34 (.tmp x) (.tmp y) rfl g cs hx hy 34 old hg hi hold h1 h
end Go.Proofs.YtbcaginjibnngaaGreatDoor
/- Hd -/
set_option linter.unusedVariables false
namespace Go.Proofs.YtbcaginjibnngaaGreatDoor
open Go.RowKit

/-- The numbers of a state beside its lists may be others. -/
theorem OwnSt.nums {w : World} {B : Nat} {v0 v1 v2 v3 : Value} {ph ck bo ba lb gd pr : Int} {co : Bool} {ps : List (Int × Int)} {ms : List (Bool × Int)} {ds : List Bool} {ls : List Int} (h : OwnSt w B (.agg #[.int .i64 ph, .bool co, .int .i64 ck, .int .i64 bo, .int .i64 ba, .int .i64 lb, v0, v1, v2, v3, .int .i64 gd, .int .i64 pr]) ⟨ph, co, ck, bo, ba, lb, ps, ms, ds, ls, gd, pr⟩)
    (ph' : Int) (co' : Bool) (ck' bo' ba' lb' gd' pr' : Int) : OwnSt w B (.agg #[.int .i64 ph', .bool co', .int .i64 ck', .int .i64 bo', .int .i64 ba', .int .i64 lb', v0, v1, v2, v3, .int .i64 gd', .int .i64 pr']) ⟨ph', co', ck', bo', ba', lb', ps, ms, ds, ls, gd', pr'⟩ := by
  obtain ⟨u0, u1, u2, u3, hy, z0, z1, z2, z3⟩ := h.it
  injection hy with hy
  have e0 : v0 = u0 := Option.some.inj (show some v0 = some u0 from congrArg (fun a : Array Value => a[6]?) hy)
  have e1 : v1 = u1 := Option.some.inj (show some v1 = some u1 from congrArg (fun a : Array Value => a[7]?) hy)
  have e2 : v2 = u2 := Option.some.inj (show some v2 = some u2 from congrArg (fun a : Array Value => a[8]?) hy)
  have e3 : v3 = u3 := Option.some.inj (show some v3 = some u3 from congrArg (fun a : Array Value => a[9]?) hy)
  subst e0 e1 e2 e3
  exact ⟨_, _, _, _, rfl, z0, z1, z2, z3⟩

theorem OwnSt.podRow {W : World} {B : Nat} {Y0 Y1 Y2 Y3 : Option Addr} {n0 f0 n1 f1 n2 f2 n3 f3 : Nat} {ph ck bo ba lb gd pr : Int} {co : Bool} {s : StD} (h : OwnSt W B (.agg (stC Y0 Y1 Y2 Y3 n0 f0 n1 f1 n2 f2 n3 f3 ph co ck bo ba lb gd pr)) s) {i : Nat} (hi : i < s.pods.length) :
    ∃ gr, Y0 = some ⟨gr, 0, none⟩ ∧ B ≤ gr ∧ gr < W.heap.size ∧ (∃ cs, W.heap[gr]? = some (.cells cs 44)) ∧ RowV W gr (podCs s.pods) := by
  obtain ⟨u0, u1, u2, u3, hy, z0, z1, z2, z3⟩ := h.it
  injection hy with hy
  obtain rfl : Value.slice Y0 n0 f0 = u0 := Option.some.inj (show some _ = some u0 from congrArg (fun a : Array Value => a[6]?) hy)
  obtain ⟨A, c, g, hv, hA, -, hBg, hgz, R, -, -⟩ := open_row z0
  injection hv with hv0 hv1 hv2
  obtain rfl := hA (by omega)
  subst hv0 hv1 hv2
  exact ⟨g, rfl, hBg, hgz (by omega), row_block z0, R⟩
theorem podCs_set1 (l : List (Int × Int)) {i : Nat} (hi : i < l.length) (r : Int) : podCs (l.set i (r, (podA l i).2)) = (podCs l).set (i * 2) (.int .i64 r) := by
  rw [podCs_set l hi]
  have h1 := (podCs_at l hi).2
  apply List.ext_getElem?
  intro j
  by_cases e : j = i * 2 + 1
  · subst e
    rw [List.getElem?_set_self (by rw [List.length_set, podCs_len]; omega), List.getElem?_set_ne (by omega), h1]
  · rw [List.getElem?_set_ne (by omega)]
theorem OwnSt.podSet {W : World} {B gr : Nat} {Y1 Y2 Y3 : Option Addr} {n0 f0 n1 f1 n2 f2 n3 f3 : Nat} {ph ck bo ba lb gd pr : Int} {co : Bool} {s : StD} (h : OwnSt W B (.agg (stC (some ⟨gr, 0, none⟩) Y1 Y2 Y3 n0 f0 n1 f1 n2 f2 n3 f3 ph co ck bo ba lb gd pr)) s) {i : Nat} (hi : i < s.pods.length) (r : Int) :
    OwnSt (W.setCell ⟨gr, i * 2, none⟩ (.int .i64 r)) B (.agg (stC (some ⟨gr, 0, none⟩) Y1 Y2 Y3 n0 f0 n1 f1 n2 f2 n3 f3 ph co ck bo ba lb gd pr)) ⟨s.ph, s.co, s.ck, s.bo, s.ba, s.lb, s.pods.set i (r, (podA s.pods i).2), s.mnts, s.devs, s.lks, s.gd, s.pr⟩ := by
  obtain ⟨u0, u1, u2, u3, hy, z0, z1, z2, z3⟩ := h.it
  have hy0 := hy
  injection hy with hy
  obtain rfl : Value.slice (some ⟨gr, 0, none⟩) n0 f0 = u0 := Option.some.inj (show some _ = some u0 from congrArg (fun a : Array Value => a[6]?) hy)
  have hnn : n0 = s.pods.length := by
    obtain ⟨A, c, g, hv, -⟩ := open_row z0
    injection hv
  subst hnn
  obtain ⟨cs, hgr⟩ := row_block z0
  have kk : Keeps (· = gr) W (W.setCell ⟨gr, i * 2, none⟩ (.int .i64 r)) := Keeps.set (S := (· = gr)) (Keeps.refl _ _) rfl _
  refine ⟨_, u1, u2, u3, hy0, ?_, ownsRow_keeps z1 kk (row_apart z1 hgr (by decide)), ownsRow_keeps z2 kk (row_apart z2 hgr (by decide)), ownsRow_keeps z3 kk (row_apart z3 hgr (by decide))⟩
  dsimp only
  rw [List.length_set, podCs_set1 _ hi]
  exact (World.ownsRow.stored z0 (i * 2) (.int .i64 r)).1
end Go.Proofs.YtbcaginjibnngaaGreatDoor
