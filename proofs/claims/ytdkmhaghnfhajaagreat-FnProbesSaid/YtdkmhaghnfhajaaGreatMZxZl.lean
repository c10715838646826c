/-
  A plan and a state in boxes, as the model's draw of both makes them.
-/
import Derived.Test.YtdkmhaghnfhajaaGreatMZxZk
/- Zl -/
set_option linter.unusedVariables false
namespace Go.Proofs.YtdkmhaghnfhajaaGreat
open Go.RowKit

structure PlSmall (d : PlanD) : Prop where
  s0 : d.n0 ≤ 13
  s1 : d.n1 ≤ 12
  s2 : d.n2 ≤ 12
  s3 : d.n3 ≤ 12
structure StSmall (s : StD) : Prop where
  s0 : s.pods.length ≤ 12
  s1 : s.mnts.length ≤ 12
  s2 : s.devs.length ≤ 12
  s3 : s.lks.length ≤ 13
/-- A plan's box g5 and a state's box g6, their lists the call's own; the cursor at g; the answers' boxes behind w. -/
structure BoxPS (w W : World) (g g5 g6 : Nat) : Prop where
  it : ∃ (Q0 Q1 Q2 Q3 : Option Addr) (e0 e1 e2 e3 : Nat) (d : PlanD) (Y0 Y1 Y2 Y3 : Option Addr) (f0 f1 f2 f3 : Nat) (s : StD), W.heap[g5]? = some (.cells (planC Q0 Q1 Q2 Q3 d.n0 e0 d.n1 e1 d.n2 e2 d.n3 e3 d.l d.p d.t) 29) ∧ W.heap[g6]? = some (.cells (stC Y0 Y1 Y2 Y3 s.pods.length f0 s.mnts.length f1 s.devs.length f2 s.lks.length f3 s.ph s.co s.ck s.bo s.ba s.lb s.gd s.pr) 38) ∧
    Lists W w.heap.size (.slice Q0 d.n0 e0) (.slice Q1 d.n1 e1) (.slice Q2 d.n2 e2) (.slice Q3 d.n3 e3) d ∧ OwnSt W w.heap.size (.agg (stC Y0 Y1 Y2 Y3 s.pods.length f0 s.mnts.length f1 s.devs.length f2 s.lks.length f3 s.ph s.co s.ck s.bo s.ba s.lb s.gd s.pr)) s ∧ PlSmall d ∧ StSmall s ∧ Apart (.slice Q1 d.n1 e1) (.slice Y3 s.lks.length f3)
  cur : Cur 112 .i64 W g
  kp : Keeps (· = g) w W
  b2 : W.heap[w.heap.size]? = some (.cells (planC none none none none 0 0 0 0 0 0 0 0 0 0 0) 29)
  b3 : W.heap[w.heap.size + 1]? = some (.cells (stC none none none none 0 0 0 0 0 0 0 0 0 false 0 0 0 0 0 0) 38)
theorem OwnSt.scal {W : World} {B : Nat} {Y0 Y1 Y2 Y3 : Option Addr} {f0 f1 f2 f3 : Nat} {s : StD} (h : OwnSt W B (.agg (stC Y0 Y1 Y2 Y3 s.pods.length f0 s.mnts.length f1 s.devs.length f2 s.lks.length f3 s.ph s.co s.ck s.bo s.ba s.lb s.gd s.pr)) s) (ph : Int) (co : Bool) (ck bo ba lb gd pr : Int) :
    OwnSt W B (.agg (stC Y0 Y1 Y2 Y3 s.pods.length f0 s.mnts.length f1 s.devs.length f2 s.lks.length f3 ph co ck bo ba lb gd pr)) ⟨ph, co, ck, bo, ba, lb, s.pods, s.mnts, s.devs, s.lks, gd, pr⟩ := by
  obtain ⟨y0, y1, y2, y3, hy, z0, z1, z2, z3⟩ := h.it
  injection hy with hy
  injection hy with hy
  injection hy with _ hy
  injection hy with _ hy
  injection hy with _ hy
  injection hy with _ hy
  injection hy with _ hy
  injection hy with _ hy
  injection hy with i0 hy
  injection hy with i1 hy
  injection hy with i2 hy
  injection hy with i3 hy
  subst i0 i1 i2 i3
  exact ⟨_, _, _, _, rfl, z0, z1, z2, z3⟩
section
variable {w W W' : World} {g g5 g6 : Nat} {Q0 Q1 Q2 Q3 : Option Addr} {e0 e1 e2 e3 : Nat} {d : PlanD} {Y0 Y1 Y2 Y3 : Option Addr} {f0 f1 f2 f3 : Nat} {s : StD}
/-- A field that is no list was set. -/
theorem ps_scal {ph : Int} {co : Bool} {ck bo ba lb gd pr : Int} (H5 : W.heap[g5]? = some (.cells (planC Q0 Q1 Q2 Q3 d.n0 e0 d.n1 e1 d.n2 e2 d.n3 e3 d.l d.p d.t) 29)) (H6 : W.heap[g6]? = some (.cells (stC Y0 Y1 Y2 Y3 s.pods.length f0 s.mnts.length f1 s.devs.length f2 s.lks.length f3 s.ph s.co s.ck s.bo s.ba s.lb s.gd s.pr) 38))
    (Lp : Lists W w.heap.size (.slice Q0 d.n0 e0) (.slice Q1 d.n1 e1) (.slice Q2 d.n2 e2) (.slice Q3 d.n3 e3) d) (Os : OwnSt W w.heap.size (.agg (stC Y0 Y1 Y2 Y3 s.pods.length f0 s.mnts.length f1 s.devs.length f2 s.lks.length f3 s.ph s.co s.ck s.bo s.ba s.lb s.gd s.pr)) s) (hd : PlSmall d) (hs : StSmall s) (AP : Apart (.slice Q1 d.n1 e1) (.slice Y3 s.lks.length f3)) (CU : Cur 112 .i64 W g) (KP : Keeps (· = g) w W)
    (b2 : W.heap[w.heap.size]? = some (.cells (planC none none none none 0 0 0 0 0 0 0 0 0 0 0) 29)) (b3 : W.heap[w.heap.size + 1]? = some (.cells (stC none none none none 0 0 0 0 0 0 0 0 0 false 0 0 0 0 0 0) 38)) (hg : g < w.heap.size) (h5 : w.heap.size + 1 < g5) (h6 : g5 < g6)
    (kk : Keeps (· = g6) W W') (H6' : W'.heap[g6]? = some (.cells (stC Y0 Y1 Y2 Y3 s.pods.length f0 s.mnts.length f1 s.devs.length f2 s.lks.length f3 ph co ck bo ba lb gd pr) 38)) : BoxPS w W' g g5 g6 where
  it := ⟨Q0, Q1, Q2, Q3, e0, e1, e2, e3, d, Y0, Y1, Y2, Y3, f0, f1, f2, f3, ⟨ph, co, ck, bo, ba, lb, s.pods, s.mnts, s.devs, s.lks, gd, pr⟩, (kk.block _ (Array.getElem?_eq_some_iff.1 H5).1 (by show ¬ g5 = g6; omega)).trans H5, H6',
    Lp.keeps kk H6 (by decide), (Os.keepsT kk H6 (by decide)).scal ph co ck bo ba lb gd pr, hd, ⟨hs.s0, hs.s1, hs.s2, hs.s3⟩, AP⟩
  cur := CU.keeps kk (fun b hb e => by omega)
  kp := ⟨kk.os.trans KP.os, kk.tape.trans KP.tape, kk.output.trans KP.output, Nat.le_trans KP.size kk.size, fun b hb hn => (kk.block b (Nat.lt_of_lt_of_le hb KP.size) (by show ¬ b = g6; omega)).trans (KP.block b hb hn)⟩
  b2 := (kk.block _ (Array.getElem?_eq_some_iff.1 b2).1 (by show ¬ w.heap.size = g6; omega)).trans b2
  b3 := (kk.block _ (Array.getElem?_eq_some_iff.1 b3).1 (by show ¬ w.heap.size + 1 = g6; omega)).trans b3
end
end Go.Proofs.YtdkmhaghnfhajaaGreat
