/-
  Agents as data (chapter 15): what an agent obeys keeps it right, and its store within its bound; also where the store begins anew with a snapshot.
-/
import Derived.Test.YtkefbmbjkijilaaGreatDoorMZ16
import Derived.Test.YtkefbmbjkijilaaGreatDoorMZ8
/- Zj -/
set_option linter.unusedVariables false
namespace Go.Proofs.YtkefbmbjkijilaaGreatDoor
open Go.RowKit

theorem OwnSt.shapes {w : World} {B : Nat} {s : StD} {s0 s1 s2 s3 : Value} (h : OwnSt w B (.agg #[.int .i64 s.ph, .bool s.co, .int .i64 s.ck, .int .i64 s.bo, .int .i64 s.ba, .int .i64 s.lb, s0, s1, s2, s3, .int .i64 s.gd, .int .i64 s.pr]) s) :
    (∃ Y f, s0 = .slice Y s.pods.length f) ∧ (∃ Y f, s1 = .slice Y s.mnts.length f) ∧ (∃ Y f, s2 = .slice Y s.devs.length f) ∧ (∃ Y f, s3 = .slice Y s.lks.length f) := by
  obtain ⟨y0, y1, y2, y3, hy, z0, z1, z2, z3⟩ := h.it
  injection hy with hy
  injection hy with hy
  injection hy with _ hy
  injection hy with _ hy
  injection hy with _ hy
  injection hy with _ hy
  injection hy with _ hy
  injection hy with _ hy
  injection hy with i0 hy
  injection hy with i1 hy
  injection hy with i2 hy
  injection hy with i3 hy
  subst i0 i1 i2 i3
  obtain ⟨Y0, f0, e0, -⟩ := open_rowR z0
  obtain ⟨Y1, f1, e1, -⟩ := open_rowR z1
  obtain ⟨Y2, f2, e2, -⟩ := open_rowR z2
  obtain ⟨Y3, f3, e3, -⟩ := open_rowR z3
  exact ⟨⟨Y0, f0, e0⟩, ⟨Y1, f1, e1⟩, ⟨Y2, f2, e2⟩, ⟨Y3, f3, e3⟩⟩
/-- Behind an order obeyed. -/
def ObeyedA (w : World) (d : PlanD) (a : (StD × List Nat) × Int) (e : Ending) (w' : World) : Prop := ∃ v', e = .returned (.tuple #[v', .int .i64 a.2]) ∧ OwnAg w' w.heap.size v' d a.1.1 a.1.2 ∧ Below w.heap.size w w'

end Go.Proofs.YtkefbmbjkijilaaGreatDoor
/- Zb -/
set_option linter.unusedVariables false
namespace Go.Proofs.YtkefbmbjkijilaaGreatDoor
open Go.RowKit

theorem Blk.three {W : World} {g0 : Nat} (X : Blk W g0 #[.int .i64 0, .int .i64 0, .int .i64 0]) (k a b : Int) : Blk (((W.setCell ⟨g0, 0, none⟩ (.int .i64 k)).setCell ⟨g0, 1, none⟩ (.int .i64 a)).setCell ⟨g0, 2, none⟩ (.int .i64 b)) g0 (ordC k a b) :=
  ((X.set (i := 0) (by decide) (.int .i64 k)).set (i := 1) (by simp) (.int .i64 a)).set (i := 2) (by simp) (.int .i64 b)
theorem Keeps.three {S : Nat → Prop} {w W : World} (h : Keeps S w W) (x y z : Value) : Keeps S w (((W.setCell ⟨w.heap.size, 0, none⟩ x).setCell ⟨w.heap.size, 1, none⟩ y).setCell ⟨w.heap.size, 2, none⟩ z) :=
  ((h.far (p := ⟨w.heap.size, 0, none⟩) (Nat.le_refl _) x).far (p := ⟨w.heap.size, 1, none⟩) (Nat.le_refl _) y).far (p := ⟨w.heap.size, 2, none⟩) (Nat.le_refl _) z

end Go.Proofs.YtkefbmbjkijilaaGreatDoor
/- Tk -/
set_option linter.unusedVariables false
namespace Go.Proofs.YtkefbmbjkijilaaGreatDoor
open Go.RowKit

/-- A machine that is coming back has probes left. -/
def Prb (d : PlanD) (s : StD) : Prop := (s.ph = 6 ∨ s.ph = 7) → s.pr < d.t
/-- Lists of records, one list after the other. -/
def runLs (d : PlanD) : StD → List (List RecD) → Option StD
  | s, [] => some s
  | s, l :: ls => (runR d s l).bind fun x => runLs d x ls
theorem runLs_ok {d : PlanD} : ∀ {ls : List (List RecD)} {s x : StD}, StOk d s → runLs d s ls = some x → StOk d x
  | [], s, x, h, hx => by cases hx; exact h
  | l :: ls, s, x, h, hx => by
    simp only [runLs] at hx
    cases hr : runR d s l with
    | none => rw [hr] at hx; cases hx
    | some y => rw [hr] at hx; exact runLs_ok (runR_ok h hr) hx
/-- An agent: its store is whole frames, and makes its state. -/
structure AgD (d : PlanD) (s : StD) (st : List Nat) : Prop where
  plan : planOkB d = true
  len : st.length ≤ 1200
  it : ∃ ls, framesN st = (ls, st.length) ∧ runLs d (newS d) ls = some s
  prb : Prb d s
theorem AgD.ok {d : PlanD} {s : StD} {st : List Nat} (h : AgD d s st) : StOk d s := by
  obtain ⟨ls, -, hr⟩ := h.it
  exact runLs_ok (newS_ok h.plan) hr
end Go.Proofs.YtkefbmbjkijilaaGreatDoor
