/-
  Records appended; the model's l11Held and l11Releasing.
-/
import Derived.Test.YtkefbmbjkijilaaGreatDoorMZ10
import Derived.Test.YtkefbmbjkijilaaGreatDoorMZ0
import Derived.Test.YtkefbmbjkijilaaGreatDoorMZ3
/- Wi -/
set_option linter.unusedVariables false
namespace Go.Proofs.YtkefbmbjkijilaaGreatDoor
open Go.RowKit

theorem size_ok {d : PlanD} (h : planOkB d = true) : d.n0 ≤ 12 ∧ d.n1 ≤ 4 ∧ d.n2 ≤ 12 ∧ d.n3 ≤ 12 := by
  simp only [planOkB, sizesB, Bool.and_eq_true, decide_eq_true_eq] at h
  omega
end Go.Proofs.YtkefbmbjkijilaaGreatDoor
/- Wj -/
set_option linter.unusedVariables false
namespace Go.Proofs.YtkefbmbjkijilaaGreatDoor
open Go.RowKit

theorem Own.low {w w1 w2 : World} {g B : Nat} {cs : Array Value} (h : Own w w1 g cs) (hb : Below B w1 w2) (h0 : w.heap.size ≤ B) (hg : g < B) : Own w w2 g cs :=
  ⟨h.K.trans (hb.mono h0), Nat.lt_of_lt_of_le h.z hb.size, fun o => (hb.cell (p := ⟨g, o, none⟩) hg).trans (h.C o), fun o => (hb.frozen (p := ⟨g, o, none⟩) hg).trans (h.F o)⟩
theorem Two.low {w w1 w2 : World} {B : Nat} {cs os : Array Value} (h : Two w w1 cs os) (hb : Below B w1 w2) (hB : w.heap.size + 2 ≤ B) : Two w w2 cs os := ⟨h.A.low hb (by omega) (by omega), h.O.low hb (by omega) (by omega)⟩
theorem SlV.one_cell_recs (l : List RecD) : ∀ u ∈ recVs l, u.oneCell' = true := by
  intro u hu
  simp only [recVs, List.mem_map] at hu
  obtain ⟨x, -, rfl⟩ := hu
  rfl
theorem recVs_len (l : List RecD) : (recVs l).length = l.length * 3 := by simp [recVs, flat_length]
theorem recVs_append (l m : List RecD) : recVs (l ++ m) = recVs l ++ recVs m := by simp [recVs, flat_append]
/-- Records appended to a list of one's own. -/
theorem append_recs {w : World} {ops : Array Oper} {rest : List Oper} {o : Oper} {a : Act} {Q : Exit → Act → World → Prop} {B B2 m c : Nat} {v : Value} {l l2 : List RecD} {A : Option Addr} (s x : Operand) (hgd : o.guard = none)
    (ho : o.op = .call { callee := .builtin .append, args := #[s, x], argTypes := #[93, 93] }) (hs : a.eval s = v) (O : OR w B v l) (hx : a.eval x = .slice A m c) (hr : A = none → c = 0) (R : SlV w B2 3 A m (recVs l2)) (hlen : l.length + l2.length ≤ 1000000) (hB : B ≤ w.heap.size)
    (h : ∀ v' w', OR w' B v' (l ++ l2) → Below B w w' → Keeps (fun b => v.ownBlock = some b) w w' → wpList Tryz.prog ops Q rest (a.put o.dst v') w') : wpList Tryz.prog ops Q (o :: rest) a w := by
  obtain ⟨i0, hi, hz0, hz1, hz2⟩ := info_parts info_rec
  have hm : l2.length = m := by have := R.len; rw [recVs_len] at this; omega
  refine wpList_append_slv hgd s x 93 96 i0 (.agg #[.int .i64 0, .int .i64 0, .int .i64 0]) 3 24 ho Tryz.underlying93 hi hz0 hz1 hz2 rfl (by decide) (by decide) B v l.length (recVs l) hs O A m c (recVs l2) hx hr R (SlV.one_cell_recs l2) (by omega) hB ?_
  intro v' w' hown hg
  refine h v' w' ?_ ((Below.refl _ _).grown hg hB fun r hr => (O.lt hr).1) ⟨hg.os, hg.tape, hg.output, hg.size, fun b hb hn => hg.block b hb fun e => hn e.symm⟩
  unfold OR
  rw [List.length_append, recVs_append, hm]
  exact hown
/-- One record, just built, appended. -/
theorem append_rec {w : World} {ops : Array Oper} {rest : List Oper} {o : Oper} {a : Act} {Q : Exit → Act → World → Prop} {B g : Nat} {v : Value} {l : List RecD} (rk ra rb : Int) (s x : Operand) (hgd : o.guard = none)
    (ho : o.op = .call { callee := .builtin .append, args := #[s, x], argTypes := #[93, 93] }) (hs : a.eval s = v) (O : OR w B v l) (hg : w.heap.size = g) (hx : a.eval x = .slice (some ⟨g, 0, none⟩) 1 1) (hlen : l.length + 1 ≤ 1000000) (hB : B ≤ w.heap.size)
    (h : ∀ v' w', OR w' B v' (l ++ [⟨rk, ra, rb⟩]) → Below B w w' → Keeps (fun b => v.ownBlock = some b) w w' → wpList Tryz.prog ops Q rest (a.put o.dst v') w') : wpList Tryz.prog ops Q (o :: rest) a (w.alloc (.cells #[.int .i64 rk, .int .i64 ra, .int .i64 rb] 96)) := by
  subst hg
  have hb : Below B w (w.alloc (.cells #[.int .i64 rk, .int .i64 ra, .int .i64 rb] 96)) := (Below.refl _ _).alloc hB _
  refine append_recs (l2 := [⟨rk, ra, rb⟩]) (B2 := w.heap.size + 1) s x hgd ho hs (O.below ((Below.refl _ _).alloc (Nat.le_refl _) _)) hx (fun e => by cases e) ⟨rfl, fun hn => ⟨w.heap.size, 0, rfl, by omega, fun j hj => ?_⟩⟩ hlen (Nat.le_trans hB hb.size) ?_
  · rw [Nat.zero_add, cell_new]
    match j, hj with
    | 0, _ => rfl
    | 1, _ => rfl
    | 2, _ => rfl
  · intro v' w' O' hb' hk'
    exact h v' w' O' (hb.trans hb') ((Keeps.of_below ((Below.refl _ _).alloc (Nat.le_refl _) _)).trans hk')
theorem OR.slv {w : World} {B : Nat} {v : Value} {l : List RecD} (h : OR w B v l) : ∃ A c, v = .slice A l.length c ∧ (A = none → c = 0) ∧ SlV w w.heap.size 3 A l.length (recVs l) := open_rowR h
theorem recs_start (w : World) (cs os : Array Value) (t t' : TypeId) : Two w (((w.alloc (.cells cs t)).alloc (.cells os t')).alloc (.cells #[] 96)) cs os ∧ OR (((w.alloc (.cells cs t)).alloc (.cells os t')).alloc (.cells #[] 96)) (w.heap.size + 2) (.slice (some ⟨w.heap.size + 1 + 1, 0, none⟩) 0 0) [] := by
  have T0 := Two.start w cs os t t'
  have O1 : OR _ (w.heap.size + 2) _ [] := OR.empty (w := (w.alloc (.cells cs t)).alloc (.cells os t')) T0.O.z
  have e : ((w.alloc (.cells cs t)).alloc (.cells os t')).heap.size = w.heap.size + 1 + 1 := by simp
  rw [e] at O1
  exact ⟨T0.step ((Below.refl _ _).alloc (Nat.le_refl _) _), O1⟩

theorem recsOf_next {α : Type} (n : Nat) (g : Nat → Option α) (r : Nat → α → RecD) : recsOf (n + 1) g r = recsOf n g r ++ (match g n with | some x => [r n x] | none => []) := by
  cases h : g n with
  | none => rw [recsOf_none h]; simp
  | some x => rw [recsOf_some h]

def anyUp {α : Type} (l : List α) (p : α → Bool) (z : α) (k : Nat) : Prop := ∀ j, j < k → p (l.getD j z) = false
theorem any_none {α : Type} {l : List α} {p : α → Bool} {z : α} (h : anyUp l p z l.length) : l.any p = false := by
  rw [List.any_eq_false]
  intro x hx
  obtain ⟨j, hj, rfl⟩ := List.mem_iff_getElem.1 hx
  have := h j hj
  rw [List.getD_eq_getElem?_getD, List.getElem?_eq_getElem hj] at this
  simpa using this
theorem any_some {α : Type} {l : List α} {p : α → Bool} {z : α} {j : Nat} (hj : j < l.length) (h : p (l.getD j z) = true) : l.any p = true := by
  rw [List.getD_eq_getElem?_getD, List.getElem?_eq_getElem hj] at h
  exact List.any_eq_true.2 ⟨_, List.getElem_mem hj, by simpa using h⟩
theorem anyUp_next {α : Type} {l : List α} {p : α → Bool} {z : α} {k : Nat} (h : anyUp l p z k) (hk : p (l.getD k z) = false) : anyUp l p z (k + 1) := fun j hj => by
  by_cases e : j = k
  · rw [e]; exact hk
  · exact h j (by omega)
end Go.Proofs.YtkefbmbjkijilaaGreatDoor
