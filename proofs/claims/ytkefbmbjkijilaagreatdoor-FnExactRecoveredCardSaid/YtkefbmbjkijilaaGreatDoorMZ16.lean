/-
  Obeying as data; laws for an agent's twenty cells.
-/
import Derived.Test.YtkefbmbjkijilaaGreatDoorMZ15
import Derived.Test.YtkefbmbjkijilaaGreatDoorMZ7
import Derived.Deep.RegionHeld3
import Derived.Test.YtkefbmbjkijilaaGreatDoorMZ12
import Derived.Test.YtkefbmbjkijilaaGreatDoorMZ13
/- Wn -/
set_option linter.unusedVariables false
namespace Go.Proofs.YtkefbmbjkijilaaGreatDoor
open Go.RowKit

def planD (d : PlanD) (s : StD) (k a b : Int) : List RecD × Int := if k = 11 then tickD d s else if k = 12 then bootD d s a else if k = 13 then probeD d s (a == 1) else commandD d s k a b
def plannedD (d : PlanD) (s : StD) (k a b : Int) : List RecD × Int := if stOkB d s && orderOkB k a b then planD d s k a b else noR 1

end Go.Proofs.YtkefbmbjkijilaaGreatDoor
/- Wo -/
set_option linter.unusedVariables false
namespace Go.Proofs.YtkefbmbjkijilaaGreatDoor
open Go.RowKit

/-- Some records, just built, appended. -/
theorem append_news {w : World} {ops : Array Oper} {rest : List Oper} {o : Oper} {a : Act} {Q : Exit → Act → World → Prop} {B g m : Nat} {v : Value} {l : List RecD} {cs : Array Value} (l2 : List RecD) (s x : Operand) (hgd : o.guard = none)
    (ho : o.op = .call { callee := .builtin .append, args := #[s, x], argTypes := #[93, 93] }) (hs : a.eval s = v) (O : OR w B v l) (hg : w.heap.size = g) (hx : a.eval x = .slice (some ⟨g, 0, none⟩) m m) (hm : l2.length = m) (hcs : cs.toList = recVs l2) (hlen : l.length + m ≤ 1000000) (hB : B ≤ w.heap.size)
    (h : ∀ v' w', OR w' B v' (l ++ l2) → Below B w w' → Keeps (fun b => v.ownBlock = some b) w w' → wpList Tryz.prog ops Q rest (a.put o.dst v') w') : wpList Tryz.prog ops Q (o :: rest) a (w.alloc (.cells cs 96)) := by
  subst hg hm
  have hb : Below B w (w.alloc (.cells cs 96)) := (Below.refl _ _).alloc hB _
  refine append_recs (l2 := l2) (B2 := w.heap.size + 1) s x hgd ho hs (O.below ((Below.refl _ _).alloc (Nat.le_refl _) _)) hx (fun e => by cases e) ⟨recVs_len _, fun hn => ⟨w.heap.size, 0, rfl, by omega, fun j hj => ?_⟩⟩ hlen (Nat.le_trans hB hb.size) ?_
  · rw [Nat.zero_add, cell_new, ← hcs, Array.getElem?_toList]
  · intro v' w' O' hb' hk'
    exact h v' w' O' (hb.trans hb') ((Keeps.of_below ((Below.refl _ _).alloc (Nat.le_refl _) _)).trans hk')
def upTo (n : Nat) (f : Nat → List RecD) : List RecD := (List.range n).flatMap f
theorem upTo_next (n : Nat) (f : Nat → List RecD) : upTo (n + 1) f = upTo n f ++ f n := by
  unfold upTo
  rw [List.range_succ, List.flatMap_append]
  simp
theorem upTo_le {n m : Nat} {f : Nat → List RecD} (h : ∀ i, (f i).length ≤ m) : (upTo n f).length ≤ n * m := by
  induction n with
  | zero => simp [upTo]
  | succ n ih =>
    rw [upTo_next, List.length_append, Nat.succ_mul]
    have := h n
    omega
def snapP (s : StD) (i : Nat) : List RecD := if (podA s.pods i).1 = 0 ∧ (podA s.pods i).2 = 0 then [] else [⟨8, (podA s.pods i).2, 0⟩, ⟨2, i, (podA s.pods i).1⟩]
def snapM (s : StD) (i : Nat) : List RecD := (if (mntA s.mnts i).1 then [] else [⟨4, i, 0⟩]) ++ (if (mntA s.mnts i).2 = 0 then [] else [⟨3, i, (mntA s.mnts i).2⟩])
def snapV (s : StD) (i : Nat) : List RecD := if devA s.devs i then [] else [⟨5, i, 0⟩]
def snapA (s : StD) : List RecD := if s.ph = 0 then [] else [⟨1, s.ph, 0⟩]
def snapB (s : StD) : List RecD := if s.bo = 0 then [] else [⟨10, s.bo, 0⟩]
theorem snapA_le (s : StD) : (snapA s).length ≤ 1 := by unfold snapA; split <;> simp
theorem snapB_le (s : StD) : (snapB s).length ≤ 1 := by unfold snapB; split <;> simp
/-- Chapter 14: the records that make a state. -/
def snapL (s : StD) : List RecD :=
  (snapA s ++ snapB s) ++ (upTo s.pods.length (snapP s) ++ ([⟨8, s.ck, 0⟩] ++ (upTo s.mnts.length (snapM s) ++ (upTo s.devs.length (snapV s) ++
    (s.lks.map (fun x => (⟨6, x, 0⟩ : RecD)) ++ [⟨9, s.ba, 0⟩, ⟨11, s.lb, 0⟩, ⟨12, s.gd, s.pr⟩])))))
theorem snapP_le (s : StD) (i : Nat) : (snapP s i).length ≤ 2 := by unfold snapP; split <;> simp
theorem snapM_le (s : StD) (i : Nat) : (snapM s i).length ≤ 2 := by
  unfold snapM
  rw [List.length_append]
  have h1 : (if (mntA s.mnts i).1 then ([] : List RecD) else [⟨4, i, 0⟩]).length ≤ 1 := by split <;> simp
  have h2 : (if (mntA s.mnts i).2 = 0 then ([] : List RecD) else [⟨3, i, (mntA s.mnts i).2⟩]).length ≤ 1 := by split <;> simp
  omega
theorem snapV_le (s : StD) (i : Nat) : (snapV s i).length ≤ 1 := by unfold snapV; split <;> simp
end Go.Proofs.YtkefbmbjkijilaaGreatDoor
/- Tj -/
set_option linter.unusedVariables false
namespace Go.Proofs.YtkefbmbjkijilaaGreatDoor
open Go.RowKit

end Go.Proofs.YtkefbmbjkijilaaGreatDoor
/- Zg -/
set_option linter.unusedVariables false
namespace Go.Proofs.YtkefbmbjkijilaaGreatDoor
open Go.RowKit

/-- What an agent's store is then, and where the last frame begins. -/
def writeD (s : StD) (st : List Nat) (l : List RecD) : Option (List Nat × Nat) :=
  if writeB l then
    (if st.length + (framedD l).length ≤ 1200 then some (st ++ framedD l, st.length)
     else if (framedD (snapL s)).length + (framedD l).length ≤ 1200 then some (framedD (snapL s) ++ framedD l, (framedD (snapL s)).length) else none)
  else none
theorem writeD_len {s : StD} {st : List Nat} {l : List RecD} {x : List Nat × Nat} (h : writeD s st l = some x) : x.1.length ≤ 1200 := by
  unfold writeD at h
  split at h
  · split at h
    · cases h
      simp only [List.length_append]
      omega
    · split at h
      · cases h
        simp only [List.length_append]
        omega
      · cases h
  · cases h
/-- Behind l15Write. -/
def Written (w : World) (a : Option (List Nat × Nat)) (e : Ending) (w' : World) : Prop :=
  Below w.heap.size w w' ∧ match a with
    | some (x, k) => ∃ v, e = .returned (.tuple #[v, .int .i64 k, .bool true]) ∧ OB w' w.heap.size v x
    | none => ∃ v, e = .returned (.tuple #[v, .int .i64 0, .bool false])
theorem Written.yes {w w' : World} {x : List Nat} {k : Nat} {v : Value} (hb : Below w.heap.size w w') (h : OB w' w.heap.size v x) : Written w (some (x, k)) (.returned (.tuple #[v, .int .i64 k, .bool true])) w' := ⟨hb, v, rfl, h⟩
theorem Written.no {w w' : World} {v : Value} (hb : Below w.heap.size w w') : Written w none (.returned (.tuple #[v, .int .i64 0, .bool false])) w' := ⟨hb, v, rfl⟩
end Go.Proofs.YtkefbmbjkijilaaGreatDoor
/- Zh -/
set_option linter.unusedVariables false
namespace Go.Proofs.YtkefbmbjkijilaaGreatDoor
open Go.RowKit

theorem framedD_le2 (l : List RecD) : (framedD l).length ≤ 727 := by
  unfold framedD
  split
  · rw [frameN_length]
    have := wroteN_len l
    omega
  · simp

end Go.Proofs.YtkefbmbjkijilaaGreatDoor
/- Zi -/
set_option linter.unusedVariables false
namespace Go.Proofs.YtkefbmbjkijilaaGreatDoor
open Go.RowKit

/-- Chapter 15: what an agent makes of an order, of a right state. -/
def obeyD (d : PlanD) (s : StD) (st : List Nat) (k a b : Int) : (StD × List Nat) × Int :=
  if (plannedD d s k a b).2 = 0 then
    (match writeD s st (plannedD d s k a b).1 with
     | some x => (((allS d s (plannedD d s k a b).1).1, x.1), 0)
     | none => ((s, st), 8))
  else ((s, st), (plannedD d s k a b).2)
theorem st_small {d : PlanD} {t : StD} (h : StOk d t) : t.pods.length ≤ 12 ∧ t.mnts.length ≤ 12 ∧ t.devs.length ≤ 12 ∧ t.lks.length ≤ 12 := by
  have hp := h.plan
  have h1 := h.np
  have h2 := h.nm
  have h3 := h.nd
  simp only [planOkB, sizesB, Bool.and_eq_true, decide_eq_true_eq] at hp
  have h4 : t.lks.length ≤ 8 := by
    have hr := h.rise
    have hl := h.lks
    have := rise_len (a := 0) hr hl (by omega)
    omega
  omega
theorem load_agent {ops : Array Oper} {rest : List Oper} {dst : Option Tmp} {ty : TypeId} {pos : String} {after : Array Edge} {a : Act} {w : World} {Q : Exit → Act → World → Prop} {g x : Nat} {cs : Array Value}
    (hx : a.eval (.tmp x) = .pointer (some ⟨g, 0, none⟩)) (hg : w.heap[g]? = some (.cells cs 48)) (hi : (Tryz.prog.info? 48).map (·.size) = some cs.size)
    (h : wpList Tryz.prog ops Q rest (a.put dst (.agg cs)) w) : wpList Tryz.prog ops Q (Oper.mk dst (.load 48 (.tmp x)) ty pos after none :: rest) a w :=
  wpList_load_row rfl 48 (.tmp x) rfl g hx _ cs _ _ hg Tryz.underlying48 rfl hi h
theorem store_agent {ops : Array Oper} {rest : List Oper} {dst : Option Tmp} {ty : TypeId} {pos : String} {after : Array Edge} {a : Act} {w : World} {Q : Exit → Act → World → Prop} {g x y : Nat} {cs old : Array Value}
    (hx : a.eval (.tmp x) = .pointer (some ⟨g, 0, none⟩)) (hy : a.eval (.tmp y) = .agg cs) (hg : w.heap[g]? = some (.cells old 48)) (hi : (Tryz.prog.info? 48).map (·.size) = some cs.size) (hold : old.size = cs.size) (h1 : cs.all (·.oneCell') = true)
    (h : wpList Tryz.prog ops Q rest (a.put dst undef) (w.setRow g cs)) : wpList Tryz.prog ops Q (Oper.mk dst (.store 48 (.tmp x) (.tmp y)) ty pos after none :: rest) a w :=
  wpList_store_row rfl 48 (.tmp x) (.tmp y) rfl g cs hx hy 48 old hg hi hold h1 h
theorem Own.setRow {w W : World} {g T : Nat} {cs old : Array Value} (h : Own w W g old) (hh : W.heap[g]? = some (.cells old T (0, 0))) (hg : w.heap.size ≤ g) : Own w (W.setRow g cs) g cs :=
  ⟨below_setRow h.K hg _, by rw [size_setRow]; exact h.z, fun o => cell_of_row _ _ _ _ _ _ (setRow_heap W g _ cs _ _ hh), fun o => frozen_of_row _ _ _ _ _ (setRow_heap W g _ cs _ _ hh)⟩
theorem Own.farKeeps {w w1 w2 : World} {g h : Nat} {cs : Array Value} (H : Own w w1 g cs) (k : Keeps (· = h) w1 w2) (h0 : w.heap.size ≤ h) (hn : g ≠ h) : Own w w2 g cs := H.keeps k (fun b hb => by omega) (fun e => hn e)
section
variable (W : World) (g : Nat) (y0 y1 y2 y3 y4 y5 y6 y7 y8 y9 y10 y11 : Value)
/-- The world with an agent's state set. -/
abbrev put7 : World := (((((((((((W.setCell ⟨g, 7, none⟩ y0).setCell ⟨g, 8, none⟩ y1).setCell ⟨g, 9, none⟩ y2).setCell ⟨g, 10, none⟩ y3).setCell ⟨g, 11, none⟩ y4).setCell ⟨g, 12, none⟩ y5).setCell ⟨g, 13, none⟩ y6).setCell ⟨g, 14, none⟩ y7).setCell ⟨g, 15, none⟩ y8).setCell ⟨g, 16, none⟩ y9).setCell ⟨g, 17, none⟩ y10).setCell ⟨g, 18, none⟩ y11
theorem keeps_put7 : Keeps (· = g) W (put7 W g y0 y1 y2 y3 y4 y5 y6 y7 y8 y9 y10 y11) := by
  unfold put7
  iterate 12 (refine Keeps.set (S := (· = g)) ?_ rfl _)
  exact Keeps.refl _ _
end
theorem heap_put7 {W : World} {g T : Nat} {x0 x1 x2 x3 x4 x5 x6 x7 x8 x9 x10 x11 x12 x13 x14 x15 x16 x17 x18 x19 y0 y1 y2 y3 y4 y5 y6 y7 y8 y9 y10 y11 : Value} (h : W.heap[g]? = some (.cells #[x0, x1, x2, x3, x4, x5, x6, x7, x8, x9, x10, x11, x12, x13, x14, x15, x16, x17, x18, x19] T (0, 0))) : (put7 W g y0 y1 y2 y3 y4 y5 y6 y7 y8 y9 y10 y11).heap[g]? = some (.cells #[x0, x1, x2, x3, x4, x5, x6, y0, y1, y2, y3, y4, y5, y6, y7, y8, y9, y10, y11, x19] T (0, 0)) := by
  unfold put7
  have h0 := heap_setCell_same W g 7 _ _ y0 h
  have h1 := heap_setCell_same (W.setCell ⟨g, 7, none⟩ y0) g 8 _ _ y1 h0
  have h2 := heap_setCell_same ((W.setCell ⟨g, 7, none⟩ y0).setCell ⟨g, 8, none⟩ y1) g 9 _ _ y2 h1
  have h3 := heap_setCell_same (((W.setCell ⟨g, 7, none⟩ y0).setCell ⟨g, 8, none⟩ y1).setCell ⟨g, 9, none⟩ y2) g 10 _ _ y3 h2
  have h4 := heap_setCell_same ((((W.setCell ⟨g, 7, none⟩ y0).setCell ⟨g, 8, none⟩ y1).setCell ⟨g, 9, none⟩ y2).setCell ⟨g, 10, none⟩ y3) g 11 _ _ y4 h3
  have h5 := heap_setCell_same (((((W.setCell ⟨g, 7, none⟩ y0).setCell ⟨g, 8, none⟩ y1).setCell ⟨g, 9, none⟩ y2).setCell ⟨g, 10, none⟩ y3).setCell ⟨g, 11, none⟩ y4) g 12 _ _ y5 h4
  have h6 := heap_setCell_same ((((((W.setCell ⟨g, 7, none⟩ y0).setCell ⟨g, 8, none⟩ y1).setCell ⟨g, 9, none⟩ y2).setCell ⟨g, 10, none⟩ y3).setCell ⟨g, 11, none⟩ y4).setCell ⟨g, 12, none⟩ y5) g 13 _ _ y6 h5
  have h7 := heap_setCell_same (((((((W.setCell ⟨g, 7, none⟩ y0).setCell ⟨g, 8, none⟩ y1).setCell ⟨g, 9, none⟩ y2).setCell ⟨g, 10, none⟩ y3).setCell ⟨g, 11, none⟩ y4).setCell ⟨g, 12, none⟩ y5).setCell ⟨g, 13, none⟩ y6) g 14 _ _ y7 h6
  have h8 := heap_setCell_same ((((((((W.setCell ⟨g, 7, none⟩ y0).setCell ⟨g, 8, none⟩ y1).setCell ⟨g, 9, none⟩ y2).setCell ⟨g, 10, none⟩ y3).setCell ⟨g, 11, none⟩ y4).setCell ⟨g, 12, none⟩ y5).setCell ⟨g, 13, none⟩ y6).setCell ⟨g, 14, none⟩ y7) g 15 _ _ y8 h7
  have h9 := heap_setCell_same (((((((((W.setCell ⟨g, 7, none⟩ y0).setCell ⟨g, 8, none⟩ y1).setCell ⟨g, 9, none⟩ y2).setCell ⟨g, 10, none⟩ y3).setCell ⟨g, 11, none⟩ y4).setCell ⟨g, 12, none⟩ y5).setCell ⟨g, 13, none⟩ y6).setCell ⟨g, 14, none⟩ y7).setCell ⟨g, 15, none⟩ y8) g 16 _ _ y9 h8
  have h10 := heap_setCell_same ((((((((((W.setCell ⟨g, 7, none⟩ y0).setCell ⟨g, 8, none⟩ y1).setCell ⟨g, 9, none⟩ y2).setCell ⟨g, 10, none⟩ y3).setCell ⟨g, 11, none⟩ y4).setCell ⟨g, 12, none⟩ y5).setCell ⟨g, 13, none⟩ y6).setCell ⟨g, 14, none⟩ y7).setCell ⟨g, 15, none⟩ y8).setCell ⟨g, 16, none⟩ y9) g 17 _ _ y10 h9
  have h11 := heap_setCell_same (((((((((((W.setCell ⟨g, 7, none⟩ y0).setCell ⟨g, 8, none⟩ y1).setCell ⟨g, 9, none⟩ y2).setCell ⟨g, 10, none⟩ y3).setCell ⟨g, 11, none⟩ y4).setCell ⟨g, 12, none⟩ y5).setCell ⟨g, 13, none⟩ y6).setCell ⟨g, 14, none⟩ y7).setCell ⟨g, 15, none⟩ y8).setCell ⟨g, 16, none⟩ y9).setCell ⟨g, 17, none⟩ y10) g 18 _ _ y11 h10
  simp only [List.setIfInBounds_toArray, List.set_cons_zero, List.set_cons_succ] at h11
  exact h11
end Go.Proofs.YtkefbmbjkijilaaGreatDoor
