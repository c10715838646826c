/-
  The model's l6Without and l6With.
-/
import Derived.Test.YtkefbmbjkijilaaGreatDoorMZ2
import Derived.Test.YtkefbmbjkijilaaGreatDoorMZ0
import Derived.BigQuiet
import Derived.Deep.QuietTactic
import Derived.StillTailTactics
import Derived.Deep.RegionHeld3
import Derived.Laws.AppendOwnNone
import Derived.Deep.AppendLies
import Derived.OwnWalk
/- Te -/
set_option linter.unusedVariables false
namespace Go.Proofs.YtkefbmbjkijilaaGreatDoor
open Go.RowKit

section
variable {d : PlanD} {s : StD}
end

end Go.Proofs.YtkefbmbjkijilaaGreatDoor
/- Tf -/
set_option linter.unusedVariables false
namespace Go.Proofs.YtkefbmbjkijilaaGreatDoor
open Go.RowKit

/-- Ahead of the shutting: who is alive runs. -/
structure Before (d : PlanD) (s : StD) : Prop where
  ok : StOk d s
  since : ∀ i, i < d.n0 → (podAt s i).2 ≤ s.ck
  runs : ∀ i, i < d.n0 → aliveB (podAt s i).1 = true → (podAt s i).1 = 0
  holds : HoldsP d s
def shutS (d : PlanD) (s : StD) : StD := { s with lb := min (s.ck + d.l) 1000000, ba := nextB d (-1), ph := 3, co := true }
/-- A state in which one pod is in another state, since now. -/
def podS (s : StD) (i : Nat) (st : Int) : StD := { s with pods := s.pods.set i (st, s.ck) }
end Go.Proofs.YtkefbmbjkijilaaGreatDoor
/- Tg -/
set_option linter.unusedVariables false
namespace Go.Proofs.YtkefbmbjkijilaaGreatDoor
open Go.RowKit

/-- Chapter 8, of a right state. -/
def healthyN (d : PlanD) (s : StD) (g : Int) : Int := ((List.range d.n0).countP fun i => decide (d.x0 (i * 4) = g) && decide ((podAt s i).1 = 0) : Nat)
def mayEvictB (d : PlanD) (s : StD) (i : Int) : Bool :=
  decide (s.ph = 2) && inB i 0 (d.n0 - 1) && decide ((podAt s i.toNat).1 = 0) && decide (d.x1 (d.x0 (i.toNat * 4)).toNat < healthyN d s (d.x0 (i.toNat * 4)))

/-- Chapter 10, of a right state: the records and the code. -/
def noR (c : Int) : List RecD × Int := ([], c)
def oneR (k a b : Int) : List RecD × Int := ([⟨k, a, b⟩], 0)
def phaseD (s : StD) (f t : Int) : List RecD × Int := if s.ph = f then oneR 1 t 0 else noR 3
def evictD (d : PlanD) (s : StD) (a : Int) : List RecD × Int :=
  if inB a 0 (d.n0 - 1) = false then noR 2 else if s.ph ≠ 2 then noR 3 else if (podAt s a.toNat).1 ≠ 0 then noR 4 else if mayEvictB d s a = false then noR 5 else oneR 2 a 6
def shutD (d : PlanD) (s : StD) : List RecD × Int :=
  if s.ph = 1 ∨ s.ph = 2 then ([⟨11, min (s.ck + d.l) 1000000, 0⟩, ⟨9, nextB d (-1), 0⟩, ⟨1, 3, 0⟩], 0) else noR 3
def cancelD (s : StD) : List RecD × Int := if s.ph = 2 then oneR 1 0 0 else phaseD s 1 0
def lockD (s : StD) (a : Int) : List RecD × Int := if inB a 0 7 = false then noR 2 else if 3 ≤ s.ph then noR 3 else if s.lks.contains a then noR 4 else oneR 6 a 0
def unlockD (s : StD) (a : Int) : List RecD × Int := if inB a 0 7 = false then noR 2 else if s.lks.contains a = false then noR 4 else oneR 7 a 0
def toldD (d : PlanD) (s : StD) (f : Int → Int) (a : Int) : List RecD × Int := if inB a 0 (d.n0 - 1) = false then noR 2 else if f (podAt s a.toNat).1 < 0 then noR 4 else oneR 2 a (f (podAt s a.toNat).1)
def busyD (d : PlanD) (s : StD) (a b : Int) : List RecD × Int :=
  if inB a 0 (d.n2 - 1) = false then noR 2 else if inB b 1 5 = false then noR 1 else if 4 ≤ s.ph then noR 3 else if (mntAt s a.toNat).1 = false ∨ (mntAt s a.toNat).2 ≠ 0 then noR 4 else oneR 3 a b
def commandD (d : PlanD) (s : StD) (k a b : Int) : List RecD × Int :=
  if k = 1 then phaseD s 0 1 else if k = 2 then phaseD s 1 2 else if k = 3 then evictD d s a else if k = 4 then shutD d s else if k = 5 then cancelD s else if k = 6 then lockD s a else if k = 7 then unlockD s a
  else if k = 8 then toldD d s afterHook a else if k = 9 then toldD d s afterExit a else if k = 10 then busyD d s a b else noR 1

end Go.Proofs.YtkefbmbjkijilaaGreatDoor
/- Th -/
set_option linter.unusedVariables false
namespace Go.Proofs.YtkefbmbjkijilaaGreatDoor
open Go.RowKit

/-- Which command it was, and what came of it. -/
inductive Came (d : PlanD) (s : StD) : StD → Prop
  | cordon (h : s.ph = 0) : Came d s (applyR s ⟨1, 1, 0⟩)
  | drain (h : s.ph = 1) : Came d s (applyR s ⟨1, 2, 0⟩)
  | evict (i : Nat) (hi : i < d.n0) (h : s.ph = 2) (hr : (podAt s i).1 = 0) (hm : mayEvictB d s i = true) : Came d s (podS s i 6)
  | shut (h : s.ph = 1 ∨ s.ph = 2) : Came d s (shutS d s)
  | cancel (h : s.ph = 1 ∨ s.ph = 2) : Came d s (applyR s ⟨1, 0, 0⟩)
  | lock (a : Int) (h : s.ph < 3) : Came d s (applyR s ⟨6, a, 0⟩)
  | unlock (a : Int) : Came d s (applyR s ⟨7, a, 0⟩)
  | hook (i : Nat) (hi : i < d.n0) (h : (podAt s i).1 = 1) : Came d s (podS s i 2)
  | exit (i : Nat) (hi : i < d.n0) (st : Int) (h : (podAt s i).1 = 0 ∨ (podAt s i).1 = 1 ∨ (podAt s i).1 = 2 ∨ (podAt s i).1 = 3) (hs : st = 4 ∨ st = 5) : Came d s (podS s i st)
  | busy (i : Nat) (hi : i < d.n2) (b : Int) (hb : 1 ≤ b ∧ b ≤ 5) (h : s.ph < 4) (hh : (mntAt s i).1 = true) : Came d s (applyR s ⟨3, i, b⟩)
end Go.Proofs.YtkefbmbjkijilaaGreatDoor
/- Ti -/
set_option linter.unusedVariables false
namespace Go.Proofs.YtkefbmbjkijilaaGreatDoor
open Go.RowKit

def failG (s : StD) (i : Nat) : Option Int := if aliveB (podAt s i).1 then some 5 else none
def looseG (s : StD) (i : Nat) : Option (Bool × Int) := if (mntAt s i).1 then some (false, 0) else none
def emptyG (s : StD) (i : Nat) : Option Unit := if devAt s i then some () else none
def bootL (d : PlanD) (s : StD) (id : Int) : List RecD :=
  ⟨10, id, 0⟩ :: (recsOf d.n0 (failG s) (fun i x => ⟨2, i, x⟩) ++ (recsOf d.n2 (looseG s) mntRec ++ (recsOf d.n3 (emptyG s) (fun i _ => ⟨5, i, 0⟩) ++
    (s.lks.map (fun x => ⟨7, x, 0⟩) ++ ⟨12, 0, 0⟩ :: (if s.ph = 8 then [] else [⟨1, 6, 0⟩])))))
/-- A probe. -/
def probeN (s : StD) (good : Bool) : Int := if good then s.gd + 1 else 0
def probeL (d : PlanD) (s : StD) (good : Bool) : List RecD :=
  ⟨12, probeN s good, s.pr + 1⟩ :: (if d.p ≤ probeN s good then [⟨1, 0, 0⟩] else if d.t ≤ s.pr + 1 then [⟨1, 8, 0⟩] else if s.ph = 6 then [⟨1, 7, 0⟩] else [])
end Go.Proofs.YtkefbmbjkijilaaGreatDoor
/- Ua -/
set_option linter.unusedVariables false
namespace Go.Proofs.YtkefbmbjkijilaaGreatDoor
open Go.RowKit

def podCs : List (Int × Int) → List Value
  | [] => []
  | q :: l => .int .i64 q.1 :: .int .i64 q.2 :: podCs l
def mntCs : List (Bool × Int) → List Value
  | [] => []
  | q :: l => .bool q.1 :: .int .i64 q.2 :: mntCs l
def devCs (l : List Bool) : List Value := l.map Value.bool
def lkCs (l : List Int) : List Value := l.map (Value.int .i64)
theorem podCs_len (l : List (Int × Int)) : (podCs l).length = l.length * 2 := by
  induction l with
  | nil => rfl
  | cons q l ih => simp only [podCs, List.length_cons, ih]; omega
theorem mntCs_len (l : List (Bool × Int)) : (mntCs l).length = l.length * 2 := by
  induction l with
  | nil => rfl
  | cons q l ih => simp only [mntCs, List.length_cons, ih]; omega
theorem devCs_len (l : List Bool) : (devCs l).length = l.length * 1 := by simp [devCs]
theorem lkCs_len (l : List Int) : (lkCs l).length = l.length * 1 := by simp [lkCs]
def podA (l : List (Int × Int)) (i : Nat) : Int × Int := l.getD i (0, 0)
def mntA (l : List (Bool × Int)) (i : Nat) : Bool × Int := l.getD i (false, 0)
def devA (l : List Bool) (i : Nat) : Bool := l.getD i false
def lkA (l : List Int) (i : Nat) : Int := l.getD i 0
theorem podCs_at (l : List (Int × Int)) {i : Nat} (hi : i < l.length) : (podCs l)[i * 2]? = some (.int .i64 (podA l i).1) ∧ (podCs l)[i * 2 + 1]? = some (.int .i64 (podA l i).2) := by
  induction l generalizing i with
  | nil => exact absurd hi (Nat.not_lt_zero _)
  | cons q l ih =>
    cases i with
    | zero => exact ⟨rfl, rfl⟩
    | succ i =>
      have := ih (i := i) (by simpa using hi)
      rw [show (i + 1) * 2 = i * 2 + 1 + 1 by omega]
      simpa [podCs, podA] using this
theorem mntCs_at (l : List (Bool × Int)) {i : Nat} (hi : i < l.length) : (mntCs l)[i * 2]? = some (.bool (mntA l i).1) ∧ (mntCs l)[i * 2 + 1]? = some (.int .i64 (mntA l i).2) := by
  induction l generalizing i with
  | nil => exact absurd hi (Nat.not_lt_zero _)
  | cons q l ih =>
    cases i with
    | zero => exact ⟨rfl, rfl⟩
    | succ i =>
      have := ih (i := i) (by simpa using hi)
      rw [show (i + 1) * 2 = i * 2 + 1 + 1 by omega]
      simpa [mntCs, mntA] using this
theorem devCs_at (l : List Bool) {i : Nat} (hi : i < l.length) : (devCs l)[i]? = some (.bool (devA l i)) := by simp [devCs, devA, List.getD, hi]
theorem lkCs_at (l : List Int) {i : Nat} (hi : i < l.length) : (lkCs l)[i]? = some (.int .i64 (lkA l i)) := by simp [lkCs, lkA, List.getD, hi]
theorem podCs_set (l : List (Int × Int)) {i : Nat} (hi : i < l.length) (q : Int × Int) : podCs (l.set i q) = ((podCs l).set (i * 2) (.int .i64 q.1)).set (i * 2 + 1) (.int .i64 q.2) := by
  induction l generalizing i with
  | nil => exact absurd hi (Nat.not_lt_zero _)
  | cons r l ih =>
    cases i with
    | zero => rfl
    | succ i =>
      rw [show (i + 1) * 2 = i * 2 + 1 + 1 by omega]
      simp only [List.set_cons_succ, podCs]
      rw [ih (by simpa using hi)]
theorem mntCs_set (l : List (Bool × Int)) {i : Nat} (hi : i < l.length) (q : Bool × Int) : mntCs (l.set i q) = ((mntCs l).set (i * 2) (.bool q.1)).set (i * 2 + 1) (.int .i64 q.2) := by
  induction l generalizing i with
  | nil => exact absurd hi (Nat.not_lt_zero _)
  | cons r l ih =>
    cases i with
    | zero => rfl
    | succ i =>
      rw [show (i + 1) * 2 = i * 2 + 1 + 1 by omega]
      simp only [List.set_cons_succ, mntCs]
      rw [ih (by simpa using hi)]
theorem devCs_set (l : List Bool) (i : Nat) (q : Bool) : devCs (l.set i q) = (devCs l).set i (.bool q) := by unfold devCs; rw [List.map_set]

/-- The cells of a state. -/
abbrev stC (A0 A1 A2 A3 : Option Addr) (n0 c0 n1 c1 n2 c2 n3 c3 : Nat) (ph : Int) (co : Bool) (ck bo ba lb gd pr : Int) : Array Value :=
  #[.int .i64 ph, .bool co, .int .i64 ck, .int .i64 bo, .int .i64 ba, .int .i64 lb, .slice A0 n0 c0, .slice A1 n1 c1, .slice A2 n2 c2, .slice A3 n3 c3, .int .i64 gd, .int .i64 pr]
/-- A state that can be read below block B. -/
structure IsSt (w : World) (B : Nat) (v : Value) (s : StD) : Prop where
  it : ∃ A0 A1 A2 A3 c0 c1 c2 c3, v = .agg (stC A0 A1 A2 A3 s.pods.length c0 s.mnts.length c1 s.devs.length c2 s.lks.length c3 s.ph s.co s.ck s.bo s.ba s.lb s.gd s.pr) ∧
    SlV w B 2 A0 s.pods.length (podCs s.pods) ∧ SlV w B 2 A1 s.mnts.length (mntCs s.mnts) ∧ SlV w B 1 A2 s.devs.length (devCs s.devs) ∧ SlV w B 1 A3 s.lks.length (lkCs s.lks)
  b0 : s.pods.length ≤ maxLen
  b1 : s.mnts.length ≤ maxLen
  b2 : s.devs.length ≤ maxLen
  b3 : s.lks.length ≤ maxLen
theorem IsSt.below {w w' : World} {B B' : Nat} {v : Value} {s : StD} (h : IsSt w B v s) (hb : Below B' w w') (hB : B ≤ B') : IsSt w' B v s := by
  obtain ⟨⟨A0, A1, A2, A3, c0, c1, c2, c3, hv, h0, h1, h2, h3⟩, b0, b1, b2, b3⟩ := h
  exact ⟨⟨A0, A1, A2, A3, c0, c1, c2, c3, hv, h0.below hb hB, h1.below hb hB, h2.below hb hB, h3.below hb hB⟩, b0, b1, b2, b3⟩
theorem IsSt.more {w : World} {B B' : Nat} {v : Value} {s : StD} (h : IsSt w B v s) (hB : B ≤ B') : IsSt w B' v s := by
  obtain ⟨⟨A0, A1, A2, A3, c0, c1, c2, c3, hv, h0, h1, h2, h3⟩, b0, b1, b2, b3⟩ := h
  exact ⟨⟨A0, A1, A2, A3, c0, c1, c2, c3, hv, h0.more hB, h1.more hB, h2.more hB, h3.more hB⟩, b0, b1, b2, b3⟩
theorem IsSt.go {w w' : World} {v : Value} {s : StD} (h : IsSt w w.heap.size v s) (hb : Below w.heap.size w w') : IsSt w' w'.heap.size v s := (h.below hb (Nat.le_refl _)).more hb.size
/-- A state of the call's own: each list in a block of its own, from block B on. -/
structure OwnSt (w : World) (B : Nat) (v : Value) (s : StD) : Prop where
  it : ∃ v0 v1 v2 v3, v = .agg #[.int .i64 s.ph, .bool s.co, .int .i64 s.ck, .int .i64 s.bo, .int .i64 s.ba, .int .i64 s.lb, v0, v1, v2, v3, .int .i64 s.gd, .int .i64 s.pr] ∧
    w.ownsRow B 106 2 v0 s.pods.length (podCs s.pods) ∧ w.ownsRow B 108 2 v1 s.mnts.length (mntCs s.mnts) ∧
    w.ownsRow B 4 1 v2 s.devs.length (devCs s.devs) ∧ w.ownsRow B 2 1 v3 s.lks.length (lkCs s.lks)
theorem OwnSt.below {w w' : World} {B : Nat} {v : Value} {s : StD} (h : OwnSt w B v s) (hb : Below w.heap.size w w') : OwnSt w' B v s := by
  obtain ⟨v0, v1, v2, v3, hv, h0, h1, h2, h3⟩ := h.it
  exact ⟨v0, v1, v2, v3, hv, ownsRow_below h0 hb, ownsRow_below h1 hb, ownsRow_below h2 hb, ownsRow_below h3 hb⟩
theorem OwnSt.base {w : World} {B B' : Nat} {v : Value} {s : StD} (h : OwnSt w B v s) (hB : B' ≤ B) : OwnSt w B' v s := by
  obtain ⟨v0, v1, v2, v3, hv, h0, h1, h2, h3⟩ := h.it
  exact ⟨v0, v1, v2, v3, hv, ownsRow_base h0 hB, ownsRow_base h1 hB, ownsRow_base h2 hB, ownsRow_base h3 hB⟩
theorem OwnSt.st {w : World} {B : Nat} {v : Value} {s : StD} (h : OwnSt w B v s) : IsSt w w.heap.size v s := by
  obtain ⟨v0, v1, v2, v3, rfl, h0, h1, h2, h3⟩ := h.it
  obtain ⟨A0, c0, g0, rfl, -, -, -, -, -, s0, b0⟩ := open_row h0
  obtain ⟨A1, c1, g1, rfl, -, -, -, -, -, s1, b1⟩ := open_row h1
  obtain ⟨A2, c2, g2, rfl, -, -, -, -, -, s2, b2⟩ := open_row h2
  obtain ⟨A3, c3, g3, rfl, -, -, -, -, -, s3, b3⟩ := open_row h3
  exact ⟨⟨A0, A1, A2, A3, c0, c1, c2, c3, rfl, s0, s1, s2, s3⟩, b0, b1, b2, b3⟩
theorem OwnSt.zero (w : World) (B : Nat) : OwnSt w B (.agg (stC none none none none 0 0 0 0 0 0 0 0 0 false 0 0 0 0 0 0)) zeroS :=
  ⟨_, _, _, _, rfl, World.ownsRow_nil _ _ _ _, World.ownsRow_nil _ _ _ _, World.ownsRow_nil _ _ _ _, World.ownsRow_nil _ _ _ _⟩
end Go.Proofs.YtkefbmbjkijilaaGreatDoor
/- Ub -/
set_option linter.unusedVariables false
namespace Go.Proofs.YtkefbmbjkijilaaGreatDoor
open Go.RowKit

theorem info_podAt : (Tryz.prog.info? 106).map (fun i => (i.zero, i.size, i.bytes)) = some (some (.agg #[.int .i64 0, .int .i64 0]), 2, 16) := by kernel_rfl
theorem info_mountAt : (Tryz.prog.info? 108).map (fun i => (i.zero, i.size, i.bytes)) = some (some (.agg #[.bool false, .int .i64 0]), 2, 16) := by kernel_rfl
theorem info_bool : (Tryz.prog.info? 4).map (fun i => (i.zero, i.size, i.bytes)) = some (some (.bool false), 1, 1) := by kernel_rfl
theorem info_int : (Tryz.prog.info? 2).map (fun i => (i.zero, i.size, i.bytes)) = some (some (.int .i64 0), 1, 8) := by kernel_rfl

set_option maxHeartbeats 400000 in
theorem toPodAt_any (a b : Int) (w : World) :
    Calls Tryz.prog 112 #[.agg #[.int .i64 a, .int .i64 b]] w fun e w' => e = .returned (.agg #[.int .i64 a, .int .i64 b]) ∧ Below w.heap.size w w' := by
  go_enter Tryz.func112, Tryz.ntmps112
  go_wp2
  exact bodyPost_ret (v := .agg #[.int .i64 a, .int .i64 b]) (by simp [results, Tryz.results112, go_sem]) rfl ⟨rfl, (((Below.refl _ _).alloc (Nat.le_refl _) _).alloc (by simp) _).alloc (by simp; omega) _⟩
set_option maxHeartbeats 400000 in
theorem toMountAt_any (a : Bool) (b : Int) (w : World) :
    Calls Tryz.prog 113 #[.agg #[.bool a, .int .i64 b]] w fun e w' => e = .returned (.agg #[.bool a, .int .i64 b]) ∧ Below w.heap.size w w' := by
  go_enter Tryz.func113, Tryz.ntmps113
  go_wp2
  exact bodyPost_ret (v := .agg #[.bool a, .int .i64 b]) (by simp [results, Tryz.results113, go_sem]) rfl ⟨rfl, (((Below.refl _ _).alloc (Nat.le_refl _) _).alloc (by simp) _).alloc (by simp; omega) _⟩
set_option maxHeartbeats 400000 in
theorem eqPodAt_same (a b : Int) (w : World) :
    Calls Tryz.prog 114 #[.agg #[.int .i64 a, .int .i64 b], .agg #[.int .i64 a, .int .i64 b]] w fun e w' => e = .returned (.bool true) ∧ Below w.heap.size w w' := by
  go_enter Tryz.func114, Tryz.ntmps114
  go_wp2
  go_ret
  exact ⟨rfl, ((Below.refl _ _).alloc (Nat.le_refl _) _).alloc (by simp) _⟩
set_option maxHeartbeats 400000 in
theorem eqMountAt_same (a : Bool) (b : Int) (w : World) :
    Calls Tryz.prog 115 #[.agg #[.bool a, .int .i64 b], .agg #[.bool a, .int .i64 b]] w fun e w' => e = .returned (.bool true) ∧ Below w.heap.size w w' := by
  go_enter Tryz.func115, Tryz.ntmps115
  cases a
  all_goals
    go_wp2
    go_ret
    exact ⟨rfl, ((Below.refl _ _).alloc (Nat.le_refl _) _).alloc (by simp) _⟩

set_option maxHeartbeats 1000000 in
theorem toPodAtS_any (A : Option Addr) (c : Nat) (l : List (Int × Int)) (w : World) (h : SlV w w.heap.size 2 A l.length (podCs l)) (hn : l.length ≤ 1048576) :
    Calls Tryz.prog 70 #[.slice A l.length c] w (MadeV w l.length (podCs l)) := by
  have S := Lib.hid h
  clear h
  obtain ⟨i0, hi, hz0, hz1, hz2⟩ := info_parts info_podAt
  have hcl := podCs_len l
  generalize hq : l.length = n at *
  have HQ := Lib.hid hq
  have HN := Lib.hid hn
  have hn' : n ≤ 2 ^ 63 - 1 := by omega
  have HCL := Lib.hid hcl
  clear hn hq hcl
  go_enter Tryz.func70, Tryz.ntmps70
  go_wp2_with (at_make; refine wpList_make_full _ rfl _ _ 43 rfl w.heap.size 106 i0 (.agg #[.int .i64 0, .int .i64 0]) 2 Tryz.underlying43 hi hz0 hz1 _ _ _ _ n rfl rfl rfl rfl ?b2 ?b3 (Nat.le_refl _) ?_)
  case b2 => have := HN.out; rw [hz2]; omega
  case b3 => have := HN.out; unfold maxLen; omega
  intro w1 hown hgrow
  have X : CopyV w w1 0 (podCs l) := CopyV.start hown hgrow HCL.out
  clear hown hgrow hz0 hz1 hz2 hi
  go_wp2
  go_loopw [4] (fun i wr => ∃ k : Nat, k ≤ n ∧ i = .int .i64 k ∧ CopyV w wr (k * 2) (podCs l)) (fun i _ => n - (intOf i).toNat)
  case atStart => exact ⟨0, Nat.zero_le _, rfl, by simpa using X⟩
  case round =>
    clear X
    obtain ⟨k, hk, rfl, X⟩ := hrel
    by_cases hlt : k < n
    · obtain ⟨b, off, rfl, hb, hc⟩ := ((S.out.below X.K (Nat.le_refl _)).more X.K.size).cell hlt
      have hp := podCs_at l (i := k) (by rw [HQ.out]; exact hlt)
      have q0 := (hc 0 (by decide)).trans hp.1
      have q1 := (hc 1 (by decide)).trans hp.2
      rw [Nat.add_zero] at q0
      have HP := Lib.hid hp
      clear hc hp
      generalize podA l k = r at *
      obtain ⟨x, y⟩ := r
      dsimp only at q0 q1
      go_wp2_with (go_at_call 112; refine (toPodAt_any _ _ _).mono ?_; rintro e w2 ⟨rfl, hb2⟩; have X2 := X.step hb2; obtain ⟨v0, t0, f0⟩ := X2.at_ (j := k * 2) (by rw [HCL.out]; omega); obtain ⟨v1, t1, f1⟩ := X2.at_ (j := k * 2 + 1) (by rw [HCL.out]; omega); clear hb2)
      refine ⟨⟨k + 1, by omega, by go_num, ?_⟩, by simp [intOf]; omega⟩
      have e : (k + 1) * 2 = k * 2 + 1 + 1 := by omega
      rw [e]
      exact (X2.set HP.out.1).set HP.out.2
    · obtain rfl : k = n := by omega
      go_wp2
      go_ret
      exact X.made (by rw [HCL.out]; exact Nat.le_refl _)
set_option maxHeartbeats 1000000 in
theorem toMountAtS_any (A : Option Addr) (c : Nat) (l : List (Bool × Int)) (w : World) (h : SlV w w.heap.size 2 A l.length (mntCs l)) (hn : l.length ≤ 1048576) :
    Calls Tryz.prog 71 #[.slice A l.length c] w (MadeV w l.length (mntCs l)) := by
  have S := Lib.hid h
  clear h
  obtain ⟨i0, hi, hz0, hz1, hz2⟩ := info_parts info_mountAt
  have hcl := mntCs_len l
  generalize hq : l.length = n at *
  have HQ := Lib.hid hq
  have HN := Lib.hid hn
  have hn' : n ≤ 2 ^ 63 - 1 := by omega
  have HCL := Lib.hid hcl
  clear hn hq hcl
  go_enter Tryz.func71, Tryz.ntmps71
  go_wp2_with (at_make; refine wpList_make_full _ rfl _ _ 44 rfl w.heap.size 108 i0 (.agg #[.bool false, .int .i64 0]) 2 Tryz.underlying44 hi hz0 hz1 _ _ _ _ n rfl rfl rfl rfl ?b2 ?b3 (Nat.le_refl _) ?_)
  case b2 => have := HN.out; rw [hz2]; omega
  case b3 => have := HN.out; unfold maxLen; omega
  intro w1 hown hgrow
  have X : CopyV w w1 0 (mntCs l) := CopyV.start hown hgrow HCL.out
  clear hown hgrow hz0 hz1 hz2 hi
  go_wp2
  go_loopw [4] (fun i wr => ∃ k : Nat, k ≤ n ∧ i = .int .i64 k ∧ CopyV w wr (k * 2) (mntCs l)) (fun i _ => n - (intOf i).toNat)
  case atStart => exact ⟨0, Nat.zero_le _, rfl, by simpa using X⟩
  case round =>
    clear X
    obtain ⟨k, hk, rfl, X⟩ := hrel
    by_cases hlt : k < n
    · obtain ⟨b, off, rfl, hb, hc⟩ := ((S.out.below X.K (Nat.le_refl _)).more X.K.size).cell hlt
      have hp := mntCs_at l (i := k) (by rw [HQ.out]; exact hlt)
      have q0 := (hc 0 (by decide)).trans hp.1
      have q1 := (hc 1 (by decide)).trans hp.2
      rw [Nat.add_zero] at q0
      have HP := Lib.hid hp
      clear hc hp
      generalize mntA l k = r at *
      obtain ⟨x, y⟩ := r
      dsimp only at q0 q1
      go_wp2_with (go_at_call 113; refine (toMountAt_any _ _ _).mono ?_; rintro e w2 ⟨rfl, hb2⟩; have X2 := X.step hb2; obtain ⟨v0, t0, f0⟩ := X2.at_ (j := k * 2) (by rw [HCL.out]; omega); obtain ⟨v1, t1, f1⟩ := X2.at_ (j := k * 2 + 1) (by rw [HCL.out]; omega); clear hb2)
      refine ⟨⟨k + 1, by omega, by go_num, ?_⟩, by simp [intOf]; omega⟩
      have e : (k + 1) * 2 = k * 2 + 1 + 1 := by omega
      rw [e]
      exact (X2.set HP.out.1).set HP.out.2
    · obtain rfl : k = n := by omega
      go_wp2
      go_ret
      exact X.made (by rw [HCL.out]; exact Nat.le_refl _)
set_option maxHeartbeats 1000000 in
theorem toBoolS_any (A : Option Addr) (c : Nat) (l : List Bool) (w : World) (h : SlV w w.heap.size 1 A l.length (devCs l)) (hn : l.length ≤ 1048576) :
    Calls Tryz.prog 72 #[.slice A l.length c] w (MadeV w l.length (devCs l)) := by
  have S := Lib.hid h
  clear h
  obtain ⟨i0, hi, hz0, hz1, hz2⟩ := info_parts info_bool
  have hcl := devCs_len l
  generalize hq : l.length = n at *
  have HQ := Lib.hid hq
  have HN := Lib.hid hn
  have hn' : n ≤ 2 ^ 63 - 1 := by omega
  have HCL := Lib.hid hcl
  clear hn hq hcl
  go_enter Tryz.func72, Tryz.ntmps72
  go_wp2_with (at_make; refine wpList_make_full _ rfl _ _ 30 rfl w.heap.size 4 i0 (.bool false) 1 Tryz.underlying30 hi hz0 hz1 _ _ _ _ n rfl rfl rfl rfl ?b2 ?b3 (Nat.le_refl _) ?_)
  case b2 => have := HN.out; rw [hz2]; omega
  case b3 => have := HN.out; unfold maxLen; omega
  intro w1 hown hgrow
  have X : CopyV w w1 0 (devCs l) := CopyV.start hown hgrow HCL.out
  clear hown hgrow hz0 hz1 hz2 hi
  go_wp2
  go_loopw [4] (fun i wr => ∃ k : Nat, k ≤ n ∧ i = .int .i64 k ∧ CopyV w wr k (devCs l)) (fun i _ => n - (intOf i).toNat)
  case atStart => exact ⟨0, Nat.zero_le _, rfl, X⟩
  case round =>
    clear X
    obtain ⟨k, hk, rfl, X⟩ := hrel
    by_cases hlt : k < n
    · obtain ⟨b, off, rfl, hb, hc⟩ := ((S.out.below X.K (Nat.le_refl _)).more X.K.size).cell hlt
      have hp := devCs_at l (i := k) (by rw [HQ.out]; exact hlt)
      have q0 := hc 0 (by decide)
      rw [Nat.add_zero, Nat.mul_one, Nat.add_zero, hp] at q0
      have HP := Lib.hid hp
      clear hc hp
      generalize devA l k = x at *
      obtain ⟨v0, t0, f0⟩ := X.at_ (j := k) (by rw [HCL.out]; omega)
      go_wp2
      exact ⟨⟨k + 1, by omega, by go_num, X.set HP.out⟩, by simp [intOf]; omega⟩
    · obtain rfl : k = n := by omega
      go_wp2
      go_ret
      exact X.made (by rw [HCL.out]; omega)
set_option maxHeartbeats 1000000 in
theorem toInts_any (A : Option Addr) (c : Nat) (l : List Int) (w : World) (h : SlV w w.heap.size 1 A l.length (lkCs l)) (hn : l.length ≤ 1048576) :
    Calls Tryz.prog 40 #[.slice A l.length c] w (MadeV w l.length (lkCs l)) := by
  have S := Lib.hid h
  clear h
  obtain ⟨i0, hi, hz0, hz1, hz2⟩ := info_parts info_int
  have hcl := lkCs_len l
  generalize hq : l.length = n at *
  have HQ := Lib.hid hq
  have HN := Lib.hid hn
  have hn' : n ≤ 2 ^ 63 - 1 := by omega
  have HCL := Lib.hid hcl
  clear hn hq hcl
  go_enter Tryz.func40, Tryz.ntmps40
  go_wp2_with (at_make; refine wpList_make_full _ rfl _ _ 23 rfl w.heap.size 2 i0 (.int .i64 0) 1 Tryz.underlying23 hi hz0 hz1 _ _ _ _ n rfl rfl rfl rfl ?b2 ?b3 (Nat.le_refl _) ?_)
  case b2 => have := HN.out; rw [hz2]; omega
  case b3 => have := HN.out; unfold maxLen; omega
  intro w1 hown hgrow
  have X : CopyV w w1 0 (lkCs l) := CopyV.start hown hgrow HCL.out
  clear hown hgrow hz0 hz1 hz2 hi
  go_wp2
  go_loopw [4] (fun i wr => ∃ k : Nat, k ≤ n ∧ i = .int .i64 k ∧ CopyV w wr k (lkCs l)) (fun i _ => n - (intOf i).toNat)
  case atStart => exact ⟨0, Nat.zero_le _, rfl, X⟩
  case round =>
    clear X
    obtain ⟨k, hk, rfl, X⟩ := hrel
    by_cases hlt : k < n
    · obtain ⟨b, off, rfl, hb, hc⟩ := ((S.out.below X.K (Nat.le_refl _)).more X.K.size).cell hlt
      have hp := lkCs_at l (i := k) (by rw [HQ.out]; exact hlt)
      have q0 := hc 0 (by decide)
      rw [Nat.add_zero, Nat.mul_one, Nat.add_zero, hp] at q0
      have HP := Lib.hid hp
      clear hc hp
      generalize lkA l k = x at *
      obtain ⟨v0, t0, f0⟩ := X.at_ (j := k) (by rw [HCL.out]; omega)
      go_wp2
      exact ⟨⟨k + 1, by omega, by go_num, X.set HP.out⟩, by simp [intOf]; omega⟩
    · obtain rfl : k = n := by omega
      go_wp2
      go_ret
      exact X.made (by rw [HCL.out]; omega)
end Go.Proofs.YtkefbmbjkijilaaGreatDoor
/- Uc -/
set_option linter.unusedVariables false
namespace Go.Proofs.YtkefbmbjkijilaaGreatDoor
open Go.RowKit

set_option maxHeartbeats 1000000 in
theorem eqPodAtS_same (A A' : Option Addr) (c c' : Nat) (l : List (Int × Int)) (w : World) (h : SlV w w.heap.size 2 A l.length (podCs l)) (h' : SlV w w.heap.size 2 A' l.length (podCs l)) (hl : l.length ≤ maxLen) :
    Calls Tryz.prog 78 #[.slice A l.length c, .slice A' l.length c'] w fun e w' => e = .returned (.bool true) ∧ Below w.heap.size w w' := by
  have H := Lib.hid h
  have H' := Lib.hid h'
  have hl' : l.length ≤ 2 ^ 63 - 1 := by unfold maxLen at hl; omega
  clear hl h h'
  generalize hq : l.length = n at *
  have HQ := Lib.hid hq
  clear hq
  go_enter Tryz.func78, Tryz.ntmps78
  go_wp2
  go_loopw [5] (fun i wr => ∃ k : Nat, k ≤ n ∧ i = .int .i64 k ∧ Below w.heap.size w wr) (fun i _ => n - (intOf i).toNat)
  case atStart => exact ⟨0, Nat.zero_le _, rfl, Below.refl _ _⟩
  case round =>
    obtain ⟨k, hk, rfl, K⟩ := hrel
    by_cases hlt : k < n
    · obtain ⟨b, off, rfl, hb, hc⟩ := (H.out.below K (Nat.le_refl _)).cell hlt
      obtain ⟨b', off', rfl, hb', hc'⟩ := (H'.out.below K (Nat.le_refl _)).cell hlt
      have hp := podCs_at l (i := k) (by rw [HQ.out]; exact hlt)
      have q0 := (hc 0 (by decide)).trans hp.1
      have q1 := (hc 1 (by decide)).trans hp.2
      have r0 := (hc' 0 (by decide)).trans hp.1
      have r1 := (hc' 1 (by decide)).trans hp.2
      rw [Nat.add_zero] at q0 r0
      clear hc hc' hp
      generalize podA l k = r at *
      obtain ⟨x, y⟩ := r
      dsimp only at q0 q1 r0 r1
      have HBB := Lib.hid hb
      have HBB' := Lib.hid hb'
      clear hb hb'
      have S0 : (wr.cell? ⟨b, off + k * 2, none⟩ = some (.int .i64 x) ∧ wr.cell? ⟨b, off + k * 2 + 1, none⟩ = some (.int .i64 y)) ∧ (wr.cell? ⟨b', off' + k * 2, none⟩ = some (.int .i64 x) ∧ wr.cell? ⟨b', off' + k * 2 + 1, none⟩ = some (.int .i64 y)) ∧ Below w.heap.size w wr := ⟨⟨q0, q1⟩, ⟨r0, r1⟩, K⟩
      clear q0 q1 r0 r1
      go_wp2_with fail
      go_region_held3 (fun w' => (w'.cell? ⟨b, off + k * 2, none⟩ = some (.int .i64 x) ∧ w'.cell? ⟨b, off + k * 2 + 1, none⟩ = some (.int .i64 y)) ∧ (w'.cell? ⟨b', off' + k * 2, none⟩ = some (.int .i64 x) ∧ w'.cell? ⟨b', off' + k * 2 + 1, none⟩ = some (.int .i64 y)) ∧ Below w.heap.size w w')
        (first | exact S0 | exact S1 | exact ⟨S0.1, S0.2.1, S0.2.2.drew⟩)
        (first
          | (go_at_call 114
             refine (eqPodAt_same _ _ _).mono ?_
             rintro e w2 ⟨rfl, hb2⟩
             have L2 : wr.heap.size ≤ w2.heap.size := hb2.size
             have hs : w.heap.size ≤ wr.heap.size := K.size
             have S1 : (w2.cell? ⟨b, off + k * 2, none⟩ = some (.int .i64 x) ∧ w2.cell? ⟨b, off + k * 2 + 1, none⟩ = some (.int .i64 y)) ∧ (w2.cell? ⟨b', off' + k * 2, none⟩ = some (.int .i64 x) ∧ w2.cell? ⟨b', off' + k * 2 + 1, none⟩ = some (.int .i64 y)) ∧ Below w.heap.size w w2 :=
               ⟨⟨(hb2.cell (p := ⟨b, off + k * 2, none⟩) (Nat.lt_of_lt_of_le HBB.out hs)).trans S0.1.1, (hb2.cell (p := ⟨b, off + k * 2 + 1, none⟩) (Nat.lt_of_lt_of_le HBB.out hs)).trans S0.1.2⟩, ⟨(hb2.cell (p := ⟨b', off' + k * 2, none⟩) (Nat.lt_of_lt_of_le HBB'.out hs)).trans S0.2.1.1, (hb2.cell (p := ⟨b', off' + k * 2 + 1, none⟩) (Nat.lt_of_lt_of_le HBB'.out hs)).trans S0.2.1.2⟩, K.drew.trans (hb2.mono K.size)⟩))
      have K2 := S1.2.2
      clear S0 S1
      go_wp2
      exact ⟨⟨k + 1, by omega, by go_num, K2⟩, by simp [intOf]; omega⟩
    · obtain rfl : k = n := by omega
      go_wp2
      go_ret
      exact ⟨rfl, K⟩

set_option maxHeartbeats 1000000 in
theorem eqMountAtS_same (A A' : Option Addr) (c c' : Nat) (l : List (Bool × Int)) (w : World) (h : SlV w w.heap.size 2 A l.length (mntCs l)) (h' : SlV w w.heap.size 2 A' l.length (mntCs l)) (hl : l.length ≤ maxLen) :
    Calls Tryz.prog 79 #[.slice A l.length c, .slice A' l.length c'] w fun e w' => e = .returned (.bool true) ∧ Below w.heap.size w w' := by
  have H := Lib.hid h
  have H' := Lib.hid h'
  have hl' : l.length ≤ 2 ^ 63 - 1 := by unfold maxLen at hl; omega
  clear hl h h'
  generalize hq : l.length = n at *
  have HQ := Lib.hid hq
  clear hq
  go_enter Tryz.func79, Tryz.ntmps79
  go_wp2
  go_loopw [5] (fun i wr => ∃ k : Nat, k ≤ n ∧ i = .int .i64 k ∧ Below w.heap.size w wr) (fun i _ => n - (intOf i).toNat)
  case atStart => exact ⟨0, Nat.zero_le _, rfl, Below.refl _ _⟩
  case round =>
    obtain ⟨k, hk, rfl, K⟩ := hrel
    by_cases hlt : k < n
    · obtain ⟨b, off, rfl, hb, hc⟩ := (H.out.below K (Nat.le_refl _)).cell hlt
      obtain ⟨b', off', rfl, hb', hc'⟩ := (H'.out.below K (Nat.le_refl _)).cell hlt
      have hp := mntCs_at l (i := k) (by rw [HQ.out]; exact hlt)
      have q0 := (hc 0 (by decide)).trans hp.1
      have q1 := (hc 1 (by decide)).trans hp.2
      have r0 := (hc' 0 (by decide)).trans hp.1
      have r1 := (hc' 1 (by decide)).trans hp.2
      rw [Nat.add_zero] at q0 r0
      clear hc hc' hp
      generalize mntA l k = r at *
      obtain ⟨x, y⟩ := r
      dsimp only at q0 q1 r0 r1
      have HBB := Lib.hid hb
      have HBB' := Lib.hid hb'
      clear hb hb'
      have S0 : (wr.cell? ⟨b, off + k * 2, none⟩ = some (.bool x) ∧ wr.cell? ⟨b, off + k * 2 + 1, none⟩ = some (.int .i64 y)) ∧ (wr.cell? ⟨b', off' + k * 2, none⟩ = some (.bool x) ∧ wr.cell? ⟨b', off' + k * 2 + 1, none⟩ = some (.int .i64 y)) ∧ Below w.heap.size w wr := ⟨⟨q0, q1⟩, ⟨r0, r1⟩, K⟩
      clear q0 q1 r0 r1
      go_wp2_with fail
      go_region_held3 (fun w' => (w'.cell? ⟨b, off + k * 2, none⟩ = some (.bool x) ∧ w'.cell? ⟨b, off + k * 2 + 1, none⟩ = some (.int .i64 y)) ∧ (w'.cell? ⟨b', off' + k * 2, none⟩ = some (.bool x) ∧ w'.cell? ⟨b', off' + k * 2 + 1, none⟩ = some (.int .i64 y)) ∧ Below w.heap.size w w')
        (first | exact S0 | exact S1 | exact ⟨S0.1, S0.2.1, S0.2.2.drew⟩)
        (first
          | (go_at_call 115
             refine (eqMountAt_same _ _ _).mono ?_
             rintro e w2 ⟨rfl, hb2⟩
             have L2 : wr.heap.size ≤ w2.heap.size := hb2.size
             have hs : w.heap.size ≤ wr.heap.size := K.size
             have S1 : (w2.cell? ⟨b, off + k * 2, none⟩ = some (.bool x) ∧ w2.cell? ⟨b, off + k * 2 + 1, none⟩ = some (.int .i64 y)) ∧ (w2.cell? ⟨b', off' + k * 2, none⟩ = some (.bool x) ∧ w2.cell? ⟨b', off' + k * 2 + 1, none⟩ = some (.int .i64 y)) ∧ Below w.heap.size w w2 :=
               ⟨⟨(hb2.cell (p := ⟨b, off + k * 2, none⟩) (Nat.lt_of_lt_of_le HBB.out hs)).trans S0.1.1, (hb2.cell (p := ⟨b, off + k * 2 + 1, none⟩) (Nat.lt_of_lt_of_le HBB.out hs)).trans S0.1.2⟩, ⟨(hb2.cell (p := ⟨b', off' + k * 2, none⟩) (Nat.lt_of_lt_of_le HBB'.out hs)).trans S0.2.1.1, (hb2.cell (p := ⟨b', off' + k * 2 + 1, none⟩) (Nat.lt_of_lt_of_le HBB'.out hs)).trans S0.2.1.2⟩, K.drew.trans (hb2.mono K.size)⟩))
      have K2 := S1.2.2
      clear S0 S1
      go_wp2
      exact ⟨⟨k + 1, by omega, by go_num, K2⟩, by simp [intOf]; omega⟩
    · obtain rfl : k = n := by omega
      go_wp2
      go_ret
      exact ⟨rfl, K⟩

set_option maxHeartbeats 1000000 in
theorem eqBoolS_same (A A' : Option Addr) (c c' : Nat) (l : List Bool) (w : World) (h : SlV w w.heap.size 1 A l.length (devCs l)) (h' : SlV w w.heap.size 1 A' l.length (devCs l)) (hl : l.length ≤ maxLen) :
    Calls Tryz.prog 80 #[.slice A l.length c, .slice A' l.length c'] w fun e w' => e = .returned (.bool true) ∧ Below w.heap.size w w' := by
  have H := Lib.hid h
  have H' := Lib.hid h'
  have hl' : l.length ≤ 2 ^ 63 - 1 := by unfold maxLen at hl; omega
  clear hl h h'
  generalize hq : l.length = n at *
  have HQ := Lib.hid hq
  clear hq
  go_enter Tryz.func80, Tryz.ntmps80
  go_wp2
  go_loopw [5] (fun i wr => ∃ k : Nat, k ≤ n ∧ i = .int .i64 k ∧ Below w.heap.size w wr) (fun i _ => n - (intOf i).toNat)
  case atStart => exact ⟨0, Nat.zero_le _, rfl, Below.refl _ _⟩
  case round =>
    obtain ⟨k, hk, rfl, K⟩ := hrel
    by_cases hlt : k < n
    · obtain ⟨b, off, rfl, hb, hc⟩ := (H.out.below K (Nat.le_refl _)).cell hlt
      obtain ⟨b', off', rfl, hb', hc'⟩ := (H'.out.below K (Nat.le_refl _)).cell hlt
      have hp := devCs_at l (i := k) (by rw [HQ.out]; exact hlt)
      have q0 := hc 0 (by decide)
      have r0 := hc' 0 (by decide)
      rw [Nat.add_zero, Nat.mul_one, Nat.add_zero, hp] at q0 r0
      clear hc hc' hp
      generalize devA l k = x at *
      go_wp2_with fail
      go_quiet (fail)
      go_wp2
      exact ⟨⟨k + 1, by omega, by go_num, below_drewN K _⟩, by simp [intOf]; omega⟩
    · obtain rfl : k = n := by omega
      go_wp2
      go_ret
      exact ⟨rfl, K⟩

set_option maxHeartbeats 1000000 in
theorem eqInts_same (A A' : Option Addr) (c c' : Nat) (l : List Int) (w : World) (h : SlV w w.heap.size 1 A l.length (lkCs l)) (h' : SlV w w.heap.size 1 A' l.length (lkCs l)) (hl : l.length ≤ maxLen) :
    Calls Tryz.prog 44 #[.slice A l.length c, .slice A' l.length c'] w fun e w' => e = .returned (.bool true) ∧ Below w.heap.size w w' := by
  have H := Lib.hid h
  have H' := Lib.hid h'
  have hl' : l.length ≤ 2 ^ 63 - 1 := by unfold maxLen at hl; omega
  clear hl h h'
  generalize hq : l.length = n at *
  have HQ := Lib.hid hq
  clear hq
  go_enter Tryz.func44, Tryz.ntmps44
  go_wp2
  go_loopw [5] (fun i wr => ∃ k : Nat, k ≤ n ∧ i = .int .i64 k ∧ Below w.heap.size w wr) (fun i _ => n - (intOf i).toNat)
  case atStart => exact ⟨0, Nat.zero_le _, rfl, Below.refl _ _⟩
  case round =>
    obtain ⟨k, hk, rfl, K⟩ := hrel
    by_cases hlt : k < n
    · obtain ⟨b, off, rfl, hb, hc⟩ := (H.out.below K (Nat.le_refl _)).cell hlt
      obtain ⟨b', off', rfl, hb', hc'⟩ := (H'.out.below K (Nat.le_refl _)).cell hlt
      have hp := lkCs_at l (i := k) (by rw [HQ.out]; exact hlt)
      have q0 := hc 0 (by decide)
      have r0 := hc' 0 (by decide)
      rw [Nat.add_zero, Nat.mul_one, Nat.add_zero, hp] at q0 r0
      clear hc hc' hp
      generalize lkA l k = x at *
      go_wp2_with fail
      go_quiet (fail)
      go_wp2
      exact ⟨⟨k + 1, by omega, by go_num, below_drewN K _⟩, by simp [intOf]; omega⟩
    · obtain rfl : k = n := by omega
      go_wp2
      go_ret
      exact ⟨rfl, K⟩
end Go.Proofs.YtkefbmbjkijilaaGreatDoor
/- Ud -/
set_option linter.unusedVariables false
namespace Go.Proofs.YtkefbmbjkijilaaGreatDoor
open Go.RowKit

theorem szPodAtS_any (A : Option Addr) (n c : Nat) (left : Int) (w : World) (hn : n ≤ maxLen) (h0 : 0 ≤ left) (h1 : left ≤ 1048576) :
    Calls Tryz.prog 60 #[.slice A n c, .int .i64 left] w fun e w' => e = .returned (.int .i64 (szI left n)) ∧ w = w' := by
  unfold maxLen at hn
  go_enter Tryz.func60, Tryz.ntmps60
  go_wp2
  · go_ret
    exact ⟨by rw [szI_neg (by omega)]; rfl, rfl⟩
  · go_ret
    exact ⟨by rw [szI_pos (by omega)]; rfl, rfl⟩
theorem szMountAtS_any (A : Option Addr) (n c : Nat) (left : Int) (w : World) (hn : n ≤ maxLen) (h0 : 0 ≤ left) (h1 : left ≤ 1048576) :
    Calls Tryz.prog 61 #[.slice A n c, .int .i64 left] w fun e w' => e = .returned (.int .i64 (szI left n)) ∧ w = w' := by
  unfold maxLen at hn
  go_enter Tryz.func61, Tryz.ntmps61
  go_wp2
  · go_ret
    exact ⟨by rw [szI_neg (by omega)]; rfl, rfl⟩
  · go_ret
    exact ⟨by rw [szI_pos (by omega)]; rfl, rfl⟩
theorem szBoolS_any (A : Option Addr) (n c : Nat) (left : Int) (w : World) (hn : n ≤ maxLen) (h0 : 0 ≤ left) (h1 : left ≤ 1048576) :
    Calls Tryz.prog 62 #[.slice A n c, .int .i64 left] w fun e w' => e = .returned (.int .i64 (szI left n)) ∧ w = w' := by
  unfold maxLen at hn
  go_enter Tryz.func62, Tryz.ntmps62
  go_wp2
  · go_ret
    exact ⟨by rw [szI_neg (by omega)]; rfl, rfl⟩
  · go_ret
    exact ⟨by rw [szI_pos (by omega)]; rfl, rfl⟩

/-- What is left behind a state. -/
def szS (left : Int) (s : StD) : Int := if (s.pods.length + s.mnts.length + s.devs.length + s.lks.length : Nat) ≤ left then left - (s.pods.length + s.mnts.length + s.devs.length + s.lks.length : Nat) else -1
set_option maxHeartbeats 2000000 in
theorem szState_any (v : Value) (s : StD) (left : Int) (w : World) (h : IsSt w w.heap.size v s) (hl0 : 0 ≤ left) (hl1 : left ≤ 1048576) :
    Calls Tryz.prog 24 #[v, .int .i64 left] w fun e w' => e = .returned (.int .i64 (szS left s)) ∧ Below w.heap.size w w' := by
  obtain ⟨⟨A0, A1, A2, A3, c0, c1, c2, c3, rfl, -, -, -, -⟩, b0, b1, b2, b3⟩ := h
  obtain ⟨ph, co, ck, bo, ba, lb, l0, l1, l2, l3, gd, pr⟩ := s
  dsimp only at *
  have hp : (l0.length + l1.length + l2.length + l3.length : Nat) ≤ left → szS left ⟨ph, co, ck, bo, ba, lb, l0, l1, l2, l3, gd, pr⟩ = left - (l0.length + l1.length + l2.length + l3.length : Nat) := fun h => if_pos h
  have hm : ¬ (l0.length + l1.length + l2.length + l3.length : Nat) ≤ left → szS left ⟨ph, co, ck, bo, ba, lb, l0, l1, l2, l3, gd, pr⟩ = -1 := fun h => if_neg h
  generalize szS left ⟨ph, co, ck, bo, ba, lb, l0, l1, l2, l3, gd, pr⟩ = z at *
  have HP := Lib.hid hp
  have HM := Lib.hid hm
  clear hp hm
  generalize l0.length = n0 at *
  generalize l1.length = n1 at *
  generalize l2.length = n2 at *
  generalize l3.length = n3 at *
  go_enter Tryz.func24, Tryz.ntmps24
  go_wp2_with fail
  refine (szPodAtS_any _ _ _ _ _ b0 (by omega) (by omega)).mono ?_
  rintro e w2 ⟨rfl, rfl⟩
  by_cases h0 : (n0 : Int) ≤ left
  · rw [szI_pos h0]
    go_wp2_with fail
    refine (szMountAtS_any _ _ _ _ _ b1 (by omega) (by omega)).mono ?_
    rintro e w2 ⟨rfl, rfl⟩
    by_cases h1 : (n1 : Int) ≤ left - n0
    · rw [szI_pos h1]
      go_wp2_with fail
      refine (szBoolS_any _ _ _ _ _ b2 (by omega) (by omega)).mono ?_
      rintro e w2 ⟨rfl, rfl⟩
      by_cases h2 : (n2 : Int) ≤ left - n0 - n1
      · rw [szI_pos h2]
        go_wp2_with fail
        refine (szInt64S_any _ _ _ _ _ b3 (by omega) (by omega)).mono ?_
        rintro e w2 ⟨rfl, rfl⟩
        by_cases h3 : (n3 : Int) ≤ left - n0 - n1 - n2
        · rw [szI_pos h3]
          go_wp2_with fail
          go_ret
          exact ⟨ret_int (by rw [HP.out (by omega)]; push_cast; omega), (Below.refl _ _).alloc (Nat.le_refl _) _⟩
        · rw [szI_neg h3]
          go_wp2
          go_ret
          exact ⟨ret_int (by rw [HM.out (by omega)]), (Below.refl _ _).alloc (Nat.le_refl _) _⟩
      · rw [szI_neg h2]
        go_wp2
        go_ret
        exact ⟨ret_int (by rw [HM.out (by omega)]), (Below.refl _ _).alloc (Nat.le_refl _) _⟩
    · rw [szI_neg h1]
      go_wp2
      go_ret
      exact ⟨ret_int (by rw [HM.out (by omega)]), (Below.refl _ _).alloc (Nat.le_refl _) _⟩
  · rw [szI_neg h0]
    go_wp2
    go_ret
    exact ⟨ret_int (by rw [HM.out (by omega)]), (Below.refl _ _).alloc (Nat.le_refl _) _⟩

/-- A state of new memory, all lists in blocks of their own. -/
structure NewSt (w w' : World) (s : StD) (g0 g1 g2 g3 : Nat) : Prop where
  l0 : w.heap.size ≤ g0
  l1 : g0 < g1
  l2 : g1 < g2
  l3 : g2 < g3
  l4 : g3 < w'.heap.size
  R0 : RowV w' g0 (podCs s.pods)
  R1 : RowV w' g1 (mntCs s.mnts)
  R2 : RowV w' g2 (devCs s.devs)
  R3 : RowV w' g3 (lkCs s.lks)
abbrev newStV (s : StD) (g0 g1 g2 g3 : Nat) : Value := .agg (stC (some ⟨g0, 0, none⟩) (some ⟨g1, 0, none⟩) (some ⟨g2, 0, none⟩) (some ⟨g3, 0, none⟩) s.pods.length s.pods.length s.mnts.length s.mnts.length s.devs.length s.devs.length s.lks.length s.lks.length s.ph s.co s.ck s.bo s.ba s.lb s.gd s.pr)
def MadeSt (w : World) (s : StD) (e : Ending) (w' : World) : Prop :=
  ∃ g0 g1 g2 g3, e = .returned (newStV s g0 g1 g2 g3) ∧ NewSt w w' s g0 g1 g2 g3 ∧ Below w.heap.size w w'
/-- How many cells a state's lists are at most. -/
structure StFits (s : StD) (m : Nat) : Prop where
  f0 : s.pods.length ≤ m
  f1 : s.mnts.length ≤ m
  f2 : s.devs.length ≤ m
  f3 : s.lks.length ≤ m
theorem NewSt.is {w w' : World} {s : StD} {g0 g1 g2 g3 : Nat} (h : NewSt w w' s g0 g1 g2 g3) (hf : StFits s 1048576) : IsSt w' w'.heap.size (newStV s g0 g1 g2 g3) s := by
  obtain ⟨l0, l1, l2, l3, l4, R0, R1, R2, R3⟩ := h
  obtain ⟨f0, f1, f2, f3⟩ := hf
  have hm : 1048576 ≤ maxLen := by unfold maxLen; decide
  exact ⟨⟨_, _, _, _, _, _, _, _, rfl, R0.slv (podCs_len _) (by omega), R1.slv (mntCs_len _) (by omega), R2.slv (devCs_len _) (by omega), R3.slv (lkCs_len _) (by omega)⟩, by omega, by omega, by omega, by omega⟩

set_option maxHeartbeats 4000000 in
theorem toState_any (v : Value) (s : StD) (w : World) (h : IsSt w w.heap.size v s) (hf : StFits s 1048576) :
    Calls Tryz.prog 30 #[v] w (MadeSt w s) := by
  obtain ⟨⟨A0, A1, A2, A3, c0, c1, c2, c3, rfl, s0, s1, s2, s3⟩, -, -, -, -⟩ := h
  obtain ⟨h0, h1, h2, h3⟩ := hf
  obtain ⟨ph, co, ck, bo, ba, lb, l0, l1, l2, l3, gd, pr⟩ := s
  dsimp only at *
  have S0 := Lib.hid s0
  have S1 := Lib.hid s1
  have S2 := Lib.hid s2
  have S3 := Lib.hid s3
  have B0 := Lib.hid h0
  have B1 := Lib.hid h1
  have B2 := Lib.hid h2
  have B3 := Lib.hid h3
  clear s0 s1 s2 s3 h0 h1 h2 h3
  go_enter Tryz.func30, Tryz.ntmps30
  go_wp2_with fail
  have T1 := TP.start w (stC A0 A1 A2 A3 l0.length c0 l1.length c1 l2.length c2 l3.length c3 ph co ck bo ba lb gd pr) (stC none none none none 0 0 0 0 0 0 0 0 0 false 0 0 0 0 0 0) (stC none none none none 0 0 0 0 0 0 0 0 ph co ck bo ba lb 0 0) 32 46 46
  refine (toPodAtS_any _ _ l0 _ ((S0.out.below T1.A.K (Nat.le_refl _)).more T1.A.K.size) B0.out).mono ?_
  rintro e w2 ⟨g0, rfl, hg0, hz0, R0, hb2⟩
  have T2 := T1.step hb2
  have m0 : w.heap.size + 1 + 1 < g0 := Nat.lt_of_lt_of_le T1.O.z hg0
  clear hb2 hg0 T1
  have hC := T2.A.C
  have hD := T2.O.C
  have hF := T2.O.F
  go_wp2_with fail
  have T1 := T2.set (i := 6) (by simp) (.slice (some ⟨g0, 0, none⟩) l0.length l0.length)
  replace R0 := R0.far (p := ⟨w.heap.size + 1 + 1, 6, none⟩) (by simp; omega) (.slice (some ⟨g0, 0, none⟩) l0.length l0.length)
  refine (toMountAtS_any _ _ l1 _ ((S1.out.below T1.A.K (Nat.le_refl _)).more T1.A.K.size) B1.out).mono ?_
  rintro e w3 ⟨g1, rfl, hg1, hz1, R1, hb2⟩
  clear hC hD hF T2
  have T2 := T1.step hb2
  have m1 : g0 < g1 := by simp [World.setCell] at hg1; omega
  replace R0 := R0.below hb2 (by simp [World.setCell]; omega)
  clear hb2 hg1 T1 hz0
  have hC := T2.A.C
  have hD := T2.O.C
  have hF := T2.O.F
  go_wp2_with fail
  have T1 := T2.set (i := 7) (by simp) (.slice (some ⟨g1, 0, none⟩) l1.length l1.length)
  replace R0 := R0.far (p := ⟨w.heap.size + 1 + 1, 7, none⟩) (by simp; omega) (.slice (some ⟨g1, 0, none⟩) l1.length l1.length)
  replace R1 := R1.far (p := ⟨w.heap.size + 1 + 1, 7, none⟩) (by simp; omega) (.slice (some ⟨g1, 0, none⟩) l1.length l1.length)
  refine (toBoolS_any _ _ l2 _ ((S2.out.below T1.A.K (Nat.le_refl _)).more T1.A.K.size) B2.out).mono ?_
  rintro e w4 ⟨g2, rfl, hg2, hz2, R2, hb2⟩
  clear hC hD hF T2
  have T2 := T1.step hb2
  have m2 : g1 < g2 := by simp [World.setCell] at hg2; omega
  replace R0 := R0.below hb2 (by simp [World.setCell]; omega)
  replace R1 := R1.below hb2 (by simp [World.setCell]; omega)
  clear hb2 hg2 T1 hz1
  have hC := T2.A.C
  have hD := T2.O.C
  have hF := T2.O.F
  go_wp2_with fail
  have T1 := T2.set (i := 8) (by simp) (.slice (some ⟨g2, 0, none⟩) l2.length l2.length)
  replace R0 := R0.far (p := ⟨w.heap.size + 1 + 1, 8, none⟩) (by simp; omega) (.slice (some ⟨g2, 0, none⟩) l2.length l2.length)
  replace R1 := R1.far (p := ⟨w.heap.size + 1 + 1, 8, none⟩) (by simp; omega) (.slice (some ⟨g2, 0, none⟩) l2.length l2.length)
  replace R2 := R2.far (p := ⟨w.heap.size + 1 + 1, 8, none⟩) (by simp; omega) (.slice (some ⟨g2, 0, none⟩) l2.length l2.length)
  refine (toInts_any _ _ l3 _ ((S3.out.below T1.A.K (Nat.le_refl _)).more T1.A.K.size) B3.out).mono ?_
  rintro e w5 ⟨g3, rfl, hg3, hz3, R3, hb2⟩
  clear hC hD hF T2
  have T2 := T1.step hb2
  have m3 : g2 < g3 := by simp [World.setCell] at hg3; omega
  replace R0 := R0.below hb2 (by simp [World.setCell]; omega)
  replace R1 := R1.below hb2 (by simp [World.setCell]; omega)
  replace R2 := R2.below hb2 (by simp [World.setCell]; omega)
  clear hb2 hg3 T1 hz2
  have T2 : TP w w5 (stC A0 A1 A2 A3 l0.length c0 l1.length c1 l2.length c2 l3.length c3 ph co ck bo ba lb gd pr) (stC none none none none 0 0 0 0 0 0 0 0 0 false 0 0 0 0 0 0) (stC (some ⟨g0, 0, none⟩) (some ⟨g1, 0, none⟩) (some ⟨g2, 0, none⟩) none l0.length l0.length l1.length l1.length l2.length l2.length 0 0 ph co ck bo ba lb 0 0) := T2
  have hC := T2.A.C
  have hD := T2.O.C
  have hF := T2.O.F
  have hE := T2.Z.C
  have hG := T2.Z.F
  go_wp2_with fail
  refine bodyPost_ret (v := newStV ⟨ph, co, ck, bo, ba, lb, l0, l1, l2, l3, gd, pr⟩ g0 g1 g2 g3) ?_ rfl ⟨g0, g1, g2, g3, rfl, ⟨by omega, m1, m2, m3, by simp [World.setCell]; exact hz3, ?_, ?_, ?_, ?_⟩, ?_⟩
  · simp [results, Tryz.results30, go_sem, hE]
  · iterate 15 (refine RowV.far ?_ (by simp; omega) _)
    exact R0
  · iterate 15 (refine RowV.far ?_ (by simp; omega) _)
    exact R1
  · iterate 15 (refine RowV.far ?_ (by simp; omega) _)
    exact R2
  · iterate 15 (refine RowV.far ?_ (by simp; omega) _)
    exact R3
  · iterate 15 (refine Below.setCell ?_ (by simp <;> omega) _)
    exact T2.A.K

set_option maxHeartbeats 2000000 in
theorem eqState_same (v v' : Value) (s : StD) (w : World) (h : IsSt w w.heap.size v s) (h' : IsSt w w.heap.size v' s) :
    Calls Tryz.prog 32 #[v, v'] w fun e w' => e = .returned (.bool true) ∧ Below w.heap.size w w' := by
  obtain ⟨⟨A0, A1, A2, A3, c0, c1, c2, c3, rfl, s0, s1, s2, s3⟩, b0, b1, b2, b3⟩ := h
  obtain ⟨⟨A0', A1', A2', A3', c0', c1', c2', c3', rfl, s0', s1', s2', s3'⟩, -, -, -, -⟩ := h'
  obtain ⟨ph, co, ck, bo, ba, lb, l0, l1, l2, l3, gd, pr⟩ := s
  dsimp only at *
  have S0 := Lib.hid s0
  have S0' := Lib.hid s0'
  have B0 := Lib.hid b0
  have S1 := Lib.hid s1
  have S1' := Lib.hid s1'
  have B1 := Lib.hid b1
  have S2 := Lib.hid s2
  have S2' := Lib.hid s2'
  have B2 := Lib.hid b2
  have S3 := Lib.hid s3
  have S3' := Lib.hid s3'
  have B3 := Lib.hid b3
  clear s0 s1 s2 s3 s0' s1' s2' s3' b0 b1 b2 b3
  go_enter Tryz.func32, Tryz.ntmps32
  cases co
  · go_wp2_with fail
    have T1 := Two.start w (stC A0 A1 A2 A3 l0.length c0 l1.length c1 l2.length c2 l3.length c3 ph false ck bo ba lb gd pr) (stC A0' A1' A2' A3' l0.length c0' l1.length c1' l2.length c2' l3.length c3' ph false ck bo ba lb gd pr) 46 46
    refine (eqPodAtS_same _ _ _ _ l0 _ ((S0.out.below T1.A.K (Nat.le_refl _)).more T1.A.K.size) ((S0'.out.below T1.A.K (Nat.le_refl _)).more T1.A.K.size) B0.out).mono ?_
    rintro e w2 ⟨rfl, hb⟩
    replace T1 := T1.step hb
    clear hb
    have hC := T1.A.C
    have hD := T1.O.C
    go_wp2_with fail
    clear hC hD
    refine (eqMountAtS_same _ _ _ _ l1 _ ((S1.out.below T1.A.K (Nat.le_refl _)).more T1.A.K.size) ((S1'.out.below T1.A.K (Nat.le_refl _)).more T1.A.K.size) B1.out).mono ?_
    rintro e w3 ⟨rfl, hb⟩
    replace T1 := T1.step hb
    clear hb
    have hC := T1.A.C
    have hD := T1.O.C
    go_wp2_with fail
    clear hC hD
    refine (eqBoolS_same _ _ _ _ l2 _ ((S2.out.below T1.A.K (Nat.le_refl _)).more T1.A.K.size) ((S2'.out.below T1.A.K (Nat.le_refl _)).more T1.A.K.size) B2.out).mono ?_
    rintro e w4 ⟨rfl, hb⟩
    replace T1 := T1.step hb
    clear hb
    have hC := T1.A.C
    have hD := T1.O.C
    go_wp2_with fail
    clear hC hD
    refine (eqInts_same _ _ _ _ l3 _ ((S3.out.below T1.A.K (Nat.le_refl _)).more T1.A.K.size) ((S3'.out.below T1.A.K (Nat.le_refl _)).more T1.A.K.size) B3.out).mono ?_
    rintro e w5 ⟨rfl, hb⟩
    replace T1 := T1.step hb
    clear hb
    have hC := T1.A.C
    have hD := T1.O.C
    go_wp2_with fail
    go_ret
    exact ⟨rfl, T1.A.K⟩
  · go_wp2_with fail
    have T1 := Two.start w (stC A0 A1 A2 A3 l0.length c0 l1.length c1 l2.length c2 l3.length c3 ph true ck bo ba lb gd pr) (stC A0' A1' A2' A3' l0.length c0' l1.length c1' l2.length c2' l3.length c3' ph true ck bo ba lb gd pr) 46 46
    refine (eqPodAtS_same _ _ _ _ l0 _ ((S0.out.below T1.A.K (Nat.le_refl _)).more T1.A.K.size) ((S0'.out.below T1.A.K (Nat.le_refl _)).more T1.A.K.size) B0.out).mono ?_
    rintro e w2 ⟨rfl, hb⟩
    replace T1 := T1.step hb
    clear hb
    have hC := T1.A.C
    have hD := T1.O.C
    go_wp2_with fail
    clear hC hD
    refine (eqMountAtS_same _ _ _ _ l1 _ ((S1.out.below T1.A.K (Nat.le_refl _)).more T1.A.K.size) ((S1'.out.below T1.A.K (Nat.le_refl _)).more T1.A.K.size) B1.out).mono ?_
    rintro e w3 ⟨rfl, hb⟩
    replace T1 := T1.step hb
    clear hb
    have hC := T1.A.C
    have hD := T1.O.C
    go_wp2_with fail
    clear hC hD
    refine (eqBoolS_same _ _ _ _ l2 _ ((S2.out.below T1.A.K (Nat.le_refl _)).more T1.A.K.size) ((S2'.out.below T1.A.K (Nat.le_refl _)).more T1.A.K.size) B2.out).mono ?_
    rintro e w4 ⟨rfl, hb⟩
    replace T1 := T1.step hb
    clear hb
    have hC := T1.A.C
    have hD := T1.O.C
    go_wp2_with fail
    clear hC hD
    refine (eqInts_same _ _ _ _ l3 _ ((S3.out.below T1.A.K (Nat.le_refl _)).more T1.A.K.size) ((S3'.out.below T1.A.K (Nat.le_refl _)).more T1.A.K.size) B3.out).mono ?_
    rintro e w5 ⟨rfl, hb⟩
    replace T1 := T1.step hb
    clear hb
    have hC := T1.A.C
    have hD := T1.O.C
    go_wp2_with fail
    go_ret
    exact ⟨rfl, T1.A.K⟩
end Go.Proofs.YtkefbmbjkijilaaGreatDoor
/- Ue -/
set_option linter.unusedVariables false
namespace Go.Proofs.YtkefbmbjkijilaaGreatDoor
open Go.RowKit

def m3 (k : Int) : Bool := k % 3 == 0
def mkPods (k : Int) (n : Nat) : List (Int × Int) := (List.range n).map fun (i : Nat) => (k + 2 * i, k + 2 * i + 1)
def mkMnts (k : Int) (n : Nat) : List (Bool × Int) := (List.range n).map fun (i : Nat) => (m3 (k + 2 * i), k + 2 * i + 1)
def mkDevs (k : Int) (n : Nat) : List Bool := (List.range n).map fun (i : Nat) => m3 (k + i)
def mkLks (k : Int) (n : Nat) : List Int := (List.range n).map fun (i : Nat) => k + i
theorem mkPods_len (k : Int) (n : Nat) : (mkPods k n).length = n := by simp [mkPods]
theorem mkMnts_len (k : Int) (n : Nat) : (mkMnts k n).length = n := by simp [mkMnts]
theorem mkDevs_len (k : Int) (n : Nat) : (mkDevs k n).length = n := by simp [mkDevs]
theorem mkLks_len (k : Int) (n : Nat) : (mkLks k n).length = n := by simp [mkLks]
theorem mkPods_at {k : Int} {n i : Nat} (h : i < n) : podA (mkPods k n) i = (k + 2 * i, k + 2 * i + 1) := by simp [podA, mkPods, List.getD, h]
theorem mkMnts_at {k : Int} {n i : Nat} (h : i < n) : mntA (mkMnts k n) i = (m3 (k + 2 * i), k + 2 * i + 1) := by simp [mntA, mkMnts, List.getD, h]
theorem mkDevs_at {k : Int} {n i : Nat} (h : i < n) : devA (mkDevs k n) i = m3 (k + i) := by simp [devA, mkDevs, List.getD, h]
theorem mkLks_at {k : Int} {n i : Nat} (h : i < n) : lkA (mkLks k n) i = k + i := by simp [lkA, mkLks, List.getD, h]
theorem lkCs_set (l : List Int) (i : Nat) (q : Int) : lkCs (l.set i q) = (lkCs l).set i (.int .i64 q) := by unfold lkCs; rw [List.map_set]
theorem getD_set_ {α : Type} (l : List α) (d x : α) (i j : Nat) (hi : i < l.length) : (l.set i x).getD j d = if j = i then x else l.getD j d := by
  simp only [List.getD]
  by_cases e : j = i
  · subst e
    simp [hi]
  · rw [if_neg e, List.getElem?_set_ne (fun h => e h.symm)]
theorem ext_getD {α : Type} {l m : List α} (d : α) (h : l.length = m.length) (e : ∀ j, j < l.length → l.getD j d = m.getD j d) : l = m := by
  refine List.ext_getElem h fun j hj hj' => ?_
  have := e j hj
  simpa [List.getD, hj, hj'] using this

set_option maxHeartbeats 1000000 in
theorem markPodAtS_any (A : Option Addr) (n c g : Nat) (k0 : Int) (l : List (Int × Int)) (w : World) (hl : l.length = n) (hA : 0 < n → A = some ⟨g, 0, none⟩) (R : RowV w g (podCs l)) (hn : n ≤ 1048576) (h0 : 0 ≤ k0) (h1 : k0 ≤ 8388608) :
    Calls Tryz.prog 88 #[.slice A n c, .int .i64 k0] w fun e w' => e = .returned (.int .i64 (k0 + 2 * n)) ∧ RowV w' g (podCs (mkPods k0 n)) ∧ Keeps (· = g) w w' := by
  have HN := Lib.hid hn
  have hn' : n ≤ 2 ^ 63 - 1 := by omega
  have HA := Lib.hid hA
  have HR := Lib.hid R
  have HLN := Lib.hid hl
  clear hn hA R hl
  go_enter Tryz.func88, Tryz.ntmps88
  go_wp2
  go_loopw [1, 5] (fun kk i wr => ∃ (m : Nat) (l : List (Int × Int)), m ≤ n ∧ i = .int .i64 m ∧ kk = .int .i64 (k0 + 2 * m) ∧ Hid (l.length = n) ∧ RowV wr g (podCs l) ∧ Hid (∀ j, j < m → podA l j = (k0 + 2 * j, k0 + 2 * j + 1)) ∧ Keeps (· = g) w wr) (fun _ i _ => n - (intOf i).toNat)
  case atStart => exact ⟨0, l, Nat.zero_le _, rfl, by simp, HLN, HR.out, Lib.hid (fun j hj => absurd hj (by omega)), Keeps.refl _ _⟩
  case round =>
    clear HR HLN
    obtain ⟨m, l, hm, rfl, rfl, HL, Y, HE, K⟩ := hrel
    by_cases hlt : m < n
    · obtain rfl := HA.out (by omega)
      have hml : m < l.length := by rw [HL.out]; exact hlt
      have y0 := Y (m * 2) (by rw [podCs_len, HL.out]; omega)
      have y1 := Y (m * 2 + 1) (by rw [podCs_len, HL.out]; omega)
      obtain ⟨p0, p1⟩ := podCs_at l hml
      rw [p0] at y0
      rw [p1] at y1
      obtain ⟨t0, f0⟩ := y0
      obtain ⟨t1, f1⟩ := y1
      have hb := HN.out
      have HY := Lib.hid Y
      have HML := Lib.hid hml
      clear Y p0 p1 hml
      generalize podA l m = r at *
      obtain ⟨r0, r1⟩ := r
      dsimp only at t0 t1
      go_wp2
      refine ⟨⟨m + 1, l.set m (k0 + 2 * m, k0 + 2 * m + 1), by omega, by go_num, by congr 1; omega, Lib.hid (by rw [List.length_set]; exact HL.out), ?_, Lib.hid fun j hj => ?_, (K.set rfl _).set rfl _⟩, by simp [intOf]; omega⟩
      · rw [podCs_set _ HML.out]
        exact (HY.out.set (i := m * 2) (by rw [podCs_len, HL.out]; omega) _).set (i := m * 2 + 1) (by rw [List.length_set, podCs_len, HL.out]; omega) _
      · have HE' := HE.out j
        unfold podA at HE' ⊢
        rw [getD_set_ _ _ _ _ _ HML.out]
        by_cases e : j = m
        · subst e; rw [if_pos rfl]
        · rw [if_neg e]; exact HE' (by omega)
    · obtain rfl : m = n := by omega
      have e9 : l = mkPods k0 m := ext_getD (0, 0) (by rw [HL.out, mkPods_len]) fun j hj => by
        have := HE.out j (by rw [← HL.out]; exact hj)
        unfold podA at this
        rw [this]
        exact (mkPods_at (k := k0) (n := m) (i := j) (by rw [← HL.out]; exact hj)).symm
      have HY := Lib.hid (e9 ▸ Y)
      clear Y e9
      go_wp2
      go_ret
      exact ⟨rfl, HY.out, K⟩
set_option maxHeartbeats 1000000 in
theorem heldPodAtS_any (A : Option Addr) (n c g : Nat) (k0 : Int) (w : World) (hA : 0 < n → A = some ⟨g, 0, none⟩) (R : RowV w g (podCs (mkPods k0 n))) (hn : n ≤ 1048576) (h0 : 0 ≤ k0) (h1 : k0 ≤ 8388608) :
    Calls Tryz.prog 95 #[.slice A n c, .int .i64 k0] w fun e w' => e = .returned (.int .i64 (k0 + 2 * n)) ∧ w = w' := by
  have HN := Lib.hid hn
  have hn' : n ≤ 2 ^ 63 - 1 := by omega
  have HA := Lib.hid hA
  have HR := Lib.hid R
  clear hn hA R
  go_enter Tryz.func95, Tryz.ntmps95
  go_wp2
  go_loop [1, 5] (fun kk i => ∃ m : Nat, m ≤ n ∧ i = .int .i64 m ∧ kk = .int .i64 (k0 + 2 * m)) (fun _ i => n - (intOf i).toNat)
  case atStart => exact ⟨0, Nat.zero_le _, rfl, by simp⟩
  case round =>
    obtain ⟨m, hm, rfl, rfl⟩ := hrel
    by_cases hlt : m < n
    · obtain rfl := HA.out (by omega)
      have hml : m < (mkPods k0 n).length := by rw [mkPods_len]; exact hlt
      obtain ⟨p0, p1⟩ := podCs_at (mkPods k0 n) hml
      have t0 := (HR.out (m * 2) (by rw [podCs_len, mkPods_len]; omega)).1.trans p0
      have t1 := (HR.out (m * 2 + 1) (by rw [podCs_len, mkPods_len]; omega)).1.trans p1
      rw [mkPods_at hlt] at t0 t1
      dsimp only at t0 t1
      have hb := HN.out
      clear p0 p1 hml
      skip
      go_wp2
      exact ⟨⟨m + 1, by omega, by go_num, by congr 1; omega⟩, by simp [intOf]; omega⟩
    · obtain rfl : m = n := by omega
      go_wp2
      go_ret
      exact ⟨rfl, rfl⟩

set_option maxHeartbeats 1000000 in
theorem markMountAtS_any (A : Option Addr) (n c g : Nat) (k0 : Int) (l : List (Bool × Int)) (w : World) (hl : l.length = n) (hA : 0 < n → A = some ⟨g, 0, none⟩) (R : RowV w g (mntCs l)) (hn : n ≤ 1048576) (h0 : 0 ≤ k0) (h1 : k0 ≤ 8388608) :
    Calls Tryz.prog 89 #[.slice A n c, .int .i64 k0] w fun e w' => e = .returned (.int .i64 (k0 + 2 * n)) ∧ RowV w' g (mntCs (mkMnts k0 n)) ∧ Keeps (· = g) w w' := by
  have HN := Lib.hid hn
  have hn' : n ≤ 2 ^ 63 - 1 := by omega
  have HA := Lib.hid hA
  have HR := Lib.hid R
  have HLN := Lib.hid hl
  clear hn hA R hl
  go_enter Tryz.func89, Tryz.ntmps89
  go_wp2
  go_loopw [1, 5] (fun kk i wr => ∃ (m : Nat) (l : List (Bool × Int)), m ≤ n ∧ i = .int .i64 m ∧ kk = .int .i64 (k0 + 2 * m) ∧ Hid (l.length = n) ∧ RowV wr g (mntCs l) ∧ Hid (∀ j, j < m → mntA l j = (m3 (k0 + 2 * j), k0 + 2 * j + 1)) ∧ Keeps (· = g) w wr) (fun _ i _ => n - (intOf i).toNat)
  case atStart => exact ⟨0, l, Nat.zero_le _, rfl, by simp, HLN, HR.out, Lib.hid (fun j hj => absurd hj (by omega)), Keeps.refl _ _⟩
  case round =>
    clear HR HLN
    obtain ⟨m, l, hm, rfl, rfl, HL, Y, HE, K⟩ := hrel
    by_cases hlt : m < n
    · obtain rfl := HA.out (by omega)
      have hml : m < l.length := by rw [HL.out]; exact hlt
      have y0 := Y (m * 2) (by rw [mntCs_len, HL.out]; omega)
      have y1 := Y (m * 2 + 1) (by rw [mntCs_len, HL.out]; omega)
      obtain ⟨p0, p1⟩ := mntCs_at l hml
      rw [p0] at y0
      rw [p1] at y1
      obtain ⟨t0, f0⟩ := y0
      obtain ⟨t1, f1⟩ := y1
      have hb := HN.out
      have HY := Lib.hid Y
      have HML := Lib.hid hml
      clear Y p0 p1 hml
      generalize mntA l m = r at *
      obtain ⟨r0, r1⟩ := r
      dsimp only at t0 t1
      go_wp2
      refine ⟨⟨m + 1, l.set m (m3 (k0 + 2 * m), k0 + 2 * m + 1), by omega, by go_num, by congr 1; omega, Lib.hid (by rw [List.length_set]; exact HL.out), ?_, Lib.hid fun j hj => ?_, (K.set rfl _).set rfl _⟩, by simp [intOf]; omega⟩
      · rw [mntCs_set _ HML.out]
        exact (HY.out.set (i := m * 2) (by rw [mntCs_len, HL.out]; omega) _).set (i := m * 2 + 1) (by rw [List.length_set, mntCs_len, HL.out]; omega) _
      · have HE' := HE.out j
        unfold mntA at HE' ⊢
        rw [getD_set_ _ _ _ _ _ HML.out]
        by_cases e : j = m
        · subst e; rw [if_pos rfl]
        · rw [if_neg e]; exact HE' (by omega)
    · obtain rfl : m = n := by omega
      have e9 : l = mkMnts k0 m := ext_getD (false, 0) (by rw [HL.out, mkMnts_len]) fun j hj => by
        have := HE.out j (by rw [← HL.out]; exact hj)
        unfold mntA at this
        rw [this]
        exact (mkMnts_at (k := k0) (n := m) (i := j) (by rw [← HL.out]; exact hj)).symm
      have HY := Lib.hid (e9 ▸ Y)
      clear Y e9
      go_wp2
      go_ret
      exact ⟨rfl, HY.out, K⟩
set_option maxHeartbeats 1000000 in
theorem heldMountAtS_any (A : Option Addr) (n c g : Nat) (k0 : Int) (w : World) (hA : 0 < n → A = some ⟨g, 0, none⟩) (R : RowV w g (mntCs (mkMnts k0 n))) (hn : n ≤ 1048576) (h0 : 0 ≤ k0) (h1 : k0 ≤ 8388608) :
    Calls Tryz.prog 96 #[.slice A n c, .int .i64 k0] w fun e w' => e = .returned (.int .i64 (k0 + 2 * n)) ∧ w = w' := by
  have HN := Lib.hid hn
  have hn' : n ≤ 2 ^ 63 - 1 := by omega
  have HA := Lib.hid hA
  have HR := Lib.hid R
  clear hn hA R
  go_enter Tryz.func96, Tryz.ntmps96
  go_wp2
  go_loop [1, 5] (fun kk i => ∃ m : Nat, m ≤ n ∧ i = .int .i64 m ∧ kk = .int .i64 (k0 + 2 * m)) (fun _ i => n - (intOf i).toNat)
  case atStart => exact ⟨0, Nat.zero_le _, rfl, by simp⟩
  case round =>
    obtain ⟨m, hm, rfl, rfl⟩ := hrel
    by_cases hlt : m < n
    · obtain rfl := HA.out (by omega)
      have hml : m < (mkMnts k0 n).length := by rw [mkMnts_len]; exact hlt
      obtain ⟨p0, p1⟩ := mntCs_at (mkMnts k0 n) hml
      have t0 := (HR.out (m * 2) (by rw [mntCs_len, mkMnts_len]; omega)).1.trans p0
      have t1 := (HR.out (m * 2 + 1) (by rw [mntCs_len, mkMnts_len]; omega)).1.trans p1
      rw [mkMnts_at hlt] at t0 t1
      dsimp only at t0 t1
      have hb := HN.out
      clear p0 p1 hml
      unfold m3 at t0
      go_wp2
      exact ⟨⟨m + 1, by omega, by go_num, by congr 1; omega⟩, by simp [intOf]; omega⟩
    · obtain rfl : m = n := by omega
      go_wp2
      go_ret
      exact ⟨rfl, rfl⟩

set_option maxHeartbeats 1000000 in
theorem markBoolS_any (A : Option Addr) (n c g : Nat) (k0 : Int) (l : List Bool) (w : World) (hl : l.length = n) (hA : 0 < n → A = some ⟨g, 0, none⟩) (R : RowV w g (devCs l)) (hn : n ≤ 1048576) (h0 : 0 ≤ k0) (h1 : k0 ≤ 8388608) :
    Calls Tryz.prog 90 #[.slice A n c, .int .i64 k0] w fun e w' => e = .returned (.int .i64 (k0 + n)) ∧ RowV w' g (devCs (mkDevs k0 n)) ∧ Keeps (· = g) w w' := by
  have HN := Lib.hid hn
  have hn' : n ≤ 2 ^ 63 - 1 := by omega
  have HA := Lib.hid hA
  have HR := Lib.hid R
  have HLN := Lib.hid hl
  clear hn hA R hl
  go_enter Tryz.func90, Tryz.ntmps90
  go_wp2
  go_loopw [1, 5] (fun kk i wr => ∃ (m : Nat) (l : List Bool), m ≤ n ∧ i = .int .i64 m ∧ kk = .int .i64 (k0 + m) ∧ Hid (l.length = n) ∧ RowV wr g (devCs l) ∧ Hid (∀ j, j < m → devA l j = m3 (k0 + j)) ∧ Keeps (· = g) w wr) (fun _ i _ => n - (intOf i).toNat)
  case atStart => exact ⟨0, l, Nat.zero_le _, rfl, by simp, HLN, HR.out, Lib.hid (fun j hj => absurd hj (by omega)), Keeps.refl _ _⟩
  case round =>
    clear HR HLN
    obtain ⟨m, l, hm, rfl, rfl, HL, Y, HE, K⟩ := hrel
    by_cases hlt : m < n
    · obtain rfl := HA.out (by omega)
      have hml : m < l.length := by rw [HL.out]; exact hlt
      have y0 := Y m (by rw [devCs_len, HL.out]; omega)
      rw [devCs_at l hml] at y0
      obtain ⟨t0, f0⟩ := y0
      have hb := HN.out
      have HY := Lib.hid Y
      have HML := Lib.hid hml
      clear Y hml
      generalize devA l m = r at *
      go_wp2
      refine ⟨⟨m + 1, l.set m (m3 (k0 + m)), by omega, by go_num, by go_num, Lib.hid (by rw [List.length_set]; exact HL.out), ?_, Lib.hid fun j hj => ?_, K.set rfl _⟩, by simp [intOf]; omega⟩
      · rw [devCs_set]
        exact HY.out.set (i := m) (by rw [devCs_len, HL.out]; omega) _
      · have HE' := HE.out j
        unfold devA at HE' ⊢
        rw [getD_set_ _ _ _ _ _ HML.out]
        by_cases e : j = m
        · subst e; rw [if_pos rfl]
        · rw [if_neg e]; exact HE' (by omega)
    · obtain rfl : m = n := by omega
      have e9 : l = mkDevs k0 m := ext_getD false (by rw [HL.out, mkDevs_len]) fun j hj => by
        have := HE.out j (by rw [← HL.out]; exact hj)
        unfold devA at this
        rw [this]
        exact (mkDevs_at (k := k0) (n := m) (i := j) (by rw [← HL.out]; exact hj)).symm
      have HY := Lib.hid (e9 ▸ Y)
      clear Y e9
      go_wp2
      go_ret
      exact ⟨rfl, HY.out, K⟩
set_option maxHeartbeats 1000000 in
theorem heldBoolS_any (A : Option Addr) (n c g : Nat) (k0 : Int) (w : World) (hA : 0 < n → A = some ⟨g, 0, none⟩) (R : RowV w g (devCs (mkDevs k0 n))) (hn : n ≤ 1048576) (h0 : 0 ≤ k0) (h1 : k0 ≤ 8388608) :
    Calls Tryz.prog 97 #[.slice A n c, .int .i64 k0] w fun e w' => e = .returned (.int .i64 (k0 + n)) ∧ w = w' := by
  have HN := Lib.hid hn
  have hn' : n ≤ 2 ^ 63 - 1 := by omega
  have HA := Lib.hid hA
  have HR := Lib.hid R
  clear hn hA R
  go_enter Tryz.func97, Tryz.ntmps97
  go_wp2
  go_loop [1, 5] (fun kk i => ∃ m : Nat, m ≤ n ∧ i = .int .i64 m ∧ kk = .int .i64 (k0 + m)) (fun _ i => n - (intOf i).toNat)
  case atStart => exact ⟨0, Nat.zero_le _, rfl, by simp⟩
  case round =>
    obtain ⟨m, hm, rfl, rfl⟩ := hrel
    by_cases hlt : m < n
    · obtain rfl := HA.out (by omega)
      have hml : m < (mkDevs k0 n).length := by rw [mkDevs_len]; exact hlt
      have t0 := (HR.out m (by rw [devCs_len, mkDevs_len]; omega)).1.trans (devCs_at (mkDevs k0 n) hml)
      rw [mkDevs_at hlt] at t0
      have hb := HN.out
      clear hml
      unfold m3 at t0
      go_wp2
      exact ⟨⟨m + 1, by omega, by go_num, by go_num⟩, by simp [intOf]; omega⟩
    · obtain rfl : m = n := by omega
      go_wp2
      go_ret
      exact ⟨rfl, rfl⟩

set_option maxHeartbeats 1000000 in
theorem markInts_any (A : Option Addr) (n c g : Nat) (k0 : Int) (l : List Int) (w : World) (hl : l.length = n) (hA : 0 < n → A = some ⟨g, 0, none⟩) (R : RowV w g (lkCs l)) (hn : n ≤ 1048576) (h0 : 0 ≤ k0) (h1 : k0 ≤ 8388608) :
    Calls Tryz.prog 48 #[.slice A n c, .int .i64 k0] w fun e w' => e = .returned (.int .i64 (k0 + n)) ∧ RowV w' g (lkCs (mkLks k0 n)) ∧ Keeps (· = g) w w' := by
  have HN := Lib.hid hn
  have hn' : n ≤ 2 ^ 63 - 1 := by omega
  have HA := Lib.hid hA
  have HR := Lib.hid R
  have HLN := Lib.hid hl
  clear hn hA R hl
  go_enter Tryz.func48, Tryz.ntmps48
  go_wp2
  go_loopw [1, 5] (fun kk i wr => ∃ (m : Nat) (l : List Int), m ≤ n ∧ i = .int .i64 m ∧ kk = .int .i64 (k0 + m) ∧ Hid (l.length = n) ∧ RowV wr g (lkCs l) ∧ Hid (∀ j, j < m → lkA l j = k0 + j) ∧ Keeps (· = g) w wr) (fun _ i _ => n - (intOf i).toNat)
  case atStart => exact ⟨0, l, Nat.zero_le _, rfl, by simp, HLN, HR.out, Lib.hid (fun j hj => absurd hj (by omega)), Keeps.refl _ _⟩
  case round =>
    clear HR HLN
    obtain ⟨m, l, hm, rfl, rfl, HL, Y, HE, K⟩ := hrel
    by_cases hlt : m < n
    · obtain rfl := HA.out (by omega)
      have hml : m < l.length := by rw [HL.out]; exact hlt
      have y0 := Y m (by rw [lkCs_len, HL.out]; omega)
      rw [lkCs_at l hml] at y0
      obtain ⟨t0, f0⟩ := y0
      have hb := HN.out
      have HY := Lib.hid Y
      have HML := Lib.hid hml
      clear Y hml
      generalize lkA l m = r at *
      go_wp2
      refine ⟨⟨m + 1, l.set m (k0 + m), by omega, by go_num, by go_num, Lib.hid (by rw [List.length_set]; exact HL.out), ?_, Lib.hid fun j hj => ?_, K.set rfl _⟩, by simp [intOf]; omega⟩
      · rw [lkCs_set]
        exact HY.out.set (i := m) (by rw [lkCs_len, HL.out]; omega) _
      · have HE' := HE.out j
        unfold lkA at HE' ⊢
        rw [getD_set_ _ _ _ _ _ HML.out]
        by_cases e : j = m
        · subst e; rw [if_pos rfl]
        · rw [if_neg e]; exact HE' (by omega)
    · obtain rfl : m = n := by omega
      have e9 : l = mkLks k0 m := ext_getD 0 (by rw [HL.out, mkLks_len]) fun j hj => by
        have := HE.out j (by rw [← HL.out]; exact hj)
        unfold lkA at this
        rw [this]
        exact (mkLks_at (k := k0) (n := m) (i := j) (by rw [← HL.out]; exact hj)).symm
      have HY := Lib.hid (e9 ▸ Y)
      clear Y e9
      go_wp2
      go_ret
      exact ⟨rfl, HY.out, K⟩
set_option maxHeartbeats 1000000 in
theorem heldInts_any (A : Option Addr) (n c g : Nat) (k0 : Int) (w : World) (hA : 0 < n → A = some ⟨g, 0, none⟩) (R : RowV w g (lkCs (mkLks k0 n))) (hn : n ≤ 1048576) (h0 : 0 ≤ k0) (h1 : k0 ≤ 8388608) :
    Calls Tryz.prog 92 #[.slice A n c, .int .i64 k0] w fun e w' => e = .returned (.int .i64 (k0 + n)) ∧ w = w' := by
  have HN := Lib.hid hn
  have hn' : n ≤ 2 ^ 63 - 1 := by omega
  have HA := Lib.hid hA
  have HR := Lib.hid R
  clear hn hA R
  go_enter Tryz.func92, Tryz.ntmps92
  go_wp2
  go_loop [1, 5] (fun kk i => ∃ m : Nat, m ≤ n ∧ i = .int .i64 m ∧ kk = .int .i64 (k0 + m)) (fun _ i => n - (intOf i).toNat)
  case atStart => exact ⟨0, Nat.zero_le _, rfl, by simp⟩
  case round =>
    obtain ⟨m, hm, rfl, rfl⟩ := hrel
    by_cases hlt : m < n
    · obtain rfl := HA.out (by omega)
      have hml : m < (mkLks k0 n).length := by rw [mkLks_len]; exact hlt
      have t0 := (HR.out m (by rw [lkCs_len, mkLks_len]; omega)).1.trans (lkCs_at (mkLks k0 n) hml)
      rw [mkLks_at hlt] at t0
      have hb := HN.out
      clear hml
      skip
      go_wp2
      exact ⟨⟨m + 1, by omega, by go_num, by go_num⟩, by simp [intOf]; omega⟩
    · obtain rfl : m = n := by omega
      go_wp2
      go_ret
      exact ⟨rfl, rfl⟩
end Go.Proofs.YtkefbmbjkijilaaGreatDoor
/- Uf -/
set_option linter.unusedVariables false
namespace Go.Proofs.YtkefbmbjkijilaaGreatDoor
open Go.RowKit

theorem RowV.keepsC {S : Nat → Prop} {w w' : World} {g : Nat} {xs : List Value} (h : RowV w g xs) (k : Keeps S w w') (hg : 0 < xs.length → g < w.heap.size) (hn : ¬ S g) : RowV w' g xs := fun j hj => RowV.keeps h k (hg (by omega)) hn j hj
/-- A state whose four lists lie in blocks of their own, all writable. -/
structure Rows4 (w : World) (v : Value) (s : StD) (g0 g1 g2 g3 : Nat) : Prop where
  val : ∃ A0 A1 A2 A3 c0 c1 c2 c3, v = .agg (stC A0 A1 A2 A3 s.pods.length c0 s.mnts.length c1 s.devs.length c2 s.lks.length c3 s.ph s.co s.ck s.bo s.ba s.lb s.gd s.pr) ∧
    (0 < s.pods.length → A0 = some ⟨g0, 0, none⟩) ∧ (0 < s.mnts.length → A1 = some ⟨g1, 0, none⟩) ∧ (0 < s.devs.length → A2 = some ⟨g2, 0, none⟩) ∧ (0 < s.lks.length → A3 = some ⟨g3, 0, none⟩)
  z0 : 0 < s.pods.length → g0 < w.heap.size
  R0 : RowV w g0 (podCs s.pods)
  z1 : 0 < s.mnts.length → g1 < w.heap.size
  R1 : RowV w g1 (mntCs s.mnts)
  z2 : 0 < s.devs.length → g2 < w.heap.size
  R2 : RowV w g2 (devCs s.devs)
  z3 : 0 < s.lks.length → g3 < w.heap.size
  R3 : RowV w g3 (lkCs s.lks)
  d01 : g0 ≠ g1
  d02 : g0 ≠ g2
  d03 : g0 ≠ g3
  d12 : g1 ≠ g2
  d13 : g1 ≠ g3
  d23 : g2 ≠ g3
theorem NewSt.rows {w w' : World} {s : StD} {g0 g1 g2 g3 : Nat} (h : NewSt w w' s g0 g1 g2 g3) : Rows4 w' (newStV s g0 g1 g2 g3) s g0 g1 g2 g3 := by
  obtain ⟨l0, l1, l2, l3, l4, R0, R1, R2, R3⟩ := h
  exact { val := ⟨_, _, _, _, _, _, _, _, rfl, fun _ => rfl, fun _ => rfl, fun _ => rfl, fun _ => rfl⟩, z0 := fun _ => by omega, z1 := fun _ => by omega, z2 := fun _ => by omega, z3 := fun _ => by omega, R0 := R0, R1 := R1, R2 := R2, R3 := R3, d01 := by omega, d02 := by omega, d03 := by omega, d12 := by omega, d13 := by omega, d23 := by omega }
theorem row_type {w : World} {B B' e e' k k' n n' g : Nat} {v v' : Value} {xs xs' : List Value} (h : w.ownsRow B e k v n xs) (h' : w.ownsRow B' e' k' v' n' xs') (hv : v.ownBlock = some g) (hv' : v'.ownBlock = some g) : e = e' := by
  rcases h.2 with ⟨rfl, _⟩ | ⟨g1, c1, cur1, rfl, _, hh1, _⟩
  · simp [Value.ownBlock] at hv
  · rcases h'.2 with ⟨rfl, _⟩ | ⟨g2, c2, cur2, rfl, _, hh2, _⟩
    · simp [Value.ownBlock] at hv'
    · obtain rfl : g1 = g := by simpa [Value.ownBlock] using hv
      obtain rfl : g2 = g1 := by simpa [Value.ownBlock] using hv'
      rw [hh1] at hh2
      injection hh2 with hh2
      injection hh2 with _ h2 _
/-- A row of the call's own, its block named; a number of choice where it has none. -/
theorem row_named {w : World} {B e k n : Nat} {v : Value} {xs : List Value} (h : w.ownsRow B e k v n xs) (hB : B ≤ w.heap.size) (m : Nat) (hm : w.heap.size ≤ m) :
    ∃ A c g, v = .slice A n c ∧ (0 < n → A = some ⟨g, 0, none⟩) ∧ B ≤ g ∧ (0 < n → g < w.heap.size) ∧ RowV w g xs ∧ ((v.ownBlock = some g ∧ g < w.heap.size) ∨ g = m) := by
  obtain ⟨A, c, g, hv, hA, hnc, hb, hg, hR, hS, hx⟩ := open_row h
  by_cases hn : 0 < n
  · refine ⟨A, c, g, hv, hA, hb, hg, hR, .inl ⟨?_, hg hn⟩⟩
    rw [hv, hA hn]
    rfl
  · refine ⟨A, c, m, hv, fun h => absurd h hn, by omega, fun h => absurd h hn, fun j hj => ?_, .inr rfl⟩
    have := h.1
    obtain rfl : n = 0 := by omega
    omega
theorem OwnSt.rows {w : World} {B : Nat} {v : Value} {s : StD} (h : OwnSt w B v s) (hB : B ≤ w.heap.size) : ∃ g0 g1 g2 g3, Rows4 w v s g0 g1 g2 g3 ∧ B ≤ g0 ∧ B ≤ g1 ∧ B ≤ g2 ∧ B ≤ g3 := by
  obtain ⟨v0, v1, v2, v3, rfl, h0, h1, h2, h3⟩ := h.it
  obtain ⟨A0, c0, g0, e0, a0, b0, z0, R0, o0⟩ := row_named h0 hB (w.heap.size + 0) (by omega)
  obtain ⟨A1, c1, g1, e1, a1, b1, z1, R1, o1⟩ := row_named h1 hB (w.heap.size + 1) (by omega)
  obtain ⟨A2, c2, g2, e2, a2, b2, z2, R2, o2⟩ := row_named h2 hB (w.heap.size + 2) (by omega)
  obtain ⟨A3, c3, g3, e3, a3, b3, z3, R3, o3⟩ := row_named h3 hB (w.heap.size + 3) (by omega)
  have d01 : g0 ≠ g1 := fun e => by
    rcases o0 with ⟨p, q⟩ | p
    · rcases o1 with ⟨p', q'⟩ | p'
      · exact absurd (row_type h0 h1 p (by rw [e]; exact p')) (by decide)
      · omega
    · rcases o1 with ⟨p', q'⟩ | p'
      · omega
      · omega
  have d02 : g0 ≠ g2 := fun e => by
    rcases o0 with ⟨p, q⟩ | p
    · rcases o2 with ⟨p', q'⟩ | p'
      · exact absurd (row_type h0 h2 p (by rw [e]; exact p')) (by decide)
      · omega
    · rcases o2 with ⟨p', q'⟩ | p'
      · omega
      · omega
  have d03 : g0 ≠ g3 := fun e => by
    rcases o0 with ⟨p, q⟩ | p
    · rcases o3 with ⟨p', q'⟩ | p'
      · exact absurd (row_type h0 h3 p (by rw [e]; exact p')) (by decide)
      · omega
    · rcases o3 with ⟨p', q'⟩ | p'
      · omega
      · omega
  have d12 : g1 ≠ g2 := fun e => by
    rcases o1 with ⟨p, q⟩ | p
    · rcases o2 with ⟨p', q'⟩ | p'
      · exact absurd (row_type h1 h2 p (by rw [e]; exact p')) (by decide)
      · omega
    · rcases o2 with ⟨p', q'⟩ | p'
      · omega
      · omega
  have d13 : g1 ≠ g3 := fun e => by
    rcases o1 with ⟨p, q⟩ | p
    · rcases o3 with ⟨p', q'⟩ | p'
      · exact absurd (row_type h1 h3 p (by rw [e]; exact p')) (by decide)
      · omega
    · rcases o3 with ⟨p', q'⟩ | p'
      · omega
      · omega
  have d23 : g2 ≠ g3 := fun e => by
    rcases o2 with ⟨p, q⟩ | p
    · rcases o3 with ⟨p', q'⟩ | p'
      · exact absurd (row_type h2 h3 p (by rw [e]; exact p')) (by decide)
      · omega
    · rcases o3 with ⟨p', q'⟩ | p'
      · omega
      · omega
  subst e0 e1 e2 e3
  exact ⟨g0, g1, g2, g3, { val := ⟨A0, A1, A2, A3, c0, c1, c2, c3, rfl, a0, a1, a2, a3⟩, z0 := z0, z1 := z1, z2 := z2, z3 := z3, R0 := R0, R1 := R1, R2 := R2, R3 := R3, d01 := d01, d02 := d02, d03 := d03, d12 := d12, d13 := d13, d23 := d23 }, b0, b1, b2, b3⟩
theorem keep_none {S : Nat → Prop} {w w' : World} (k : Keeps (· = w.heap.size) w w') : Keeps S w w' := ⟨k.os, k.tape, k.output, k.size, fun b hb _ => k.block b hb (by omega)⟩
theorem rowv_nil (w : World) (g : Nat) : RowV w g [] := fun j hj => by simp at hj
theorem markPodAtS_at (A : Option Addr) (n c g : Nat) (k0 : Int) (l : List (Int × Int)) (w : World) (hl : l.length = n) (hA : 0 < n → A = some ⟨g, 0, none⟩) (R : RowV w g (podCs l)) (hn : n ≤ 1048576) (h0 : 0 ≤ k0) (h1 : k0 ≤ 8388608) :
    Calls Tryz.prog 88 #[.slice A n c, .int .i64 k0] w fun e w' => e = .returned (.int .i64 (k0 + 2 * n)) ∧ RowV w' g (podCs (mkPods k0 n)) ∧ Keeps (fun b => b = g ∧ 0 < n) w w' := by
  by_cases h : 0 < n
  · refine (markPodAtS_any A n c g k0 l w hl hA R hn h0 h1).mono fun e w' hh => ⟨hh.1, hh.2.1, hh.2.2.mono fun b hb => ⟨hb, h⟩⟩
  · obtain rfl : n = 0 := by omega
    have e : l = [] := List.eq_nil_of_length_eq_zero hl
    subst e
    refine (markPodAtS_any A 0 c w.heap.size k0 [] w rfl (fun h => absurd h (by omega)) (rowv_nil _ _) hn h0 h1).mono fun e w' hh => ⟨hh.1, rowv_nil _ _, keep_none hh.2.2⟩
theorem markMountAtS_at (A : Option Addr) (n c g : Nat) (k0 : Int) (l : List (Bool × Int)) (w : World) (hl : l.length = n) (hA : 0 < n → A = some ⟨g, 0, none⟩) (R : RowV w g (mntCs l)) (hn : n ≤ 1048576) (h0 : 0 ≤ k0) (h1 : k0 ≤ 8388608) :
    Calls Tryz.prog 89 #[.slice A n c, .int .i64 k0] w fun e w' => e = .returned (.int .i64 (k0 + 2 * n)) ∧ RowV w' g (mntCs (mkMnts k0 n)) ∧ Keeps (fun b => b = g ∧ 0 < n) w w' := by
  by_cases h : 0 < n
  · refine (markMountAtS_any A n c g k0 l w hl hA R hn h0 h1).mono fun e w' hh => ⟨hh.1, hh.2.1, hh.2.2.mono fun b hb => ⟨hb, h⟩⟩
  · obtain rfl : n = 0 := by omega
    have e : l = [] := List.eq_nil_of_length_eq_zero hl
    subst e
    refine (markMountAtS_any A 0 c w.heap.size k0 [] w rfl (fun h => absurd h (by omega)) (rowv_nil _ _) hn h0 h1).mono fun e w' hh => ⟨hh.1, rowv_nil _ _, keep_none hh.2.2⟩
theorem markBoolS_at (A : Option Addr) (n c g : Nat) (k0 : Int) (l : List Bool) (w : World) (hl : l.length = n) (hA : 0 < n → A = some ⟨g, 0, none⟩) (R : RowV w g (devCs l)) (hn : n ≤ 1048576) (h0 : 0 ≤ k0) (h1 : k0 ≤ 8388608) :
    Calls Tryz.prog 90 #[.slice A n c, .int .i64 k0] w fun e w' => e = .returned (.int .i64 (k0 + n)) ∧ RowV w' g (devCs (mkDevs k0 n)) ∧ Keeps (fun b => b = g ∧ 0 < n) w w' := by
  by_cases h : 0 < n
  · refine (markBoolS_any A n c g k0 l w hl hA R hn h0 h1).mono fun e w' hh => ⟨hh.1, hh.2.1, hh.2.2.mono fun b hb => ⟨hb, h⟩⟩
  · obtain rfl : n = 0 := by omega
    have e : l = [] := List.eq_nil_of_length_eq_zero hl
    subst e
    refine (markBoolS_any A 0 c w.heap.size k0 [] w rfl (fun h => absurd h (by omega)) (rowv_nil _ _) hn h0 h1).mono fun e w' hh => ⟨hh.1, rowv_nil _ _, keep_none hh.2.2⟩
theorem markInts_at (A : Option Addr) (n c g : Nat) (k0 : Int) (l : List Int) (w : World) (hl : l.length = n) (hA : 0 < n → A = some ⟨g, 0, none⟩) (R : RowV w g (lkCs l)) (hn : n ≤ 1048576) (h0 : 0 ≤ k0) (h1 : k0 ≤ 8388608) :
    Calls Tryz.prog 48 #[.slice A n c, .int .i64 k0] w fun e w' => e = .returned (.int .i64 (k0 + n)) ∧ RowV w' g (lkCs (mkLks k0 n)) ∧ Keeps (fun b => b = g ∧ 0 < n) w w' := by
  by_cases h : 0 < n
  · refine (markInts_any A n c g k0 l w hl hA R hn h0 h1).mono fun e w' hh => ⟨hh.1, hh.2.1, hh.2.2.mono fun b hb => ⟨hb, h⟩⟩
  · obtain rfl : n = 0 := by omega
    have e : l = [] := List.eq_nil_of_length_eq_zero hl
    subst e
    refine (markInts_any A 0 c w.heap.size k0 [] w rfl (fun h => absurd h (by omega)) (rowv_nil _ _) hn h0 h1).mono fun e w' hh => ⟨hh.1, rowv_nil _ _, keep_none hh.2.2⟩
theorem Rows4.go {w w' : World} {v : Value} {s : StD} {g0 g1 g2 g3 : Nat} (h : Rows4 w v s g0 g1 g2 g3) (hb : Below w.heap.size w w') : Rows4 w' v s g0 g1 g2 g3 := by
  obtain ⟨hv, z0, R0, z1, R1, z2, R2, z3, R3, d01, d02, d03, d12, d13, d23⟩ := h
  exact ⟨hv, fun h => Nat.lt_of_lt_of_le (z0 h) hb.size, R0.go (fun h => z0 (by rw [podCs_len] at h; omega)) hb, fun h => Nat.lt_of_lt_of_le (z1 h) hb.size, R1.go (fun h => z1 (by rw [mntCs_len] at h; omega)) hb,
    fun h => Nat.lt_of_lt_of_le (z2 h) hb.size, R2.go (fun h => z2 (by rw [devCs_len] at h; omega)) hb, fun h => Nat.lt_of_lt_of_le (z3 h) hb.size, R3.go (fun h => z3 (by rw [lkCs_len] at h; omega)) hb, d01, d02, d03, d12, d13, d23⟩

/-- How many marks a state takes. -/
def totS (s : StD) : Nat := 2 * s.pods.length + 2 * s.mnts.length + s.devs.length + s.lks.length
/-- A state marked. -/
def markS (k : Int) (s : StD) : StD := { s with
  pods := mkPods k s.pods.length
  mnts := mkMnts (k + 2 * s.pods.length) s.mnts.length
  devs := mkDevs (k + 2 * s.pods.length + 2 * s.mnts.length) s.devs.length
  lks := mkLks (k + 2 * s.pods.length + 2 * s.mnts.length + s.devs.length) s.lks.length }
set_option maxHeartbeats 2000000 in
theorem markState_any (v : Value) (s : StD) (g0 g1 g2 g3 : Nat) (k : Int) (w : World) (h : Rows4 w v s g0 g1 g2 g3) (hf : StFits s 1048576) (hk0 : 0 ≤ k) (hk1 : k + totS s ≤ 8388608) :
    Calls Tryz.prog 51 #[v, .int .i64 k] w fun e w' => e = .returned (.int .i64 (k + totS s)) ∧ Rows4 w' v (markS k s) g0 g1 g2 g3 ∧ Keeps (fun b => b = g0 ∨ b = g1 ∨ b = g2 ∨ b = g3) w w' := by
  obtain ⟨⟨A0, A1, A2, A3, c0, c1, c2, c3, rfl, a0, a1, a2, a3⟩, z0, R0, z1, R1, z2, R2, z3, R3, d01, d02, d03, d12, d13, d23⟩ := h
  obtain ⟨f0, f1, f2, f3⟩ := hf
  obtain ⟨ph, co, ck, bo, ba, lb, l0, l1, l2, l3, gd, pr⟩ := s
  unfold totS at hk1 ⊢
  unfold markS
  dsimp only at *
  have HA0 := Lib.hid a0
  have HZ0 := Lib.hid z0
  have HA1 := Lib.hid a1
  have HZ1 := Lib.hid z1
  have HA2 := Lib.hid a2
  have HZ2 := Lib.hid z2
  have HA3 := Lib.hid a3
  have HZ3 := Lib.hid z3
  generalize hq0 : l0.length = n0 at *
  have HQ0 := Lib.hid hq0
  generalize hq1 : l1.length = n1 at *
  have HQ1 := Lib.hid hq1
  generalize hq2 : l2.length = n2 at *
  have HQ2 := Lib.hid hq2
  generalize hq3 : l3.length = n3 at *
  have HQ3 := Lib.hid hq3
  clear a0 a1 a2 a3 z0 z1 z2 z3 hq0 hq1 hq2 hq3
  have K0 : Keeps (fun b => b = g0 ∨ b = g1 ∨ b = g2 ∨ b = g3) w (w.alloc (.cells (stC A0 A1 A2 A3 n0 c0 n1 c1 n2 c2 n3 c3 ph co ck bo ba lb gd pr) 46)) := Keeps.of_below ((Below.refl _ _).alloc (Nat.le_refl _) _)
  go_enter Tryz.func51, Tryz.ntmps51
  go_wp2_with fail
  have KK := K0
  have hbox := cell_new w (stC A0 A1 A2 A3 n0 c0 n1 c1 n2 c2 n3 c3 ph co ck bo ba lb gd pr) 46
  have hsz : w.heap.size < (w.alloc (.cells (stC A0 A1 A2 A3 n0 c0 n1 c1 n2 c2 n3 c3 ph co ck bo ba lb gd pr) 46)).heap.size := by simp
  replace R0 := R0.go (fun h => HZ0.out (by rw [podCs_len, HQ0.out] at h; omega)) ((Below.refl _ _).alloc (Nat.le_refl _) (.cells (stC A0 A1 A2 A3 n0 c0 n1 c1 n2 c2 n3 c3 ph co ck bo ba lb gd pr) 46))
  replace R1 := R1.go (fun h => HZ1.out (by rw [mntCs_len, HQ1.out] at h; omega)) ((Below.refl _ _).alloc (Nat.le_refl _) (.cells (stC A0 A1 A2 A3 n0 c0 n1 c1 n2 c2 n3 c3 ph co ck bo ba lb gd pr) 46))
  replace R2 := R2.go (fun h => HZ2.out (by rw [devCs_len, HQ2.out] at h; omega)) ((Below.refl _ _).alloc (Nat.le_refl _) (.cells (stC A0 A1 A2 A3 n0 c0 n1 c1 n2 c2 n3 c3 ph co ck bo ba lb gd pr) 46))
  replace R3 := R3.go (fun h => HZ3.out (by rw [lkCs_len, HQ3.out] at h; omega)) ((Below.refl _ _).alloc (Nat.le_refl _) (.cells (stC A0 A1 A2 A3 n0 c0 n1 c1 n2 c2 n3 c3 ph co ck bo ba lb gd pr) 46))
  generalize hw1 : w.alloc (.cells (stC A0 A1 A2 A3 n0 c0 n1 c1 n2 c2 n3 c3 ph co ck bo ba lb gd pr) 46) = w1 at *
  clear hw1 K0
  refine (markPodAtS_at A0 n0 c0 g0 (k) l0 w1 HQ0.out HA0.out R0 f0 (by omega) (by omega)).mono ?_
  rintro e w2 ⟨rfl, X0, hk⟩
  replace R1 := RowV.keepsC R1 hk (fun h => Nat.lt_trans (HZ1.out (by rw [mntCs_len, HQ1.out] at h; omega)) hsz) (fun h => d01 h.1.symm)
  replace R2 := RowV.keepsC R2 hk (fun h => Nat.lt_trans (HZ2.out (by rw [devCs_len, HQ2.out] at h; omega)) hsz) (fun h => d02 h.1.symm)
  replace R3 := RowV.keepsC R3 hk (fun h => Nat.lt_trans (HZ3.out (by rw [lkCs_len, HQ3.out] at h; omega)) hsz) (fun h => d03 h.1.symm)
  replace hbox := fun o => (hk.cell (p := ⟨w.heap.size, o, none⟩) hsz (fun h => by have := HZ0.out h.2; have h9 : w.heap.size = g0 := h.1; omega)).trans (hbox o)
  replace KK := KK.trans (hk.mono (fun b h => by rcases h with ⟨h, _⟩; subst h; simp))
  replace hsz := Nat.lt_of_lt_of_le hsz hk.size
  clear hk
  go_wp2_with fail
  refine (markMountAtS_at A1 n1 c1 g1 (k + 2 * (n0 : Int)) l1 w2 HQ1.out HA1.out R1 f1 (by omega) (by omega)).mono ?_
  rintro e w3 ⟨rfl, X1, hk⟩
  replace X0 := RowV.keepsC X0 hk (fun h => Nat.lt_trans (HZ0.out (by rw [podCs_len, mkPods_len] at h; omega)) hsz) (fun h => d01 h.1)
  replace R2 := RowV.keepsC R2 hk (fun h => Nat.lt_trans (HZ2.out (by rw [devCs_len, HQ2.out] at h; omega)) hsz) (fun h => d12 h.1.symm)
  replace R3 := RowV.keepsC R3 hk (fun h => Nat.lt_trans (HZ3.out (by rw [lkCs_len, HQ3.out] at h; omega)) hsz) (fun h => d13 h.1.symm)
  replace hbox := fun o => (hk.cell (p := ⟨w.heap.size, o, none⟩) hsz (fun h => by have := HZ1.out h.2; have h9 : w.heap.size = g1 := h.1; omega)).trans (hbox o)
  replace KK := KK.trans (hk.mono (fun b h => by rcases h with ⟨h, _⟩; subst h; simp))
  replace hsz := Nat.lt_of_lt_of_le hsz hk.size
  clear hk
  go_wp2_with fail
  refine (markBoolS_at A2 n2 c2 g2 (k + 2 * (n0 : Int) + 2 * (n1 : Int)) l2 w3 HQ2.out HA2.out R2 f2 (by omega) (by omega)).mono ?_
  rintro e w4 ⟨rfl, X2, hk⟩
  replace X0 := RowV.keepsC X0 hk (fun h => Nat.lt_trans (HZ0.out (by rw [podCs_len, mkPods_len] at h; omega)) hsz) (fun h => d02 h.1)
  replace X1 := RowV.keepsC X1 hk (fun h => Nat.lt_trans (HZ1.out (by rw [mntCs_len, mkMnts_len] at h; omega)) hsz) (fun h => d12 h.1)
  replace R3 := RowV.keepsC R3 hk (fun h => Nat.lt_trans (HZ3.out (by rw [lkCs_len, HQ3.out] at h; omega)) hsz) (fun h => d23 h.1.symm)
  replace hbox := fun o => (hk.cell (p := ⟨w.heap.size, o, none⟩) hsz (fun h => by have := HZ2.out h.2; have h9 : w.heap.size = g2 := h.1; omega)).trans (hbox o)
  replace KK := KK.trans (hk.mono (fun b h => by rcases h with ⟨h, _⟩; subst h; simp))
  replace hsz := Nat.lt_of_lt_of_le hsz hk.size
  clear hk
  go_wp2_with fail
  refine (markInts_at A3 n3 c3 g3 (k + 2 * (n0 : Int) + 2 * (n1 : Int) + (n2 : Int)) l3 w4 HQ3.out HA3.out R3 f3 (by omega) (by omega)).mono ?_
  rintro e w5 ⟨rfl, X3, hk⟩
  replace X0 := RowV.keepsC X0 hk (fun h => Nat.lt_trans (HZ0.out (by rw [podCs_len, mkPods_len] at h; omega)) hsz) (fun h => d03 h.1)
  replace X1 := RowV.keepsC X1 hk (fun h => Nat.lt_trans (HZ1.out (by rw [mntCs_len, mkMnts_len] at h; omega)) hsz) (fun h => d13 h.1)
  replace X2 := RowV.keepsC X2 hk (fun h => Nat.lt_trans (HZ2.out (by rw [devCs_len, mkDevs_len] at h; omega)) hsz) (fun h => d23 h.1)
  replace hbox := fun o => (hk.cell (p := ⟨w.heap.size, o, none⟩) hsz (fun h => by have := HZ3.out h.2; have h9 : w.heap.size = g3 := h.1; omega)).trans (hbox o)
  replace KK := KK.trans (hk.mono (fun b h => by rcases h with ⟨h, _⟩; subst h; simp))
  replace hsz := Nat.lt_of_lt_of_le hsz hk.size
  clear hk
  go_wp2_with fail
  go_ret
  refine ⟨?_, ?_, KK⟩
  · show Ending.returned (Value.int .i64 _) = _
    congr 2
    push_cast
    omega
  · exact { val := ⟨A0, A1, A2, A3, c0, c1, c2, c3, by simp only [mkPods_len, mkMnts_len, mkDevs_len, mkLks_len], fun h => HA0.out (by simpa [mkPods_len] using h), fun h => HA1.out (by simpa [mkMnts_len] using h), fun h => HA2.out (by simpa [mkDevs_len] using h), fun h => HA3.out (by simpa [mkLks_len] using h)⟩, z0 := fun h => Nat.lt_trans (HZ0.out (by simpa [mkPods_len] using h)) hsz, z1 := fun h => Nat.lt_trans (HZ1.out (by simpa [mkMnts_len] using h)) hsz, z2 := fun h => Nat.lt_trans (HZ2.out (by simpa [mkDevs_len] using h)) hsz, z3 := fun h => Nat.lt_trans (HZ3.out (by simpa [mkLks_len] using h)) hsz, R0 := X0, R1 := X1, R2 := X2, R3 := X3, d01 := d01, d02 := d02, d03 := d03, d12 := d12, d13 := d13, d23 := d23 }

set_option maxHeartbeats 2000000 in
theorem heldState_any (v : Value) (s : StD) (g0 g1 g2 g3 : Nat) (k : Int) (w : World) (h : Rows4 w v (markS k s) g0 g1 g2 g3) (hf : StFits s 1048576) (hk0 : 0 ≤ k) (hk1 : k + totS s ≤ 8388608) :
    Calls Tryz.prog 53 #[v, .int .i64 k] w fun e w' => e = .returned (.int .i64 (k + totS s)) ∧ Below w.heap.size w w' := by
  obtain ⟨⟨A0, A1, A2, A3, c0, c1, c2, c3, rfl, a0, a1, a2, a3⟩, z0, R0, z1, R1, z2, R2, z3, R3, -, -, -, -, -, -⟩ := h
  obtain ⟨f0, f1, f2, f3⟩ := hf
  obtain ⟨ph, co, ck, bo, ba, lb, l0, l1, l2, l3, gd, pr⟩ := s
  unfold totS at hk1 ⊢
  unfold markS at *
  dsimp only at *
  simp only [mkPods_len, mkMnts_len, mkDevs_len, mkLks_len] at *
  have HA0 := Lib.hid a0
  have HZ0 := Lib.hid z0
  have HR0 := Lib.hid R0
  have HA1 := Lib.hid a1
  have HZ1 := Lib.hid z1
  have HR1 := Lib.hid R1
  have HA2 := Lib.hid a2
  have HZ2 := Lib.hid z2
  have HR2 := Lib.hid R2
  have HA3 := Lib.hid a3
  have HZ3 := Lib.hid z3
  have HR3 := Lib.hid R3
  generalize hq0 : l0.length = n0 at *
  generalize hq1 : l1.length = n1 at *
  generalize hq2 : l2.length = n2 at *
  generalize hq3 : l3.length = n3 at *
  clear a0 a1 a2 a3 z0 z1 z2 z3 hq0 hq1 hq2 hq3 R0 R1 R2 R3
  have X : Below w.heap.size w (w.alloc (.cells (stC A0 A1 A2 A3 n0 c0 n1 c1 n2 c2 n3 c3 ph co ck bo ba lb gd pr) 46)) := (Below.refl _ _).alloc (Nat.le_refl _) _
  go_enter Tryz.func53, Tryz.ntmps53
  go_wp2_with fail
  refine (heldPodAtS_any A0 n0 c0 g0 (k) _ HA0.out (HR0.out.go (fun h => HZ0.out (by simp only [podCs_len, mkPods_len] at h; omega)) X) f0 (by omega) (by omega)).mono ?_
  rintro e w2 ⟨rfl, rfl⟩
  go_wp2_with fail
  refine (heldMountAtS_any A1 n1 c1 g1 (k + 2 * (n0 : Int)) _ HA1.out (HR1.out.go (fun h => HZ1.out (by simp only [mntCs_len, mkMnts_len] at h; omega)) X) f1 (by omega) (by omega)).mono ?_
  rintro e w3 ⟨rfl, rfl⟩
  go_wp2_with fail
  refine (heldBoolS_any A2 n2 c2 g2 (k + 2 * (n0 : Int) + 2 * (n1 : Int)) _ HA2.out (HR2.out.go (fun h => HZ2.out (by simp only [devCs_len, mkDevs_len] at h; omega)) X) f2 (by omega) (by omega)).mono ?_
  rintro e w4 ⟨rfl, rfl⟩
  go_wp2_with fail
  refine (heldInts_any A3 n3 c3 g3 (k + 2 * (n0 : Int) + 2 * (n1 : Int) + (n2 : Int)) _ HA3.out (HR3.out.go (fun h => HZ3.out (by simp only [lkCs_len, mkLks_len] at h; omega)) X) f3 (by omega) (by omega)).mono ?_
  rintro e w5 ⟨rfl, rfl⟩
  go_wp2_with fail
  go_ret
  refine ⟨?_, X⟩
  show Ending.returned (Value.int .i64 _) = _
  congr 2
  push_cast
  omega
end Go.Proofs.YtkefbmbjkijilaaGreatDoor
/- Um -/
set_option linter.unusedVariables false
namespace Go.Proofs.YtkefbmbjkijilaaGreatDoor
open Go.RowKit

theorem wpList_append_slv {w : World} {ops : Array Oper} {rest : List Oper} {o : Oper} {a : Act} {Q : Exit → Act → World → Prop} (hgd : o.guard = none) (s x : Operand) (t e : TypeId) (i0 : TypeInfo) (z : Value) (k by' : Nat)
    (ho : o.op = .call { callee := .builtin .append, args := #[s, x], argTypes := #[t, t] }) (hu : Tryz.prog.underlying t = some (.slice e)) (hi : Tryz.prog.info? e = some i0) (hz0 : i0.zero = some z) (hz1 : i0.size = k) (hz2 : i0.bytes = by')
    (hzs : z.cells.size = k) (hk : 0 < k) (hby : by' ≤ 1024) (base : Nat) (v : Value) (n : Nat) (xs : List Value) (hs : a.eval s = v) (hown : w.ownsRow base e k v n xs)
    (A : Option Addr) (m c : Nat) (ys : List Value) (hx : a.eval x = .slice A m c) (hr : A = none → c = 0) {B : Nat} (hb : SlV w B k A m ys) (h1 : ∀ u ∈ ys, u.oneCell' = true) (hlen : n + m ≤ 8388608) (hbase : base ≤ w.heap.size)
    (h : ∀ v' w', w'.ownsRow base e k v' (n + m) (xs ++ ys) → w.grownBy w' v.ownBlock → wpList Tryz.prog ops Q rest (a.put o.dst v') w') : wpList Tryz.prog ops Q (o :: rest) a w := by
  cases A with
  | none =>
    obtain rfl := hr rfl
    have hm : m = 0 := by
      rcases Nat.eq_zero_or_pos m with h | hne
      · exact h
      · obtain ⟨b, off, e, _⟩ := hb.it hne
        cases e
    subst hm
    have hys : ys = [] := List.eq_nil_of_length_eq_zero (by rw [hb.len]; simp)
    subst hys
    refine wpList_append_own_none hgd s x t ho base e i0 k hu hi v n xs hs hown hx ?_
    have := h v w (by rw [List.append_nil]; exact hown) ⟨rfl, rfl, rfl, Nat.le_refl _, fun _ _ _ => rfl⟩
    exact this
  | some ad =>
    refine wpList_append_own w hgd s x t ho base e i0 z k by' hu hi hz0 hz1 hz2 hzs hk v n xs hs hown ad m c ys hx hb.len ?_ h1 (by unfold maxLen; omega) ?_ hbase ?_
    · intro j y hy
      have hj : j < ys.length := (List.getElem?_eq_some_iff.1 hy).1
      have hl := hb.len
      have hm : 0 < m := by
        rcases Nat.eq_zero_or_pos m with h | h
        · subst h; omega
        · exact h
      obtain ⟨b, off, e, hb1, q⟩ := hb.it hm
      cases e
      have ha : (⟨b, off, none⟩ : Addr).add j = ⟨b, off + j, none⟩ := by unfold Addr.add; split <;> simp_all
      rw [ha, q j (by omega), hy]
    · have : (n + m) * by' ≤ 8388608 * 1024 := Nat.mul_le_mul hlen hby
      omega
    · intro v' w' h1 h2 _
      exact h v' w' h1 h2

theorem podCs_one (l : List (Int × Int)) : ∀ u ∈ podCs l, u.oneCell' = true := by
  induction l with
  | nil => simp [podCs]
  | cons q l ih =>
    intro u hu
    simp only [podCs, List.mem_cons] at hu
    rcases hu with rfl | rfl | hu
    · rfl
    · rfl
    · exact ih u hu
theorem mntCs_one (l : List (Bool × Int)) : ∀ u ∈ mntCs l, u.oneCell' = true := by
  induction l with
  | nil => simp [mntCs]
  | cons q l ih =>
    intro u hu
    simp only [mntCs, List.mem_cons] at hu
    rcases hu with rfl | rfl | hu
    · rfl
    · rfl
    · exact ih u hu
theorem devCs_one (l : List Bool) : ∀ u ∈ devCs l, u.oneCell' = true := by
  intro u hu
  obtain ⟨b, _, rfl⟩ := List.mem_map.1 hu
  rfl
theorem lkCs_one (l : List Int) : ∀ u ∈ lkCs l, u.oneCell' = true := by
  intro u hu
  obtain ⟨b, _, rfl⟩ := List.mem_map.1 hu
  rfl

theorem infoS_i64 : (Tryz.prog.info? 2).map (fun i => (i.zero, i.size, i.bytes)) = some (some (.int .i64 0), 1, 8) := by kernel_rfl
theorem infoS_bool : (Tryz.prog.info? 4).map (fun i => (i.zero, i.size, i.bytes)) = some (some (.bool false), 1, 1) := by kernel_rfl
theorem infoS_pod : (Tryz.prog.info? 106).map (fun i => (i.zero, i.size, i.bytes)) = some (some (.agg #[.int .i64 0, .int .i64 0]), 2, 16) := by kernel_rfl
theorem infoS_mnt : (Tryz.prog.info? 108).map (fun i => (i.zero, i.size, i.bytes)) = some (some (.agg #[.bool false, .int .i64 0]), 2, 16) := by kernel_rfl

/-- An empty row just made. -/
theorem made_empty (w : World) (B e k : Nat) (hB : B ≤ w.heap.size) : (w.alloc (.cells #[] e)).ownsRow B e k (.slice (some ⟨w.heap.size, 0, none⟩) 0 0) 0 [] := by
  have := World.ownsRow_made (base := w.heap.size) (e := e) (size := k) w #[] 0 (by simp) (Nat.zero_le _) (by simp)
  exact ownsRow_base this hB
/-- A list of cells of the call's own. -/
def MadeL (w : World) (e k n : Nat) (xs : List Value) (en : Ending) (w' : World) : Prop :=
  ∃ v, en = .returned v ∧ w'.ownsRow w.heap.size e k v n xs ∧ Below w.heap.size w w'

set_option maxHeartbeats 1000000 in
theorem l1Copy_any (A : Option Addr) (n c : Nat) (l : List Int) (w : World) (h : SlV w w.heap.size 1 A n (lkCs l)) (hr : A = none → c = 0) (hn : n ≤ 1048576) :
    Calls Tryz.prog 81 #[.slice A n c] w (MadeL w 2 1 n (lkCs l)) := by
  obtain ⟨i0, hi, hz0, hz1, hz2⟩ := info_parts infoS_i64
  have HI := Lib.hid hi
  have HZ0 := Lib.hid hz0
  have HZ1 := Lib.hid hz1
  have HZ2 := Lib.hid hz2
  have H := Lib.hid h
  have HR := Lib.hid hr
  clear hi hz0 hz1 hz2 h hr
  go_enter Tryz.func81, Tryz.ntmps81
  go_wp2_with ((at_builtin; refine wpList_append_slv rfl _ _ 23 2 i0 (.int .i64 0) 1 8 rfl Tryz.underlying23 HI.out HZ0.out HZ1.out HZ2.out rfl (by decide) (by decide) w.heap.size _ 0 [] rfl (made_empty w _ _ _ (Nat.le_refl _)) A n c (lkCs l) rfl HR.out (H.out.below ((Below.refl _ _).alloc (Nat.le_refl _) _) (Nat.le_refl _)) (lkCs_one l) (by omega) (by simp) ?_; intro v' w2 hown hgrow))
  go_ret
  refine ⟨v', rfl, by simpa using hown, ?_⟩
  exact ((Below.refl _ _).alloc (Nat.le_refl _) _).grown hgrow (by simp) fun r hr => ((made_empty w w.heap.size 2 1 (Nat.le_refl _)).lt r hr).1
end Go.Proofs.YtkefbmbjkijilaaGreatDoor
/- Un -/
set_option linter.unusedVariables false
namespace Go.Proofs.YtkefbmbjkijilaaGreatDoor
open Go.RowKit

theorem grown_new {W w2 : World} {e : TypeId} (hg : (W.alloc (.cells #[] e)).grownBy w2 (Value.slice (some ⟨W.heap.size, 0, none⟩) 0 0).ownBlock) : Below W.heap.size W w2 :=
  ((Below.refl _ _).alloc (Nat.le_refl _) _).grown hg (by simp) fun r hr => by
    obtain rfl : W.heap.size = r := by simpa [Value.ownBlock] using hr
    exact Nat.le_refl _

theorem made_at (w : World) (B e k g : Nat) (hg : w.heap.size = g) (hB : B ≤ w.heap.size) : (w.alloc (.cells #[] e)).ownsRow B e k (.slice (some ⟨g, 0, none⟩) 0 0) 0 [] := by
  subst hg
  exact made_empty w B e k hB
theorem grown_at {W w2 : World} {e g : Nat} (hg : W.heap.size = g) (h : (W.alloc (.cells #[] e)).grownBy w2 (Value.slice (some ⟨g, 0, none⟩) 0 0).ownBlock) : Below W.heap.size W w2 := by
  subst hg
  exact grown_new h
theorem le_alloc {W : World} {o : Obj} {n : Nat} (h : n ≤ W.heap.size) : n ≤ (W.alloc o).heap.size := Nat.le_trans h ((Below.refl W.heap.size W).alloc (Nat.le_refl _) o).size

/-- A state that can be read, its lists real slices and small. -/
structure IsStR (w : World) (B : Nat) (v : Value) (s : StD) : Prop where
  it : ∃ A0 A1 A2 A3 c0 c1 c2 c3, v = .agg (stC A0 A1 A2 A3 s.pods.length c0 s.mnts.length c1 s.devs.length c2 s.lks.length c3 s.ph s.co s.ck s.bo s.ba s.lb s.gd s.pr) ∧
    (SlV w B 2 A0 s.pods.length (podCs s.pods) ∧ SlV w B 2 A1 s.mnts.length (mntCs s.mnts) ∧ SlV w B 1 A2 s.devs.length (devCs s.devs) ∧ SlV w B 1 A3 s.lks.length (lkCs s.lks)) ∧
    (A0 = none → c0 = 0) ∧ (A1 = none → c1 = 0) ∧ (A2 = none → c2 = 0) ∧ (A3 = none → c3 = 0)
  fit : StFits s 1048576
theorem IsStR.is {w : World} {B : Nat} {v : Value} {s : StD} (h : IsStR w B v s) : IsSt w B v s := by
  obtain ⟨⟨A0, A1, A2, A3, c0, c1, c2, c3, hv, ⟨h0, h1, h2, h3⟩, -⟩, f0, f1, f2, f3⟩ := h
  have hm : 1048576 ≤ maxLen := by unfold maxLen; decide
  exact ⟨⟨A0, A1, A2, A3, c0, c1, c2, c3, hv, h0, h1, h2, h3⟩, by omega, by omega, by omega, by omega⟩
theorem IsStR.below {w w' : World} {B B' : Nat} {v : Value} {s : StD} (h : IsStR w B v s) (hb : Below B' w w') (hB : B ≤ B') : IsStR w' B v s := by
  obtain ⟨⟨A0, A1, A2, A3, c0, c1, c2, c3, hv, ⟨h0, h1, h2, h3⟩, hr⟩, hf⟩ := h
  exact ⟨⟨A0, A1, A2, A3, c0, c1, c2, c3, hv, ⟨h0.below hb hB, h1.below hb hB, h2.below hb hB, h3.below hb hB⟩, hr⟩, hf⟩
theorem IsStR.more {w : World} {B B' : Nat} {v : Value} {s : StD} (h : IsStR w B v s) (hB : B ≤ B') : IsStR w B' v s := by
  obtain ⟨⟨A0, A1, A2, A3, c0, c1, c2, c3, hv, ⟨h0, h1, h2, h3⟩, hr⟩, hf⟩ := h
  exact ⟨⟨A0, A1, A2, A3, c0, c1, c2, c3, hv, ⟨h0.more hB, h1.more hB, h2.more hB, h3.more hB⟩, hr⟩, hf⟩
theorem IsStR.go {w w' : World} {v : Value} {s : StD} (h : IsStR w w.heap.size v s) (hb : Below w.heap.size w w') : IsStR w' w'.heap.size v s := (h.below hb (Nat.le_refl _)).more hb.size
theorem NewSt.isR {w w' : World} {s : StD} {g0 g1 g2 g3 : Nat} (h : NewSt w w' s g0 g1 g2 g3) (hf : StFits s 1048576) : IsStR w' w'.heap.size (newStV s g0 g1 g2 g3) s := by
  obtain ⟨l0, l1, l2, l3, l4, R0, R1, R2, R3⟩ := h
  exact ⟨⟨_, _, _, _, _, _, _, _, rfl, ⟨R0.slv (podCs_len _) (by omega), R1.slv (mntCs_len _) (by omega), R2.slv (devCs_len _) (by omega), R3.slv (lkCs_len _) (by omega)⟩, (fun h => by cases h), (fun h => by cases h), (fun h => by cases h), (fun h => by cases h)⟩, hf⟩
theorem open_rowR {w : World} {B e k n : Nat} {v : Value} {xs : List Value} (h : w.ownsRow B e k v n xs) : ∃ A c, v = .slice A n c ∧ (A = none → c = 0) ∧ SlV w w.heap.size k A n xs := by
  obtain ⟨A, c, g, hv, -, -, -, -, -, hS, -⟩ := open_row h
  refine ⟨A, c, hv, fun hA => ?_, hS⟩
  rcases h.2 with ⟨h1, h2⟩ | ⟨g', cap, cur, h1, -⟩
  · rw [hv] at h1
    injection h1
  · rw [hv] at h1
    injection h1 with h1 _ _
    rw [hA] at h1
    cases h1
theorem OwnSt.isR {w : World} {B : Nat} {v : Value} {s : StD} (h : OwnSt w B v s) (hf : StFits s 1048576) : IsStR w w.heap.size v s := by
  obtain ⟨v0, v1, v2, v3, rfl, h0, h1, h2, h3⟩ := h.it
  obtain ⟨A0, c0, rfl, r0, s0⟩ := open_rowR h0
  obtain ⟨A1, c1, rfl, r1, s1⟩ := open_rowR h1
  obtain ⟨A2, c2, rfl, r2, s2⟩ := open_rowR h2
  obtain ⟨A3, c3, rfl, r3, s3⟩ := open_rowR h3
  exact ⟨⟨A0, A1, A2, A3, c0, c1, c2, c3, rfl, ⟨s0, s1, s2, s3⟩, r0, r1, r2, r3⟩, hf⟩

/-- What makes a state of the call's own answers. -/
def MadeS (w : World) (s : StD) (e : Ending) (w' : World) : Prop := ∃ v, e = .returned v ∧ OwnSt w' w.heap.size v s ∧ Below w.heap.size w w'

set_option maxRecDepth 4000 in
set_option maxHeartbeats 4000000 in
theorem l5Copy_any (v : Value) (s : StD) (w : World) (h : IsStR w w.heap.size v s) : Calls Tryz.prog 108 #[v] w (MadeS w s) := by
  obtain ⟨⟨A0_, A1_, A2_, A3_, c0, c1, c2, c3, rfl, ⟨s0, s1, s2, s3⟩, r0, r1, r2, r3⟩, f0, f1, f2, f3⟩ := h
  obtain ⟨ph, co, ck, bo, ba, lb, l0, l1, l2, l3, gd, pr⟩ := s
  dsimp only at *
  have S0 := Lib.hid s0
  have S1 := Lib.hid s1
  have S2 := Lib.hid s2
  have S3 := Lib.hid s3
  have R0 := Lib.hid r0
  have R1 := Lib.hid r1
  have R2 := Lib.hid r2
  have R3 := Lib.hid r3
  have F0 := Lib.hid f0
  have F1 := Lib.hid f1
  have F2 := Lib.hid f2
  have F3 := Lib.hid f3
  clear s0 s1 s2 s3 r0 r1 r2 r3 f0 f1 f2 f3
  obtain ⟨i0, hi, hz0, hz1, hz2⟩ := info_parts infoS_pod
  have HI := Lib.hid hi
  have HZ0 := Lib.hid hz0
  have HZ1 := Lib.hid hz1
  have HZ2 := Lib.hid hz2
  clear hi hz0 hz1 hz2
  obtain ⟨i1, hi, hz0, hz1, hz2⟩ := info_parts infoS_mnt
  have GI := Lib.hid hi
  have GZ0 := Lib.hid hz0
  have GZ1 := Lib.hid hz1
  have GZ2 := Lib.hid hz2
  clear hi hz0 hz1 hz2
  obtain ⟨i2, hi, hz0, hz1, hz2⟩ := info_parts infoS_bool
  have DI := Lib.hid hi
  have DZ0 := Lib.hid hz0
  have DZ1 := Lib.hid hz1
  have DZ2 := Lib.hid hz2
  clear hi hz0 hz1 hz2
  have T0 := Two.start w (stC A0_ A1_ A2_ A3_ l0.length c0 l1.length c1 l2.length c2 l3.length c3 ph co ck bo ba lb gd pr) (stC none none none none 0 0 0 0 0 0 0 0 0 false 0 0 0 0 0 0) 46 46
  have HW : Hid (((w.alloc (.cells (stC A0_ A1_ A2_ A3_ l0.length c0 l1.length c1 l2.length c2 l3.length c3 ph co ck bo ba lb gd pr) 46)).alloc (.cells (stC none none none none 0 0 0 0 0 0 0 0 0 false 0 0 0 0 0 0) 46)).heap.size = w.heap.size + 1 + 1) := Lib.hid (by simp)
  go_enter Tryz.func108, Tryz.ntmps108
  go_wp2_with (first
      | (go_at_call 81
         have AS3 := A3.set (Nat.le_refl _) (i := 8) (by simp) (.slice B2 l2.length d2)
         have OS3 := O3.far (p := ⟨w.heap.size, 8, none⟩) (Nat.le_refl _) (by simp) (.slice B2 l2.length d2)
         have HQ30 := Lib.hid (ownsRow_setCell_below (HO20).out (a := ⟨w.heap.size, 8, none⟩) (by simp) (.slice B2 l2.length d2))
         have HQ31 := Lib.hid (ownsRow_setCell_below (HO21).out (a := ⟨w.heap.size, 8, none⟩) (by simp) (.slice B2 l2.length d2))
         have HQ32 := Lib.hid (ownsRow_setCell_below (HO22).out (a := ⟨w.heap.size, 8, none⟩) (by simp) (.slice B2 l2.length d2))
         refine (l1Copy_any A3_ l3.length c3 l3 _ ((S3.out.below AS3.K (Nat.le_refl _)).more AS3.K.size) R3.out F3.out).mono ?_
         rintro e w5 ⟨v3, rfl, hown, K3⟩
         have A4 := AS3.step K3
         have O4 := OS3.step K3
         replace hown := ownsRow_base hown OS3.z
         obtain ⟨B3, d3, rfl, -⟩ := open_rowR hown
         have HO33 := Lib.hid hown
         have HO30 := Lib.hid (ownsRow_below HQ30.out K3)
         have HO31 := Lib.hid (ownsRow_below HQ31.out K3)
         have HO32 := Lib.hid (ownsRow_below HQ32.out K3)
         clear hown K3 hC hF hz AS3 OS3 A3 O3
         have hC := A4.C
         have hF := A4.F
         have hz := A4.z
         have hD := O4.C
         have hG := O4.F)
      | (at_builtin
         have AS2 := A2.set (Nat.le_refl _) (i := 7) (by simp) (.slice B1 l1.length d1)
         have OS2 := O2.far (p := ⟨w.heap.size, 7, none⟩) (Nat.le_refl _) (by simp) (.slice B1 l1.length d1)
         have HQ20 := Lib.hid (ownsRow_setCell_below (HO10).out (a := ⟨w.heap.size, 7, none⟩) (by simp) (.slice B1 l1.length d1))
         have HQ21 := Lib.hid (ownsRow_setCell_below (HO11).out (a := ⟨w.heap.size, 7, none⟩) (by simp) (.slice B1 l1.length d1))
         refine wpList_append_slv rfl _ _ 30 4 i2 (.bool false) 1 1 rfl Tryz.underlying30 DI.out DZ0.out DZ1.out DZ2.out rfl (by decide) (by decide) (w.heap.size + 2) _ 0 [] rfl (made_at _ _ _ _ _ (by simp) OS2.z) A2_ l2.length c2 (devCs l2) rfl R2.out (S2.out.below (AS2.K.alloc AS2.K.size _) (Nat.le_refl _)) (devCs_one l2) (by have := F2.out; omega) (le_alloc OS2.z) ?_
         intro v2 w4 hown hgrow
         have K2 := grown_at (by simp) hgrow
         have A3 := AS2.step K2
         have O3 := OS2.step K2
         replace hown : w4.ownsRow (w.heap.size + 2) 4 1 v2 l2.length (devCs l2) := by simpa using hown
         obtain ⟨B2, d2, rfl, -⟩ := open_rowR hown
         have HO22 := Lib.hid hown
         have HO20 := Lib.hid (ownsRow_below HQ20.out K2)
         have HO21 := Lib.hid (ownsRow_below HQ21.out K2)
         clear hown hgrow K2 hC hF hz AS2 OS2 A2 O2
         have hC := A3.C
         have hF := A3.F
         have hz := A3.z)
      | (at_builtin
         have AS1 := A1.set (Nat.le_refl _) (i := 6) (by simp) (.slice B0 l0.length d0)
         have OS1 := O1.far (p := ⟨w.heap.size, 6, none⟩) (Nat.le_refl _) (by simp) (.slice B0 l0.length d0)
         have HQ10 := Lib.hid (ownsRow_setCell_below (HO00).out (a := ⟨w.heap.size, 6, none⟩) (by simp) (.slice B0 l0.length d0))
         refine wpList_append_slv rfl _ _ 44 108 i1 (.agg #[.bool false, .int .i64 0]) 2 16 rfl Tryz.underlying44 GI.out GZ0.out GZ1.out GZ2.out rfl (by decide) (by decide) (w.heap.size + 2) _ 0 [] rfl (made_at _ _ _ _ _ (by simp) OS1.z) A1_ l1.length c1 (mntCs l1) rfl R1.out (S1.out.below (AS1.K.alloc AS1.K.size _) (Nat.le_refl _)) (mntCs_one l1) (by have := F1.out; omega) (le_alloc OS1.z) ?_
         intro v1 w3 hown hgrow
         have K1 := grown_at (by simp) hgrow
         have A2 := AS1.step K1
         have O2 := OS1.step K1
         replace hown : w3.ownsRow (w.heap.size + 2) 108 2 v1 l1.length (mntCs l1) := by simpa using hown
         obtain ⟨B1, d1, rfl, -⟩ := open_rowR hown
         have HO11 := Lib.hid hown
         have HO10 := Lib.hid (ownsRow_below HQ10.out K1)
         clear hown hgrow K1 hC hF hz AS1 OS1 A1 O1
         have hC := A2.C
         have hF := A2.F
         have hz := A2.z)
      | (at_builtin
         refine wpList_append_slv rfl _ _ 43 106 i0 (.agg #[.int .i64 0, .int .i64 0]) 2 16 rfl Tryz.underlying43 HI.out HZ0.out HZ1.out HZ2.out rfl (by decide) (by decide) (w.heap.size + 2) _ 0 [] rfl (made_at _ _ _ _ _ HW.out T0.O.z) A0_ l0.length c0 (podCs l0) rfl R0.out (S0.out.below (T0.A.K.alloc T0.A.K.size _) (Nat.le_refl _)) (podCs_one l0) (by have := F0.out; omega) (le_alloc T0.O.z) ?_
         intro v0 w2 hown hgrow
         have K0 := grown_at HW.out hgrow
         have A1 := T0.A.step K0
         have O1 := T0.O.step K0
         replace hown : w2.ownsRow (w.heap.size + 2) 106 2 v0 l0.length (podCs l0) := by simpa using hown
         obtain ⟨B0, d0, rfl, -⟩ := open_rowR hown
         have HO00 := Lib.hid hown
         clear hown hgrow K0 T0 HW
         have hC := A1.C
         have hF := A1.F
         have hz := A1.z))
  refine bodyPost_ret (v := .agg (stC B0 B1 B2 B3 l0.length d0 l1.length d1 l2.length d2 l3.length d3 ph co ck bo ba lb gd pr)) ?_ rfl ⟨_, rfl, ⟨_, _, _, _, rfl, ?_, ?_, ?_, ?_⟩, ?_⟩
  · simp [results, Tryz.results108, go_sem, hD]
  · refine ownsRow_base (base := w.heap.size + 2) ?_ (by omega)
    iterate 13 (refine ownsRow_setCell_below ?_ (by simp) _)
    exact HO30.out
  · refine ownsRow_base (base := w.heap.size + 2) ?_ (by omega)
    iterate 13 (refine ownsRow_setCell_below ?_ (by simp) _)
    exact HO31.out
  · refine ownsRow_base (base := w.heap.size + 2) ?_ (by omega)
    iterate 13 (refine ownsRow_setCell_below ?_ (by simp) _)
    exact HO32.out
  · refine ownsRow_base (base := w.heap.size + 2) ?_ (by omega)
    iterate 13 (refine ownsRow_setCell_below ?_ (by simp) _)
    exact HO33.out
  · iterate 13 (refine Below.setCell ?_ (by simp) _)
    exact A4.K
end Go.Proofs.YtkefbmbjkijilaaGreatDoor
/- Up -/
set_option linter.unusedVariables false
namespace Go.Proofs.YtkefbmbjkijilaaGreatDoor
open Go.RowKit

/-- A row of whole numbers of the call's own. -/
def LkR (w : World) (B : Nat) (v : Value) (l : List Int) : Prop := w.ownsRow B 2 1 v l.length (lkCs l)
theorem LkR.push {w' : World} {B : Nat} {v' : Value} {l : List Int} (a : Int) (h' : w'.ownsRow B 2 1 v' (l.length + 1) (lkCs l ++ [.int .i64 a])) : LkR w' B v' (l ++ [a]) := by
  unfold LkR
  rw [List.length_append]
  have : lkCs (l ++ [a]) = lkCs l ++ [.int .i64 a] := by simp [lkCs]
  rw [this]
  exact h'
theorem LkR.lt {w : World} {B : Nat} {v : Value} {l : List Int} (h : LkR w B v l) {r : Nat} (hr : v.ownBlock = some r) : B ≤ r ∧ r < w.heap.size := World.ownsRow.lt h r hr
theorem LkR.empty (w : World) (B : Nat) (hB : B ≤ w.heap.size) : LkR (w.alloc (.cells #[] 2)) B (.slice (some ⟨w.heap.size, 0, none⟩) 0 0) [] := made_empty w B _ _ hB

theorem lk_at {w : World} {B n : Nat} {A : Option Addr} {l : List Int} (h : SlV w B 1 A n (lkCs l)) (hn : l.length = n) {k : Nat} (hk : k < n) : ∃ b off, A = some ⟨b, off, none⟩ ∧ b < B ∧ w.cell? ⟨b, off + k, none⟩ = some (.int .i64 (lkA l k)) := by
  obtain ⟨b, off, e, hb, hc⟩ := h.cell hk
  have := hc 0 (by decide)
  rw [Nat.mul_one, Nat.add_zero] at this
  exact ⟨b, off, e, hb, this.trans (lkCs_at l (by omega))⟩
theorem take_snoc (l : List Int) {k : Nat} (hk : k < l.length) : l.take (k + 1) = l.take k ++ [lkA l k] := by
  rw [List.take_add_one, List.getElem?_eq_getElem hk]
  have : lkA l k = l[k] := by simp [lkA, List.getD, List.getElem?_eq_getElem hk]
  rw [this]
  rfl
theorem without_len (l : List Int) (x : Int) : (withoutN l x).length ≤ l.length := List.length_filter_le _ _

set_option maxRecDepth 4000 in
set_option maxHeartbeats 2000000 in
theorem l6Without_any (A : Option Addr) (n c : Nat) (l : List Int) (x : Int) (w : World) (h : SlV w w.heap.size 1 A n (lkCs l)) (hl : l.length = n) (hn : n ≤ 1048576) :
    Calls Tryz.prog 144 #[.slice A n c, .int .i64 x] w fun e w' => ∃ v, e = .returned v ∧ LkR w' w.heap.size v (withoutN l x) ∧ Below w.heap.size w w' := by
  have H := Lib.hid h
  have HL := Lib.hid hl
  clear h hl
  obtain ⟨i1, hi, hz0, hz1, hz2⟩ := info_parts infoS_i64
  have GI := Lib.hid hi
  have GZ0 := Lib.hid hz0
  have GZ1 := Lib.hid hz1
  have GZ2 := Lib.hid hz2
  clear hi hz0 hz1 hz2
  have hn' : n ≤ 2 ^ 63 - 1 := by omega
  have HOA := Lib.hid (LkR.empty w w.heap.size (Nat.le_refl _))
  have HKA := Lib.hid ((Below.refl w.heap.size w).alloc (Nat.le_refl _) (.cells #[] 2))
  go_enter Tryz.func144, Tryz.ntmps144
  go_wp2_with fail
  go_loopw [5, 6] (fun s5 i wr => ∃ (k : Nat) (m : List Int), k ≤ n ∧ i = .int .i64 k ∧ m = withoutN (l.take k) x ∧ LkR wr w.heap.size s5 m ∧ Below w.heap.size w wr) (fun _ i _ => n - (intOf i).toNat)
  case atStart => exact ⟨0, [], Nat.zero_le _, rfl, rfl, HOA.out, HKA.out⟩
  case round =>
    clear HOA HKA
    obtain ⟨k, m, hk, rfl, hm, O, K⟩ := hrel
    have HM := Lib.hid hm
    have HO := Lib.hid O
    have HK := Lib.hid K
    clear hm O K
    by_cases hlt : k < n
    · obtain ⟨b, off, rfl, hb, q⟩ := lk_at ((H.out.below HK.out (Nat.le_refl _)).more HK.out.size) HL.out hlt
      have hts := take_snoc l (k := k) (by rw [HL.out]; exact hlt)
      have HT := Lib.hid hts
      clear hts
      generalize lkA l k = y at *
      have hs2 := HK.out.size
      have hml : m.length ≤ 1048576 := by
        rw [HM.out]
        refine Nat.le_trans (without_len _ _) ?_
        rw [List.length_take]
        omega
      have h63 : Hid (m.length + 1 ≤ maxLen) := Lib.hid (by unfold maxLen; omega)
      have hby : Hid ((m.length + 1) * 8 ≤ 140737488355328) := Lib.hid (by omega)
      clear hml
      by_cases hyx : y = x
      · subst hyx
        go_wp2
        exact ⟨⟨k + 1, m, by omega, by go_num, by rw [HM.out, HT.out]; simp [withoutN, List.filter_append], HO.out, HK.out⟩, by simp [intOf]; omega⟩
      · go_wp2_with ((at_builtin; refine wpList_append_own _ rfl _ _ 23 rfl _ 2 i1 (.int .i64 0) 1 8 Tryz.underlying23 GI.out GZ0.out GZ1.out GZ2.out rfl (by decide) _ _ _ rfl (ownsRow_below HO.out ((Below.refl _ _).alloc (Nat.le_refl _) _)) ⟨wr.heap.size, 0, none⟩ 1 1 [.int .i64 y] rfl rfl (cell_one_new _ _ _) (fun x hx => by simp at hx; subst hx; rfl) h63.out hby.out (by simp; omega) ?_; intro v' w4 hown' hgrow hnil))
        exact ⟨⟨k + 1, m ++ [y], by omega, by go_num, by rw [HM.out, HT.out]; simp [withoutN, List.filter_append, hyx], LkR.push _ hown', (HK.out.alloc hs2 _).grown hgrow (by simp; omega) fun r hr => (HO.out.lt hr).1⟩, by simp [intOf]; omega⟩
    · obtain rfl : k = n := by omega
      go_wp2
      go_ret
      exact ⟨_, rfl, by rw [← List.take_of_length_le (Nat.le_of_eq HL.out), ← HM.out]; exact HO.out, HK.out⟩
end Go.Proofs.YtkefbmbjkijilaaGreatDoor
