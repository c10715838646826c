/-
  slices.Compact of at most twelve whole numbers in a block of the call's own: of equal neighbours one stays.
-/
import Derived.Test.YtdphpjnecjofeaaGreatDoorMZ2
import Derived.Test.YtdphpjnecjofeaaGreatDoorMZ6
import Derived.Test.YtdphpjnecjofeaaGreatDoorMZ5
import Derived.Test.YtdphpjnecjofeaaGreatDoorMZ4
import Derived.BigQuiet
import Derived.Deep.RegionHeld3
import Derived.Test.YtdphpjnecjofeaaGreatDoorMZ0
import Derived.Sort.Row
import Derived.RegionTactic
import Derived.BigRegion
import Derived.Lib.SliceRun
/- Tb -/
set_option linter.unusedVariables false
namespace Go.Proofs.YtdphpjnecjofeaaGreatDoor
open Go.RowKit

/-- Of each index below n for which g tells something, in order, what r makes of it. -/
def recsOf {α : Type} (n : Nat) (g : Nat → Option α) (r : Nat → α → RecD) : List RecD := (List.range n).filterMap fun i => (g i).map (r i)
theorem recsOf_zero {α : Type} (g : Nat → Option α) (r : Nat → α → RecD) : recsOf 0 g r = [] := rfl
theorem recsOf_none {α : Type} {n : Nat} {g : Nat → Option α} {r : Nat → α → RecD} (h : g n = none) : recsOf (n + 1) g r = recsOf n g r := by
  simp [recsOf, List.range_succ, List.filterMap_append, h]
theorem recsOf_some {α : Type} {n : Nat} {g : Nat → Option α} {r : Nat → α → RecD} {x : α} (h : g n = some x) : recsOf (n + 1) g r = recsOf n g r ++ [r n x] := by
  simp [recsOf, List.range_succ, List.filterMap_append, h]
theorem recsOf_le {α : Type} (n : Nat) (g : Nat → Option α) (r : Nat → α → RecD) : (recsOf n g r).length ≤ n := by
  induction n with
  | zero => exact Nat.le_refl _
  | succ n ih =>
    cases h : g n
    · rw [recsOf_none h]; omega
    · rw [recsOf_some h, List.length_append]; simp; omega

/-- Mounts' records: busy ones less busy, others free. -/
def mntRec (i : Nat) (q : Bool × Int) : RecD := if q.1 then ⟨3, i, q.2⟩ else ⟨4, i, 0⟩
end Go.Proofs.YtdphpjnecjofeaaGreatDoor
/- Tc -/
set_option linter.unusedVariables false
namespace Go.Proofs.YtdphpjnecjofeaaGreatDoor
open Go.RowKit

def podAt (s : StD) (i : Nat) : Int × Int := s.pods.getD i (0, 0)
def mntAt (s : StD) (i : Nat) : Bool × Int := s.mnts.getD i (false, 0)
def devAt (s : StD) (i : Nat) : Bool := s.devs.getD i false
def bandOf (d : PlanD) (i : Nat) : Int := d.x0 (i * 4 + 1)
def graceOf (d : PlanD) (i : Nat) : Int := d.x0 (i * 4 + 2)
def hookOf (d : PlanD) (i : Nat) : Int := d.x0 (i * 4 + 3)
def mpod (d : PlanD) (i : Nat) : Nat := (d.x2 (i * 2)).toNat
def mpar (d : PlanD) (i : Nat) : Int := d.x2 (i * 2 + 1)
def dmnt (d : PlanD) (i : Nat) : Nat := (d.x3 i).toNat

def stepG (d : PlanD) (s : StD) (b c : Int) (i : Nat) : Option Int :=
  if bandOf d i = b ∧ aliveB (podAt s i).1 = true then (if podStep (hookOf d i) (graceOf d i) (podAt s i) c = (podAt s i).1 then none else some (podStep (hookOf d i) (graceOf d i) (podAt s i) c)) else none
def liveB (d : PlanD) (s : StD) (b : Int) : Bool := (List.range d.n0).any fun i => decide (bandOf d i = b) && aliveB (podAt s i).1
def nextB (d : PlanD) (b : Int) : Int := if nextL d b < 0 then 6 else nextL d b
def shutL (d : PlanD) (s : StD) (c : Int) : List RecD :=
  if s.lks ≠ [] ∧ c < s.lb then [] else if s.ba = 6 then [⟨1, 4, 0⟩] else if liveB d s s.ba then recsOf d.n0 (stepG d s s.ba c) (fun i x => ⟨2, i, x⟩) else [⟨9, nextB d s.ba, 0⟩]
def freeB (d : PlanD) (s : StD) (i : Nat) : Bool := (mntAt s i).1 && !aliveB (podAt s (mpod d i)).1 && (List.range d.n2).all fun j => !(decide (mpar d j = i) && (mntAt s j).1)
def giveB (d : PlanD) (s : StD) (i : Nat) : Bool := devAt s i && !(mntAt s (dmnt d i)).1
def freeG (d : PlanD) (s : StD) (i : Nat) : Option (Bool × Int) := if freeB d s i then some (if 0 < (mntAt s i).2 then (true, (mntAt s i).2 - 1) else (false, 0)) else none
def giveG (d : PlanD) (s : StD) (i : Nat) : Option Unit := if giveB d s i then some () else none
def heldB (s : StD) : Bool := s.mnts.any (fun q => q.1) || s.devs.any (fun x => x)
def releaseL (d : PlanD) (s : StD) : List RecD := if heldB s then recsOf d.n2 (freeG d s) mntRec ++ recsOf d.n3 (giveG d s) (fun i _ => ⟨5, i, 0⟩) else [⟨1, 5, 0⟩]
def tickL (d : PlanD) (s : StD) : List RecD := ⟨8, s.ck + 1, 0⟩ :: (if s.ph = 3 then shutL d s (s.ck + 1) else if s.ph = 4 then releaseL d s else [])

theorem podAt_ok {d : PlanD} {s : StD} (h : StOk d s) {i : Nat} (hi : i < d.n0) : (0 ≤ (podAt s i).1 ∧ (podAt s i).1 ≤ 6) ∧ (0 ≤ (podAt s i).2 ∧ (podAt s i).2 ≤ 1000000) := by
  have hl : i < s.pods.length := by rw [h.np]; exact hi
  have e : podAt s i = s.pods[i] := by simp [podAt, List.getD, hl]
  rw [e]
  exact h.pods _ (List.getElem_mem hl)
theorem mntAt_ok {d : PlanD} {s : StD} (h : StOk d s) {i : Nat} (hi : i < d.n2) : (0 ≤ (mntAt s i).2 ∧ (mntAt s i).2 ≤ 5) ∧ ((mntAt s i).1 = false → (mntAt s i).2 = 0) := by
  have hl : i < s.mnts.length := by rw [h.nm]; exact hi
  have e : mntAt s i = s.mnts[i] := by simp [mntAt, List.getD, hl]
  rw [e]
  exact h.mnts _ (List.getElem_mem hl)
/-- How many ticks of its own a pod needs at most. -/
def potP (hook grace : Int) (q : Int × Int) (ck : Int) : Int :=
  if q.1 = 0 then 2 + hook + max 1 grace else if q.1 = 1 then max 1 (q.2 + hook - ck) + max 1 grace + 1 else if q.1 = 2 then max 1 (q.2 + grace - ck) + 1 else if q.1 = 3 then 1 else 0
/-- Dead or alive, what is dead stays so. -/
theorem dead_step {hook grace : Int} {q : Int × Int} {c : Int} (h : aliveB q.1 = false) : podStep hook grace q c = q.1 := by
  simp only [aliveB, inB, Bool.and_eq_false_iff, decide_eq_false_iff_not] at h
  unfold podStep
  rw [if_neg (by omega), if_neg (by omega), if_neg (by omega), if_neg (by omega)]

end Go.Proofs.YtdphpjnecjofeaaGreatDoor
/- Td -/
set_option linter.unusedVariables false
namespace Go.Proofs.YtdphpjnecjofeaaGreatDoor
open Go.RowKit

structure HoldsP (d : PlanD) (s : StD) : Prop where
  pod : ∀ i, i < d.n2 → (mntAt s i).1 = false → aliveB (podAt s (mpod d i)).1 = false
  par : ∀ i, i < d.n2 → 0 ≤ mpar d i → (mntAt s i).1 = true → (mntAt s (mpar d i).toNat).1 = true
  dev : ∀ i, i < d.n3 → devAt s i = false → (mntAt s (dmnt d i)).1 = false
structure Going (d : PlanD) (s : StD) : Prop where
  ok : StOk d s
  ph : 3 ≤ s.ph ∧ s.ph ≤ 5
  since : ∀ i, i < d.n0 → (podAt s i).2 ≤ s.ck
  later : s.ph = 3 → ∀ i, i < d.n0 → s.ba < bandOf d i → aliveB (podAt s i).1 = true → (podAt s i).1 = 0
  earlier : s.ph = 3 → ∀ i, i < d.n0 → bandOf d i < s.ba → aliveB (podAt s i).1 = false
  dead : 4 ≤ s.ph → ∀ i, i < d.n0 → aliveB (podAt s i).1 = false
  holds : HoldsP d s
  down : s.ph = 5 → heldB s = false
def over (d : PlanD) (b : Int) : Int := sumB 6 (fun k => if b < k then bandT d k else 0)
def mw (q : Bool × Int) : Int := if q.1 then q.2 + 1 else 0
def relW (d : PlanD) (s : StD) : Int := sumB d.n2 (fun i => mw (mntAt s i)) + sumB d.n3 (fun i => if devAt s i then 1 else 0)
structure Left (d : PlanD) (s : StD) (n : Int) : Prop where
  shut : s.ph = 3 → ∃ lw pw : Int, 0 ≤ lw ∧ 0 ≤ pw ∧ (s.lks = [] ∨ s.lb - 1 - s.ck ≤ lw) ∧ (∀ i, i < d.n0 → bandOf d i = s.ba → aliveB (podAt s i).1 = true → potP (hookOf d i) (graceOf d i) (podAt s i) s.ck ≤ pw) ∧
    lw + pw + (if s.ba = 6 then 0 else 1 + over d s.ba) + 6 * d.n2 + d.n3 + 2 ≤ n
  rel : s.ph = 4 → relW d s + 1 ≤ n
  done : s.ph = 5 → 0 ≤ n

theorem mount_facts {d : PlanD} (h : planOkB d = true) {i : Nat} (hi : i < d.n2) : mpod d i < d.n0 ∧ -1 ≤ mpar d i ∧ mpar d i < i := by
  simp only [planOkB, Bool.and_eq_true] at h
  have := allB_true.1 h.1.2 i hi
  simp only [mountB, Bool.and_eq_true, inB_true] at this
  unfold mpod mpar
  omega
theorem hits_in {n : Nat} {f : Nat → Int} {i : Nat} (hi : i < n) : (i : Int) ∈ hits n f (f i) := by
  simp only [hits, List.mem_map, List.mem_filter, List.mem_range]
  exact ⟨i, ⟨hi, by simp⟩, rfl⟩
end Go.Proofs.YtdphpjnecjofeaaGreatDoor
/- Te -/
set_option linter.unusedVariables false
namespace Go.Proofs.YtdphpjnecjofeaaGreatDoor
open Go.RowKit

section
variable {d : PlanD} {s : StD}
end

end Go.Proofs.YtdphpjnecjofeaaGreatDoor
/- Tf -/
set_option linter.unusedVariables false
namespace Go.Proofs.YtdphpjnecjofeaaGreatDoor
open Go.RowKit

/-- Ahead of the shutting: who is alive runs. -/
structure Before (d : PlanD) (s : StD) : Prop where
  ok : StOk d s
  since : ∀ i, i < d.n0 → (podAt s i).2 ≤ s.ck
  runs : ∀ i, i < d.n0 → aliveB (podAt s i).1 = true → (podAt s i).1 = 0
  holds : HoldsP d s
def shutS (d : PlanD) (s : StD) : StD := { s with lb := min (s.ck + d.l) 1000000, ba := nextB d (-1), ph := 3, co := true }
/-- A state in which one pod is in another state, since now. -/
def podS (s : StD) (i : Nat) (st : Int) : StD := { s with pods := s.pods.set i (st, s.ck) }
end Go.Proofs.YtdphpjnecjofeaaGreatDoor
/- Tg -/
set_option linter.unusedVariables false
namespace Go.Proofs.YtdphpjnecjofeaaGreatDoor
open Go.RowKit

/-- Chapter 8, of a right state. -/
def healthyN (d : PlanD) (s : StD) (g : Int) : Int := ((List.range d.n0).countP fun i => decide (d.x0 (i * 4) = g) && decide ((podAt s i).1 = 0) : Nat)
def mayEvictB (d : PlanD) (s : StD) (i : Int) : Bool :=
  decide (s.ph = 2) && inB i 0 (d.n0 - 1) && decide ((podAt s i.toNat).1 = 0) && decide (d.x1 (d.x0 (i.toNat * 4)).toNat < healthyN d s (d.x0 (i.toNat * 4)))

/-- Chapter 10, of a right state: the records and the code. -/
def noR (c : Int) : List RecD × Int := ([], c)
def oneR (k a b : Int) : List RecD × Int := ([⟨k, a, b⟩], 0)
def phaseD (s : StD) (f t : Int) : List RecD × Int := if s.ph = f then oneR 1 t 0 else noR 3
def evictD (d : PlanD) (s : StD) (a : Int) : List RecD × Int :=
  if inB a 0 (d.n0 - 1) = false then noR 2 else if s.ph ≠ 2 then noR 3 else if (podAt s a.toNat).1 ≠ 0 then noR 4 else if mayEvictB d s a = false then noR 5 else oneR 2 a 6
def shutD (d : PlanD) (s : StD) : List RecD × Int :=
  if s.ph = 1 ∨ s.ph = 2 then ([⟨11, min (s.ck + d.l) 1000000, 0⟩, ⟨9, nextB d (-1), 0⟩, ⟨1, 3, 0⟩], 0) else noR 3
def cancelD (s : StD) : List RecD × Int := if s.ph = 2 then oneR 1 0 0 else phaseD s 1 0
def lockD (s : StD) (a : Int) : List RecD × Int := if inB a 0 7 = false then noR 2 else if 3 ≤ s.ph then noR 3 else if s.lks.contains a then noR 4 else oneR 6 a 0
def unlockD (s : StD) (a : Int) : List RecD × Int := if inB a 0 7 = false then noR 2 else if s.lks.contains a = false then noR 4 else oneR 7 a 0
def toldD (d : PlanD) (s : StD) (f : Int → Int) (a : Int) : List RecD × Int := if inB a 0 (d.n0 - 1) = false then noR 2 else if f (podAt s a.toNat).1 < 0 then noR 4 else oneR 2 a (f (podAt s a.toNat).1)
def busyD (d : PlanD) (s : StD) (a b : Int) : List RecD × Int :=
  if inB a 0 (d.n2 - 1) = false then noR 2 else if inB b 1 5 = false then noR 1 else if 4 ≤ s.ph then noR 3 else if (mntAt s a.toNat).1 = false ∨ (mntAt s a.toNat).2 ≠ 0 then noR 4 else oneR 3 a b
def commandD (d : PlanD) (s : StD) (k a b : Int) : List RecD × Int :=
  if k = 1 then phaseD s 0 1 else if k = 2 then phaseD s 1 2 else if k = 3 then evictD d s a else if k = 4 then shutD d s else if k = 5 then cancelD s else if k = 6 then lockD s a else if k = 7 then unlockD s a
  else if k = 8 then toldD d s afterHook a else if k = 9 then toldD d s afterExit a else if k = 10 then busyD d s a b else noR 1

end Go.Proofs.YtdphpjnecjofeaaGreatDoor
/- Th -/
set_option linter.unusedVariables false
namespace Go.Proofs.YtdphpjnecjofeaaGreatDoor
open Go.RowKit

/-- Which command it was, and what came of it. -/
inductive Came (d : PlanD) (s : StD) : StD → Prop
  | cordon (h : s.ph = 0) : Came d s (applyR s ⟨1, 1, 0⟩)
  | drain (h : s.ph = 1) : Came d s (applyR s ⟨1, 2, 0⟩)
  | evict (i : Nat) (hi : i < d.n0) (h : s.ph = 2) (hr : (podAt s i).1 = 0) (hm : mayEvictB d s i = true) : Came d s (podS s i 6)
  | shut (h : s.ph = 1 ∨ s.ph = 2) : Came d s (shutS d s)
  | cancel (h : s.ph = 1 ∨ s.ph = 2) : Came d s (applyR s ⟨1, 0, 0⟩)
  | lock (a : Int) (h : s.ph < 3) : Came d s (applyR s ⟨6, a, 0⟩)
  | unlock (a : Int) : Came d s (applyR s ⟨7, a, 0⟩)
  | hook (i : Nat) (hi : i < d.n0) (h : (podAt s i).1 = 1) : Came d s (podS s i 2)
  | exit (i : Nat) (hi : i < d.n0) (st : Int) (h : (podAt s i).1 = 0 ∨ (podAt s i).1 = 1 ∨ (podAt s i).1 = 2 ∨ (podAt s i).1 = 3) (hs : st = 4 ∨ st = 5) : Came d s (podS s i st)
  | busy (i : Nat) (hi : i < d.n2) (b : Int) (hb : 1 ≤ b ∧ b ≤ 5) (h : s.ph < 4) (hh : (mntAt s i).1 = true) : Came d s (applyR s ⟨3, i, b⟩)
theorem index_nat {a : Int} {n : Nat} (h : ¬ inB a 0 (n - 1) = false) : ∃ i : Nat, a = i ∧ i < n := by
  have := inB_true.1 (Bool.of_not_eq_false h)
  exact ⟨a.toNat, by omega, by omega⟩
end Go.Proofs.YtdphpjnecjofeaaGreatDoor
/- Tm -/
set_option linter.unusedVariables false
namespace Go.Proofs.YtdphpjnecjofeaaGreatDoor
open Go.RowKit

theorem count_flip {P Q : Nat → Bool} {i : Nat} (hP : P i = true) (hQ : Q i = false) (h : ∀ j, j ≠ i → P j = Q j) : ∀ n, (List.range n).countP P = (List.range n).countP Q + if i < n then 1 else 0
  | 0 => by simp
  | n + 1 => by
    have ih := count_flip hP hQ h n
    have e1 : (List.range (n + 1)).countP P = (List.range n).countP P + if P n then 1 else 0 := by rw [List.range_succ, List.countP_append, List.countP_singleton]
    have e2 : (List.range (n + 1)).countP Q = (List.range n).countP Q + if Q n then 1 else 0 := by rw [List.range_succ, List.countP_append, List.countP_singleton]
    rw [e1, e2, ih]
    by_cases e : n = i
    · subst e
      have a1 : (if n < n then 1 else 0) = 0 := if_neg (by omega)
      have a2 : (if n < n + 1 then 1 else 0) = 1 := if_pos (by omega)
      rw [a1, a2, hP, hQ]
      simp
    · rw [h n e]
      have a3 : (if i < n + 1 then 1 else 0) = if i < n then 1 else 0 := by
        by_cases e2 : i < n
        · rw [if_pos e2, if_pos (by omega)]
        · rw [if_neg e2, if_neg (by omega)]
      rw [a3]
      omega
end Go.Proofs.YtdphpjnecjofeaaGreatDoor
/- Wd -/
set_option linter.unusedVariables false
namespace Go.Proofs.YtdphpjnecjofeaaGreatDoor
open Go.RowKit

set_option maxHeartbeats 1000000 in
theorem podStep_any (gr ba grace hook st since clock : Int) (w : World) (h0 : 0 ≤ since ∧ since ≤ 1000000) (h1 : 0 ≤ clock ∧ clock ≤ 1000001) :
    Calls Tryz.prog 223 #[.agg #[.int .i64 gr, .int .i64 ba, .int .i64 grace, .int .i64 hook], .agg #[.int .i64 st, .int .i64 since], .int .i64 clock] w fun e w' =>
      e = .returned (.int .i64 (podStep hook grace (st, since) clock)) ∧ Below w.heap.size w w' := by
  have HH : Hid (podStep hook grace (st, since) clock = if st = 0 then (if 0 < hook then 1 else 2) else if st = 1 then (if hook ≤ clock - since then 2 else 1) else if st = 2 then (if grace ≤ clock - since then 3 else 2) else if st = 3 then 4 else st) := Lib.hid rfl
  generalize podStep hook grace (st, since) clock = ans at HH
  have K2 : Below w.heap.size w ((w.alloc (.cells #[.int .i64 gr, .int .i64 ba, .int .i64 grace, .int .i64 hook] 145)).alloc (.cells #[.int .i64 st, .int .i64 since] 140)) := ((Below.refl _ _).alloc (Nat.le_refl _) _).alloc (by simp) _
  by_cases e0 : st = 0
  · subst e0
    by_cases e1 : 0 < hook
    · go_enter Tryz.func223, Tryz.ntmps223
      go_wp2
      all_goals (go_ret; exact ⟨by rw [HH.out]; simp [*], K2⟩)
    · go_enter Tryz.func223, Tryz.ntmps223
      go_wp2
      all_goals (go_ret; exact ⟨by rw [HH.out]; simp [*], K2⟩)
  · by_cases e1 : st = 1
    · subst e1
      by_cases e2 : hook ≤ clock - since
      · go_enter Tryz.func223, Tryz.ntmps223
        go_wp2
        all_goals (go_ret; exact ⟨by rw [HH.out]; simp [*], K2⟩)
      · go_enter Tryz.func223, Tryz.ntmps223
        go_wp2
        all_goals (go_ret; exact ⟨by rw [HH.out]; simp [*], K2⟩)
    · by_cases e2 : st = 2
      · subst e2
        by_cases e3 : grace ≤ clock - since
        · go_enter Tryz.func223, Tryz.ntmps223
          go_wp2
          all_goals (go_ret; exact ⟨by rw [HH.out]; simp [*], K2⟩)
        · go_enter Tryz.func223, Tryz.ntmps223
          go_wp2
          all_goals (go_ret; exact ⟨by rw [HH.out]; simp [*], K2⟩)
      · by_cases e3 : st = 3
        · subst e3
          go_enter Tryz.func223, Tryz.ntmps223
          go_wp2
          all_goals (go_ret; exact ⟨by rw [HH.out]; simp [*], K2⟩)
        · go_enter Tryz.func223, Tryz.ntmps223
          go_wp2
          all_goals (go_ret; exact ⟨by rw [HH.out]; simp [*], K2⟩)

theorem afterHook_any (x : Int) (w : World) : Calls Tryz.prog 131 #[.int .i64 x] w fun e w' => e = .returned (.int .i64 (afterHook x)) ∧ w = w' := by
  unfold afterHook
  by_cases h : x = 1
  · subst h
    go_enter Tryz.func131, Tryz.ntmps131
    go_wp2
    all_goals (go_ret; exact ⟨rfl, rfl⟩)
  · rw [if_neg h]
    go_enter Tryz.func131, Tryz.ntmps131
    go_wp2
    all_goals (go_ret; exact ⟨rfl, rfl⟩)
set_option maxHeartbeats 1000000 in
theorem afterExit_any (x : Int) (w : World) : Calls Tryz.prog 132 #[.int .i64 x] w fun e w' => e = .returned (.int .i64 (afterExit x)) ∧ w = w' := by
  have HH : Hid (afterExit x = if x = 0 ∨ x = 1 then 5 else if x = 2 ∨ x = 3 then 4 else -1) := Lib.hid rfl
  by_cases h0 : x = 0
  · subst h0
    go_enter Tryz.func132, Tryz.ntmps132
    go_wp2
    all_goals (go_ret; exact ⟨by rw [HH.out]; rfl, rfl⟩)
  · by_cases h1 : x = 1
    · subst h1
      go_enter Tryz.func132, Tryz.ntmps132
      go_wp2
      all_goals (go_ret; exact ⟨by rw [HH.out]; rfl, rfl⟩)
    · by_cases h2 : x = 2
      · subst h2
        go_enter Tryz.func132, Tryz.ntmps132
        go_wp2
        all_goals (go_ret; exact ⟨by rw [HH.out]; rfl, rfl⟩)
      · by_cases h3 : x = 3
        · subst h3
          go_enter Tryz.func132, Tryz.ntmps132
          go_wp2
          all_goals (go_ret; exact ⟨by rw [HH.out]; rfl, rfl⟩)
        · go_enter Tryz.func132, Tryz.ntmps132
          go_wp2
          all_goals (go_ret; exact ⟨by rw [HH.out]; simp [h0, h1, h2, h3], rfl⟩)

/-- Records and a code: what is planned. -/
def RecsA (w : World) (a : List RecD × Int) (e : Ending) (w' : World) : Prop := ∃ v, e = .returned (.tuple #[v, .int .i64 a.2]) ∧ OR w' w.heap.size v a.1 ∧ Below w.heap.size w w'
theorem RecsA.back {w w1 w2 : World} {a : List RecD × Int} {e : Ending} (h : RecsA w1 a e w2) (K : Below w.heap.size w w1) : RecsA w a e w2 := by
  obtain ⟨v, he, ho, hb⟩ := h
  exact ⟨v, he, ho.base K.size, K.trans (hb.mono K.size)⟩
theorem OR.first {w : World} {B : Nat} (hB : B ≤ w.heap.size) (k a b : Int) : OR (w.alloc (.cells #[.int .i64 k, .int .i64 a, .int .i64 b] 50)) B (.slice (some ⟨w.heap.size, 0, none⟩) 1 1) [⟨k, a, b⟩] :=
  own_of_heap (heap_alloc_new w _) rfl rfl hB (by unfold maxLen; decide)
theorem l10No_any (c : Int) (w : World) : Calls Tryz.prog 75 #[.int .i64 c] w (RecsA w (noR c)) := by
  go_enter Tryz.func75, Tryz.ntmps75
  go_wp2
  go_ret2
  exact ⟨_, rfl, OR.empty (Nat.le_refl _), (Below.refl _ _).alloc (Nat.le_refl _) _⟩
theorem l10One_any (k a b : Int) (w : World) : Calls Tryz.prog 79 #[.int .i64 k, .int .i64 a, .int .i64 b] w (RecsA w (oneR k a b)) := by
  go_enter Tryz.func79, Tryz.ntmps79
  go_wp2
  go_ret2
  exact ⟨_, rfl, OR.first (Nat.le_refl _) k a b, (Below.refl _ _).alloc (Nat.le_refl _) _⟩
end Go.Proofs.YtdphpjnecjofeaaGreatDoor
/- We -/
set_option linter.unusedVariables false
namespace Go.Proofs.YtdphpjnecjofeaaGreatDoor
open Go.RowKit

def hP (d : PlanD) (s : StD) (g : Int) (i : Nat) : Bool := decide (d.x0 (i * 4) = g) && decide ((podA s.pods i).1 = 0)
theorem healthyN_count (d : PlanD) (s : StD) (g : Int) : healthyN d s g = ((List.range d.n0).countP (hP d s g) : Nat) := rfl
theorem count_next (p : Nat → Bool) (k : Nat) : (List.range (k + 1)).countP p = (List.range k).countP p + if p k then 1 else 0 := by
  rw [List.range_succ, List.countP_append]
  simp [List.countP_cons]
theorem count_le (p : Nat → Bool) (k : Nat) : (List.range k).countP p ≤ k := by
  have := List.countP_le_length (p := p) (l := List.range k)
  simpa using this
theorem mount_pod {d : PlanD} (h : planOkB d = true) {i : Nat} (hi : i < d.n2) : ∃ m : Nat, d.x2 (i * 2) = m ∧ m < d.n0 ∧ mpod d i = m := by
  have hf := mount_facts h hi
  simp only [planOkB, Bool.and_eq_true] at h
  obtain ⟨⟨-, hm⟩, -⟩ := h
  have := allB_true.1 hm i hi
  simp only [mountB, Bool.and_eq_true, inB_true] at this
  exact ⟨mpod d i, by unfold mpod; omega, hf.1, rfl⟩
theorem dev_mnt {d : PlanD} (h : planOkB d = true) {i : Nat} (hi : i < d.n3) : ∃ m : Nat, d.x3 i = m ∧ m < d.n2 ∧ dmnt d i = m := by
  simp only [planOkB, Bool.and_eq_true] at h
  obtain ⟨-, hm⟩ := h
  have := allB_true.1 hm i hi
  simp only [deviceB, inB_true] at this
  exact ⟨dmnt d i, by unfold dmnt; omega, by unfold dmnt; omega, rfl⟩
theorem pod_group {d : PlanD} (h : planOkB d = true) {i : Nat} (hi : i < d.n0) : ∃ m : Nat, d.x0 (i * 4) = m ∧ m < d.n1 := by
  simp only [planOkB, Bool.and_eq_true] at h
  obtain ⟨⟨⟨⟨-, hm⟩, -⟩, -⟩, -⟩ := h
  have := allB_true.1 hm i hi
  simp only [podB, Bool.and_eq_true, inB_true] at this
  exact ⟨(d.x0 (i * 4)).toNat, by omega, by omega⟩

set_option maxRecDepth 4000 in
set_option maxHeartbeats 4000000 in
theorem healthyIn_any (pv sv : Value) (d : PlanD) (s : StD) (g : Int) (w : World) (hp : IsPlan w w.heap.size pv d) (hs : IsSt w w.heap.size sv s) :
    Calls Tryz.prog 164 #[pv, sv, .int .i64 g] w fun e w' => e = .returned (.int .i64 (if stOkB d s && inB g 0 (d.n1 - 1) then healthyN d s g else -1)) ∧ Below w.heap.size w w' := by
  have HP := Lib.hid hp
  have HS := Lib.hid hs
  obtain ⟨⟨P0, P1, P2, P3, k0, k1, k2, k3, rfl, s0, s1, s2, s3⟩, b0, b1, b2, b3⟩ := hp
  obtain ⟨⟨A0, A1, A2, A3, c0, c1, c2, c3, rfl, t0, t1, t2, t3⟩, f0, f1, f2, f3⟩ := hs
  have S0 := Lib.hid s0
  have S1 := Lib.hid s1
  have S2 := Lib.hid s2
  have S3 := Lib.hid s3
  have R0 := Lib.hid t0
  have R1 := Lib.hid t1
  have R2 := Lib.hid t2
  have R3 := Lib.hid t3
  unfold maxLen at b0 b1 b2 b3 f0 f1 f2 f3
  clear s0 s1 s2 s3 t0 t1 t2 t3
  have T0 := Two.start w (planC P0 P1 P2 P3 d.n0 k0 d.n1 k1 d.n2 k2 d.n3 k3 d.l d.p d.t) (stC A0 A1 A2 A3 s.pods.length c0 s.mnts.length c1 s.devs.length c2 s.lks.length c3 s.ph s.co s.ck s.bo s.ba s.lb s.gd s.pr) 47 40
  obtain ⟨ans, hans⟩ : ∃ ans, (if stOkB d s && inB g 0 (d.n1 - 1) then healthyN d s g else -1) = ans := ⟨_, rfl⟩
  rw [hans]
  have HANS := Lib.hid hans
  clear hans
  go_enter Tryz.func164, Tryz.ntmps164
  go_wp2_with fail
  refine (specStateOk_any _ _ d s _ ((HP.out.below T0.A.K (Nat.le_refl _)).more T0.A.K.size) ((HS.out.below T0.A.K (Nat.le_refl _)).more T0.A.K.size)).mono ?_
  rintro e w1 ⟨rfl, hb⟩
  have T1 := T0.step hb
  have hC := T1.A.C
  clear hb T0
  cases hok : stOkB d s
  · have OKB := Lib.hid hok
    clear hok
    go_wp2
    all_goals (go_ret; exact ⟨ret_int (by rw [← HANS.out, OKB.out]; rfl), T1.A.K⟩)
  · have OK := Lib.hid (stOkB_iff.1 hok)
    have OKB := Lib.hid hok
    clear hok
    go_wp2_with fail
    refine (in_any _ _ _ _).mono ?_
    rintro e w2 ⟨rfl, rfl⟩
    cases hin : inB g 0 (d.n1 - 1)
    · have HIN := Lib.hid hin
      clear hin
      go_wp2
      all_goals (go_ret; exact ⟨ret_int (by rw [← HANS.out, OKB.out, HIN.out]; rfl), T1.A.K⟩)
    · have HIN := Lib.hid hin
      clear hin
      go_wp2_with fail
      go_loopw [7, 8] (fun n i wr => ∃ k : Nat, k ≤ d.n0 ∧ i = .int .i64 k ∧ n = .int .i64 ((List.range k).countP (hP d s g) : Nat) ∧ Two w wr (planC P0 P1 P2 P3 d.n0 k0 d.n1 k1 d.n2 k2 d.n3 k3 d.l d.p d.t) (stC A0 A1 A2 A3 s.pods.length c0 s.mnts.length c1 s.devs.length c2 s.lks.length c3 s.ph s.co s.ck s.bo s.ba s.lb s.gd s.pr)) (fun _ i _ => d.n0 - (intOf i).toNat)
      case atStart => exact ⟨0, Nat.zero_le _, rfl, rfl, T1⟩
      case round =>
        clear hC T1
        obtain ⟨k, hk, rfl, rfl, T⟩ := hrel
        have hC := T.A.C
        have hD := T.O.C
        by_cases hlt : k < d.n0
        · obtain ⟨b, off, rfl, hb, q0, -, -, -⟩ := (S0.out.own T.A).cell4 hlt
          have hlp : k < s.pods.length := by rw [OK.out.np]; exact hlt
          obtain ⟨b', off', rfl, hb', hc⟩ := (R0.out.below T.A.K (Nat.le_refl _)).cell hlp
          have p0 := (hc 0 (by decide)).trans (podCs_at s.pods (i := k) hlp).1
          rw [Nat.add_zero] at p0
          clear hc
          have hle := count_le (hP d s g) k
          have CN := Lib.hid (count_next (hP d s g) k)
          have CP : Hid (hP d s g k = (decide (d.x0 (k * 4) = g) && decide ((podA s.pods k).1 = 0))) := Lib.hid rfl
          generalize (List.range k).countP (hP d s g) = m at CN hle ⊢
          generalize hP d s g k = hp at CP CN
          generalize podA s.pods k = r at p0 CP
          obtain ⟨x, y⟩ := r
          dsimp only at p0 CP
          cases hv : (d.x0 (k * 4) == g)
          · have CF : Hid (hp = false) := Lib.hid (by rw [CP.out]; simp at hv; simp [hv])
            go_wp2
            refine ⟨⟨k + 1, by omega, by go_num, by rw [CN.out, CF.out]; rfl, T⟩, by simp [intOf]; omega⟩
          · by_cases hx : x = 0
            · have CF : Hid (hp = true) := Lib.hid (by rw [CP.out]; simp at hv; simp [hv, hx])
              subst hx
              go_wp2
              refine ⟨⟨k + 1, by omega, by go_num, by rw [CN.out, CF.out]; go_num, T⟩, by simp [intOf]; omega⟩
            · have CF : Hid (hp = false) := Lib.hid (by rw [CP.out]; simp [hx])
              go_wp2
              refine ⟨⟨k + 1, by omega, by go_num, by rw [CN.out, CF.out]; rfl, T⟩, by simp [intOf]; omega⟩
        · obtain rfl : k = d.n0 := by omega
          go_wp2
          all_goals (go_ret; exact ⟨ret_int (by rw [← HANS.out, OKB.out, HIN.out]; rfl), T.A.K⟩)

set_option maxRecDepth 4000 in
set_option maxHeartbeats 4000000 in
theorem l9Give_any (pv sv : Value) (d : PlanD) (s : StD) (i : Nat) (w : World) (hp : IsPlan w w.heap.size pv d) (hs : IsSt w w.heap.size sv s) (hok : StOk d s) (hi : i < d.n3) :
    Calls Tryz.prog 226 #[pv, sv, .int .i64 i] w fun e w' => e = .returned (.bool (giveB d s i)) ∧ Below w.heap.size w w' := by
  have HP := Lib.hid hp
  have HS := Lib.hid hs
  obtain ⟨⟨P0, P1, P2, P3, k0, k1, k2, k3, rfl, s0, s1, s2, s3⟩, b0, b1, b2, b3⟩ := hp
  obtain ⟨⟨A0, A1, A2, A3, c0, c1, c2, c3, rfl, t0, t1, t2, t3⟩, f0, f1, f2, f3⟩ := hs
  have S0 := Lib.hid s0
  have S1 := Lib.hid s1
  have S2 := Lib.hid s2
  have S3 := Lib.hid s3
  have R0 := Lib.hid t0
  have R1 := Lib.hid t1
  have R2 := Lib.hid t2
  have R3 := Lib.hid t3
  unfold maxLen at b0 b1 b2 b3 f0 f1 f2 f3
  clear s0 s1 s2 s3 t0 t1 t2 t3
  have T0 := Two.start w (planC P0 P1 P2 P3 d.n0 k0 d.n1 k1 d.n2 k2 d.n3 k3 d.l d.p d.t) (stC A0 A1 A2 A3 s.pods.length c0 s.mnts.length c1 s.devs.length c2 s.lks.length c3 s.ph s.co s.ck s.bo s.ba s.lb s.gd s.pr) 47 40
  have hD := T0.O.C
  have hC := T0.A.C
  have hld : i < s.devs.length := by rw [hok.nd]; exact hi
  obtain ⟨m, hm, hml, hmp⟩ := dev_mnt hok.plan hi
  have hlm : m < s.mnts.length := by rw [hok.nm]; exact hml
  obtain ⟨b, off, rfl, hb, q0⟩ := (S3.out.own T0.A).cell1 hi
  obtain ⟨b', off', rfl, hb', hc⟩ := (R2.out.below T0.A.K (Nat.le_refl _)).cell hld
  have p0 := (hc 0 (by decide)).trans (devCs_at s.devs (i := i * 1 + 0) (by omega))
  rw [Nat.add_zero, Nat.mul_one] at p0
  obtain ⟨b2_, off2, rfl, hb2, hc2⟩ := (R1.out.below T0.A.K (Nat.le_refl _)).cell hlm
  have r0 := (hc2 0 (by decide)).trans (mntCs_at s.mnts hlm).1
  rw [Nat.add_zero] at r0
  clear hc hc2
  rw [hm] at q0
  have GB : Hid (giveB d s i = (devA s.devs i && !(mntA s.mnts m).1)) := Lib.hid (by unfold giveB; rw [hmp]; rfl)
  generalize giveB d s i = ans at GB
  generalize devA s.devs i = x at p0 GB
  generalize (mntA s.mnts m).1 = y at r0 GB
  have KT := T0.A.K
  cases x
  · go_enter Tryz.func226, Tryz.ntmps226
    go_wp2_with fail
    go_quiet (fail)
    go_wp2
    all_goals (go_ret; exact ⟨ret_bool (by rw [GB.out]; rfl), (T0.A.drewN _).K⟩)
  · go_enter Tryz.func226, Tryz.ntmps226
    go_wp2_with fail
    go_quiet (fail)
    go_wp2
    all_goals (go_ret; exact ⟨ret_bool (by rw [GB.out]; simp), (T0.A.drewN _).K⟩)

end Go.Proofs.YtdphpjnecjofeaaGreatDoor
/- Wf -/
set_option linter.unusedVariables false
namespace Go.Proofs.YtdphpjnecjofeaaGreatDoor
open Go.RowKit

theorem Two.drewN {w w1 : World} {cs os : Array Value} (h : Two w w1 cs os) (n : Nat) : Two w (w1.drewN n) cs os := ⟨h.A.drewN n, h.O.drewN n⟩
theorem all_yes {n : Nat} {f : Nat → Bool} (h : ∀ j, j < n → f j = true) : (List.range n).all f = true := by simpa using h
theorem all_not {n k : Nat} {f : Nat → Bool} (hk : k < n) (h : f k = false) : (List.range n).all f = false := by
  rw [List.all_eq_false]
  exact ⟨k, by simpa using hk, by simp [h]⟩
def kidB (d : PlanD) (s : StD) (i j : Nat) : Bool := !(decide (mpar d j = i) && (mntA s.mnts j).1)

set_option maxRecDepth 4000 in
set_option maxHeartbeats 4000000 in
theorem l9Free_any (pv sv : Value) (d : PlanD) (s : StD) (i : Nat) (w : World) (hp : IsPlan w w.heap.size pv d) (hs : IsSt w w.heap.size sv s) (hok : StOk d s) (hi : i < d.n2) :
    Calls Tryz.prog 225 #[pv, sv, .int .i64 i] w fun e w' => e = .returned (.bool (freeB d s i)) ∧ Below w.heap.size w w' := by
  have HP := Lib.hid hp
  have HS := Lib.hid hs
  obtain ⟨⟨P0, P1, P2, P3, k0, k1, k2, k3, rfl, s0, s1, s2, s3⟩, b0, b1, b2, b3⟩ := hp
  obtain ⟨⟨A0, A1, A2, A3, c0, c1, c2, c3, rfl, t0, t1, t2, t3⟩, f0, f1, f2, f3⟩ := hs
  have S0 := Lib.hid s0
  have S1 := Lib.hid s1
  have S2 := Lib.hid s2
  have S3 := Lib.hid s3
  have R0 := Lib.hid t0
  have R1 := Lib.hid t1
  have R2 := Lib.hid t2
  have R3 := Lib.hid t3
  unfold maxLen at b0 b1 b2 b3 f0 f1 f2 f3
  clear s0 s1 s2 s3 t0 t1 t2 t3
  have T0 := Two.start w (planC P0 P1 P2 P3 d.n0 k0 d.n1 k1 d.n2 k2 d.n3 k3 d.l d.p d.t) (stC A0 A1 A2 A3 s.pods.length c0 s.mnts.length c1 s.devs.length c2 s.lks.length c3 s.ph s.co s.ck s.bo s.ba s.lb s.gd s.pr) 47 40
  have OK := Lib.hid hok
  have hD := T0.O.C
  have hC := T0.A.C
  have HLN := Lib.hid hok.nm
  obtain ⟨m, hm, hml, hmp⟩ := mount_pod hok.plan hi
  have hlm : m < s.pods.length := by rw [hok.np]; exact hml
  have S2' := S2
  have R1' := R1
  obtain ⟨b, off, hPe, hb, q0, -⟩ := (S2.out.own T0.A).cell2 hi
  obtain ⟨b', off', hAe, hb', hc⟩ := (R1.out.below T0.A.K (Nat.le_refl _)).cell (i := i) (by rw [HLN.out]; exact hi)
  have p0 := (hc 0 (by decide)).trans (mntCs_at s.mnts (i := i) (by rw [HLN.out]; exact hi)).1
  obtain ⟨b2_, off2, rfl, hb2, hc2⟩ := (R0.out.below T0.A.K (Nat.le_refl _)).cell hlm
  have r0 := (hc2 0 (by decide)).trans (podCs_at s.pods hlm).1
  rw [Nat.add_zero] at r0 p0
  subst hPe hAe
  clear hc hc2 hok
  rw [hm] at q0
  have GB : Hid (freeB d s i = ((mntA s.mnts i).1 && !aliveB (podA s.pods m).1 && (List.range d.n2).all (kidB d s i))) := Lib.hid (by unfold freeB; rw [hmp]; rfl)
  generalize freeB d s i = ans at GB
  have hlti : i < s.mnts.length := by rw [HLN.out]; exact hi
  generalize hX : (mntA s.mnts i).1 = x at p0 GB
  generalize (podA s.pods m).1 = y at r0 GB
  clear hX
  cases x
  · go_enter Tryz.func225, Tryz.ntmps225
    go_wp2_with fail
    go_quiet ((go_at_call 184; exact Calls.quiet_of_same ((alive_any _ _).mono fun e w' h => ⟨h.1, h.2.symm⟩)))
    go_wp2
    all_goals (go_ret; exact ⟨ret_bool (by rw [GB.out]; rfl), (T0.A.drewN _).K⟩)
  · cases ha : aliveB y
    · go_enter Tryz.func225, Tryz.ntmps225
      go_wp2_with fail
      go_quiet ((go_at_call 184; exact Calls.quiet_of_same ((alive_any _ _).mono fun e w' h => ⟨h.1, h.2.symm⟩)))
      have T1 := T0.drewN nq
      have HA := Lib.hid ha
      clear ha
      go_wp2_with fail
      go_loopw [7] (fun j wr => ∃ k : Nat, k ≤ d.n2 ∧ j = .int .i64 k ∧ (∀ j, j < k → kidB d s i j = true) ∧ Two w wr (planC P0 P1 (some ⟨b, off, none⟩) P3 d.n0 k0 d.n1 k1 d.n2 k2 d.n3 k3 d.l d.p d.t) (stC (some ⟨b2_, off2, none⟩) (some ⟨b', off', none⟩) A2 A3 s.pods.length c0 s.mnts.length c1 s.devs.length c2 s.lks.length c3 s.ph s.co s.ck s.bo s.ba s.lb s.gd s.pr)) (fun j _ => d.n2 - (intOf j).toNat)
      case atStart => exact ⟨0, Nat.zero_le _, rfl, fun j hj => absurd hj (by omega), T1⟩
      case round =>
        clear hC hD T1 p0 q0 r0
        obtain ⟨k, hk, rfl, hall, T⟩ := hrel
        have HALL := Lib.hid hall
        clear hall
        have hC := T.A.C
        have hD := T.O.C
        by_cases hlt : k < d.n2
        · have hlp : k < s.mnts.length := by rw [HLN.out]; exact hlt
          obtain ⟨b3_, off3, e3, hb3, -, q1⟩ := (S2'.out.own T.A).cell2 hlt
          injection e3 with e3
          injection e3 with e3 e4 _
          subst e3 e4
          obtain ⟨b4_, off4, e3, hb4, hc⟩ := (R1'.out.below T.A.K (Nat.le_refl _)).cell hlp
          injection e3 with e3
          injection e3 with e3 e4 _
          subst e3 e4
          have r0 := (hc 0 (by decide)).trans (mntCs_at s.mnts (i := k) hlp).1
          rw [Nat.add_zero] at r0
          clear hc
          have KB : Hid (kidB d s i k = !(decide (d.x2 (k * 2 + 1) = i) && (mntA s.mnts k).1)) := Lib.hid rfl
          have HFALSE : Hid (kidB d s i k = false → ans = false) := Lib.hid fun h => by rw [GB.out, all_not hlt h]; simp
          have HSTEP : Hid (kidB d s i k = true → ∀ j, j < k + 1 → kidB d s i j = true) := Lib.hid fun h => step_all HALL.out h
          generalize kidB d s i k = kb at KB HFALSE HSTEP
          generalize (mntA s.mnts k).1 = z at r0 KB
          cases hv : (d.x2 (k * 2 + 1) == (i : Int))
          · have CF : Hid (kb = true) := Lib.hid (by rw [KB.out]; simp at hv; simp [hv])
            go_wp2
            refine ⟨⟨k + 1, by omega, by go_num, HSTEP.out CF.out, T⟩, by simp [intOf]; omega⟩
          · cases z
            · have CF : Hid (kb = true) := Lib.hid (by rw [KB.out]; simp)
              go_wp2
              refine ⟨⟨k + 1, by omega, by go_num, HSTEP.out CF.out, T⟩, by simp [intOf]; omega⟩
            · have CF : Hid (kb = false) := Lib.hid (by rw [KB.out]; simp at hv; simp [hv])
              go_wp2
              all_goals (go_ret; exact ⟨ret_bool (by rw [HFALSE.out CF.out]), T.A.K⟩)
        · obtain rfl : k = d.n2 := by omega
          go_wp2
          all_goals (go_ret; exact ⟨ret_bool (by rw [GB.out, HA.out, all_yes HALL.out]; rfl), T.A.K⟩)
    · go_enter Tryz.func225, Tryz.ntmps225
      go_wp2_with fail
      go_quiet ((go_at_call 184; exact Calls.quiet_of_same ((alive_any _ _).mono fun e w' h => ⟨h.1, h.2.symm⟩)))
      have HA := Lib.hid ha
      go_wp2
      all_goals (go_ret; exact ⟨ret_bool (by rw [GB.out, HA.out]; rfl), (T0.A.drewN _).K⟩)

end Go.Proofs.YtdphpjnecjofeaaGreatDoor
/- Wg -/
set_option linter.unusedVariables false
namespace Go.Proofs.YtdphpjnecjofeaaGreatDoor
open Go.RowKit

theorem contains_at {l : List Int} {j : Nat} {a : Int} (hj : j < l.length) (h : lkA l j = a) : l.contains a = true := by
  subst h
  simp [lkA, List.getD, List.getElem?_eq_getElem hj]
theorem contains_no {l : List Int} {a : Int} (h : ∀ j, j < l.length → lkA l j ≠ a) : l.contains a = false := by
  rw [Bool.eq_false_iff]
  intro hc
  rw [List.contains_iff_mem, List.mem_iff_getElem] at hc
  obtain ⟨j, hj, e⟩ := hc
  exact h j hj (by simp [lkA, List.getD, List.getElem?_eq_getElem hj, e])
set_option maxRecDepth 4000 in
set_option maxHeartbeats 4000000 in
theorem mayEvict_any (pv sv : Value) (d : PlanD) (s : StD) (a : Int) (w : World) (hp : IsPlan w w.heap.size pv d) (hs : IsSt w w.heap.size sv s) :
    Calls Tryz.prog 127 #[pv, sv, .int .i64 a] w fun e w' => e = .returned (.bool (stOkB d s && mayEvictB d s a)) ∧ Below w.heap.size w w' := by
  have HP := Lib.hid hp
  have HS := Lib.hid hs
  obtain ⟨⟨P0, P1, P2, P3, k0, k1, k2, k3, rfl, s0, s1, s2, s3⟩, b0, b1, b2, b3⟩ := hp
  obtain ⟨⟨A0, A1, A2, A3, c0, c1, c2, c3, rfl, t0, t1, t2, t3⟩, f0, f1, f2, f3⟩ := hs
  have S0 := Lib.hid s0
  have S1 := Lib.hid s1
  have S2 := Lib.hid s2
  have S3 := Lib.hid s3
  have R0 := Lib.hid t0
  have R1 := Lib.hid t1
  have R2 := Lib.hid t2
  have R3 := Lib.hid t3
  unfold maxLen at b0 b1 b2 b3 f0 f1 f2 f3
  clear s0 s1 s2 s3 t0 t1 t2 t3
  have T0 := Two.start w (planC P0 P1 P2 P3 d.n0 k0 d.n1 k1 d.n2 k2 d.n3 k3 d.l d.p d.t) (stC A0 A1 A2 A3 s.pods.length c0 s.mnts.length c1 s.devs.length c2 s.lks.length c3 s.ph s.co s.ck s.bo s.ba s.lb s.gd s.pr) 47 40
  obtain ⟨ans, hans⟩ : ∃ ans, (stOkB d s && mayEvictB d s a) = ans := ⟨_, rfl⟩
  rw [hans]
  have HANS := Lib.hid hans
  clear hans
  go_enter Tryz.func127, Tryz.ntmps127
  go_wp2_with fail
  refine (specStateOk_any _ _ d s _ ((HP.out.below T0.A.K (Nat.le_refl _)).more T0.A.K.size) ((HS.out.below T0.A.K (Nat.le_refl _)).more T0.A.K.size)).mono ?_
  rintro e w1 ⟨rfl, hb⟩
  have T1 := T0.step hb
  have hC := T1.A.C
  have hD := T1.O.C
  clear hb T0
  cases hok : stOkB d s
  · have OKB := Lib.hid hok
    clear hok
    go_wp2
    all_goals (go_ret; exact ⟨ret_bool (by rw [← HANS.out, OKB.out]; rfl), T1.A.K⟩)
  · have OK := Lib.hid (stOkB_iff.1 hok)
    have OKB := Lib.hid hok
    clear hok
    cases hph : (s.ph != 2)
    case true =>
      have HPH : Hid (¬ s.ph = 2) := Lib.hid (by simpa using hph)
      go_wp2
      all_goals (go_ret; exact ⟨ret_bool (by rw [← HANS.out, OKB.out]; simp [mayEvictB, HPH.out]), T1.A.K⟩)
    case false =>
      have HPH : Hid (s.ph = 2) := Lib.hid (by simpa using hph)
      go_wp2_with fail
      refine (in_any _ _ _ _).mono ?_
      rintro e w2 ⟨rfl, rfl⟩
      cases hin : inB a 0 (d.n0 - 1)
      · have HIN := Lib.hid hin
        clear hin
        go_wp2
        all_goals (go_ret; exact ⟨ret_bool (by rw [← HANS.out, OKB.out]; simp [mayEvictB, HIN.out]), T1.A.K⟩)
      · have HIN := Lib.hid hin
        obtain ⟨i, rfl, hi⟩ := index_nat (a := a) (n := d.n0) (by rw [hin]; decide)
        clear hin
        have hlp : i < s.pods.length := by rw [OK.out.np]; exact hi
        obtain ⟨b', off', rfl, hb', hc⟩ := (R0.out.below T1.A.K (Nat.le_refl _)).cell hlp
        have p0 := (hc 0 (by decide)).trans (podCs_at s.pods (i := i) hlp).1
        rw [Nat.add_zero] at p0
        clear hc
        obtain ⟨m, hm, hml⟩ := pod_group OK.out.plan hi
        have HANS2 : Hid (ans = (decide ((podA s.pods i).1 = 0) && decide (d.x1 m < healthyN d s m))) := Lib.hid (by
          rw [← HANS.out, OKB.out, mayEvictB, HIN.out, HPH.out, Int.toNat_natCast, hm, Int.toNat_natCast]
          simp [podAt, podA])
        generalize (podA s.pods i).1 = x at p0 HANS2
        by_cases hx : x = 0
        · subst hx
          obtain ⟨b, off, rfl, hb, q0, -, -, -⟩ := (S0.out.own T1.A).cell4 hi
          obtain ⟨b1_, off1, rfl, hb1, r0⟩ := (S1.out.below T1.A.K (Nat.le_refl _)).cell1 hml
          rw [hm] at q0
          have HG : Hid ((if stOkB d s && inB (m : Int) 0 (d.n1 - 1) then healthyN d s m else -1) = healthyN d s m) := Lib.hid (by
            rw [OKB.out, show inB (m : Int) 0 (d.n1 - 1) = true from by rw [inB_true]; omega]; rfl)
          clear hm HPH
          go_wp2_with fail
          have hlt1 : b1_ < w1.heap.size := Nat.lt_of_lt_of_le hb1 T1.A.K.size
          have Q0 : (∀ o, w1.cell? ⟨w.heap.size, o, none⟩ = (planC (some ⟨b, off, none⟩) (some ⟨b1_, off1, none⟩) P2 P3 d.n0 k0 d.n1 k1 d.n2 k2 d.n3 k3 d.l d.p d.t)[o]?) ∧ (∀ o, w1.cell? ⟨w.heap.size + 1, o, none⟩ = (stC (some ⟨b', off', none⟩) A1 A2 A3 s.pods.length c0 s.mnts.length c1 s.devs.length c2 s.lks.length c3 s.ph s.co s.ck s.bo s.ba s.lb s.gd s.pr)[o]?) ∧ w1.cell? ⟨b1_, off1 + m, none⟩ = some (.int .i64 (d.x1 m)) ∧ Below w1.heap.size w1 w1 := ⟨T1.A.C, T1.O.C, r0, Below.refl _ _⟩
          go_region_held3 (fun w' => (∀ o, w'.cell? ⟨w.heap.size, o, none⟩ = (planC (some ⟨b, off, none⟩) (some ⟨b1_, off1, none⟩) P2 P3 d.n0 k0 d.n1 k1 d.n2 k2 d.n3 k3 d.l d.p d.t)[o]?) ∧ (∀ o, w'.cell? ⟨w.heap.size + 1, o, none⟩ = (stC (some ⟨b', off', none⟩) A1 A2 A3 s.pods.length c0 s.mnts.length c1 s.devs.length c2 s.lks.length c3 s.ph s.co s.ck s.bo s.ba s.lb s.gd s.pr)[o]?) ∧ w'.cell? ⟨b1_, off1 + m, none⟩ = some (.int .i64 (d.x1 m)) ∧ Below w1.heap.size w1 w')
            (first | exact Q2 | exact Q0 | exact ⟨Q0.1, Q0.2.1, Q0.2.2.1, Q0.2.2.2.drew⟩)
            (first
              | (go_at_call 164
                 have K0 : Below w1.heap.size w1 w1.drew := (Below.refl _ _).drew
                 refine (healthyIn_any _ _ d s _ _ ((HP.out.below (T1.step K0).A.K (Nat.le_refl _)).more (T1.step K0).A.K.size) ((HS.out.below (T1.step K0).A.K (Nat.le_refl _)).more (T1.step K0).A.K.size)).mono ?_
                 rw [HG.out]
                 rintro e w3 ⟨rfl, hb3⟩
                 have K1 : Below w1.heap.size w1 w3 := K0.trans hb3
                 have Q2 := And.intro (T1.step K1).A.C (And.intro (T1.step K1).O.C (And.intro ((K1.cell (p := ⟨b1_, off1 + m, none⟩) hlt1).trans r0) K1))))
          have T3 := T1.step K1
          go_wp2
          all_goals (go_ret; exact ⟨ret_bool (by rw [HANS2.out]; simp), T3.A.K⟩)
        · go_wp2
          all_goals (go_ret; exact ⟨ret_bool (by rw [HANS2.out]; simp [hx]), T1.A.K⟩)

set_option maxHeartbeats 1000000 in
theorem l10Phase_any (sv : Value) (s : StD) (f t : Int) (w : World) (hs : IsSt w w.heap.size sv s) :
    Calls Tryz.prog 76 #[sv, .int .i64 f, .int .i64 t] w (RecsA w (phaseD s f t)) := by
  obtain ⟨⟨A0, A1, A2, A3, c0, c1, c2, c3, rfl, -, -, -, -⟩, -, -, -, -⟩ := hs
  obtain ⟨ans, hans⟩ : ∃ ans, phaseD s f t = ans := ⟨_, rfl⟩
  rw [hans]
  have HANS := Lib.hid hans
  clear hans
  have X := Own.box w (stC A0 A1 A2 A3 s.pods.length c0 s.mnts.length c1 s.devs.length c2 s.lks.length c3 s.ph s.co s.ck s.bo s.ba s.lb s.gd s.pr) 40
  cases hph : (s.ph != f)
  · have HPH : Hid (s.ph = f) := Lib.hid (by simpa using hph)
    go_enter Tryz.func76, Tryz.ntmps76
    go_wp2_with fail
    refine (l10One_any 1 t 0 _).mono ?_
    rintro e w9 hR
    obtain ⟨v9, rfl, O9, K9⟩ := hR.back X.K
    go_wp2
    all_goals (go_ret2; rw [← HANS.out, phaseD, if_pos HPH.out]; exact ⟨v9, rfl, O9, K9⟩)
  · have HPH : Hid (¬ s.ph = f) := Lib.hid (by simpa using hph)
    go_enter Tryz.func76, Tryz.ntmps76
    go_wp2_with fail
    refine (l10No_any 3 _).mono ?_
    rintro e w9 hR
    obtain ⟨v9, rfl, O9, K9⟩ := hR.back X.K
    go_wp2
    all_goals (go_ret2; rw [← HANS.out, phaseD, if_neg HPH.out]; exact ⟨v9, rfl, O9, K9⟩)

set_option maxHeartbeats 1000000 in
theorem l10Holds_any (sv : Value) (s : StD) (a : Int) (w : World) (hs : IsSt w w.heap.size sv s) :
    Calls Tryz.prog 130 #[sv, .int .i64 a] w fun e w' => e = .returned (.bool (s.lks.contains a)) ∧ Below w.heap.size w w' := by
  obtain ⟨⟨A0, A1, A2, A3, c0, c1, c2, c3, rfl, -, -, -, t3⟩, -, -, -, f3⟩ := hs
  have R3 := Lib.hid t3
  unfold maxLen at f3
  clear t3
  obtain ⟨ans, hans⟩ : ∃ ans, s.lks.contains a = ans := ⟨_, rfl⟩
  rw [hans]
  have HANS := Lib.hid hans
  clear hans
  have X0 := Own.box w (stC A0 A1 A2 A3 s.pods.length c0 s.mnts.length c1 s.devs.length c2 s.lks.length c3 s.ph s.co s.ck s.bo s.ba s.lb s.gd s.pr) 40
  go_enter Tryz.func130, Tryz.ntmps130
  go_wp2_with fail
  go_loopw [5] (fun j wr => ∃ k : Nat, k ≤ s.lks.length ∧ j = .int .i64 k ∧ (∀ j, j < k → lkA s.lks j ≠ a) ∧ Own w wr w.heap.size (stC A0 A1 A2 A3 s.pods.length c0 s.mnts.length c1 s.devs.length c2 s.lks.length c3 s.ph s.co s.ck s.bo s.ba s.lb s.gd s.pr)) (fun j _ => s.lks.length - (intOf j).toNat)
  case atStart => exact ⟨0, Nat.zero_le _, rfl, fun j hj => absurd hj (by omega), X0⟩
  case round =>
    clear X0
    obtain ⟨k, hk, rfl, hall, X⟩ := hrel
    have HALL := Lib.hid hall
    clear hall
    have hC := X.C
    by_cases hlt : k < s.lks.length
    · obtain ⟨b', off', rfl, hb', hc⟩ := (R3.out.below X.K (Nat.le_refl _)).cell hlt
      have p0 := (hc 0 (by decide)).trans (lkCs_at s.lks (i := k * 1 + 0) (by omega))
      rw [Nat.add_zero, Nat.mul_one] at p0
      clear hc
      have HYES : Hid (lkA s.lks k = a → ans = true) := Lib.hid fun h => by rw [← HANS.out]; exact contains_at hlt h
      have HNO : Hid (lkA s.lks k ≠ a → ∀ j, j < k + 1 → lkA s.lks j ≠ a) := Lib.hid fun h j hj => by
        by_cases e : j = k
        · rw [e]; exact h
        · exact HALL.out j (by omega)
      generalize lkA s.lks k = x at p0 HYES HNO
      cases hx : (x == a)
      · have HX : Hid (x ≠ a) := Lib.hid (by simpa using hx)
        go_wp2
        refine ⟨⟨k + 1, by omega, by go_num, HNO.out HX.out, X⟩, by simp [intOf]; omega⟩
      · have HX : Hid (x = a) := Lib.hid (by simpa using hx)
        go_wp2
        all_goals (go_ret; exact ⟨ret_bool (HYES.out HX.out).symm, X.K⟩)
    · obtain rfl : k = s.lks.length := by omega
      go_wp2
      all_goals (go_ret; exact ⟨ret_bool (by rw [← HANS.out, contains_no HALL.out]), X.K⟩)

end Go.Proofs.YtdphpjnecjofeaaGreatDoor
/- Sa -/
set_option linter.unusedVariables false
namespace Go.Proofs.YtdphpjnecjofeaaGreatDoor
open Go.RowKit
/-- Block g holds n whole numbers, as x tells, and no more. -/
structure Cells (w : World) (g n : Nat) (x : Nat → Int) : Prop where
  it : ∃ cur, w.heap[g]? = some (.cells cur 2 (0, 0)) ∧ cur.size = n ∧ ∀ j, j < n → cur[j]? = some (.int .i64 (x j))
theorem Cells.lt {w : World} {g n : Nat} {x : Nat → Int} (h : Cells w g n x) : g < w.heap.size := by
  obtain ⟨cur, hh, _⟩ := h
  exact (Array.getElem?_eq_some_iff.1 hh).1
theorem Cells.at_ {w : World} {g n : Nat} {x : Nat → Int} (h : Cells w g n x) {j : Nat} (hj : j < n) : w.cell? ⟨g, j, none⟩ = some (.int .i64 (x j)) ∧ w.frozen? ⟨g, j, none⟩ = false := by
  obtain ⟨cur, hh, _, hc⟩ := h
  exact ⟨(cell_of_row _ _ _ _ _ _ hh).trans (hc j hj), frozen_of_row _ _ _ _ _ hh⟩
theorem Cells.set {w : World} {g n : Nat} {x : Nat → Int} (h : Cells w g n x) (i : Nat) (v : Int) : Cells (w.setCell ⟨g, i, none⟩ (.int .i64 v)) g n (fun j => if j = i then v else x j) := by
  obtain ⟨cur, hh, hs, hc⟩ := h
  refine ⟨cur.setIfInBounds i (.int .i64 v), ?_, by simp [hs], fun j hj => ?_⟩
  · rw [Go.Sort.setCell_eq]
    simp [Go.Sort.mapBlock, Array.getElem?_modify, hh, Go.Sort.onCells]
  · by_cases e : j = i
    · subst e
      simp [hs, hj]
    · rw [Array.getElem?_setIfInBounds_ne (fun he => e he.symm), hc j hj, if_neg e]
theorem Cells.congr {w : World} {g n : Nat} {x y : Nat → Int} (h : Cells w g n x) (e : ∀ j, j < n → x j = y j) : Cells w g n y := by
  obtain ⟨cur, hh, hs, hc⟩ := h
  exact ⟨cur, hh, hs, fun j hj => by rw [hc j hj, e j hj]⟩
theorem Cells.drewN {w : World} {g n : Nat} {x : Nat → Int} (h : Cells w g n x) (q : Nat) : Cells (w.drewN q) g n x := ⟨h.it⟩
/-- The same numbers, in whichever order and however often. -/
structure Same (n : Nat) (x y : Nat → Int) : Prop where
  there : ∀ j, j < n → ∃ k, k < n ∧ y k = x j
  back : ∀ k, k < n → ∃ j, j < n ∧ y k = x j
theorem Same.refl (n : Nat) (x : Nat → Int) : Same n x x := ⟨fun j hj => ⟨j, hj, rfl⟩, fun j hj => ⟨j, hj, rfl⟩⟩
/-- y with what lies at two places put each in the other's. -/
def swapped (y : Nat → Int) (a b : Nat) : Nat → Int := fun j => if j = b then y a else if j = a then y b else y j
theorem Same.swap {n : Nat} {x y : Nat → Int} (h : Same n x y) {a b : Nat} (ha : a < n) (hb : b < n) : Same n x (swapped y a b) := by
  refine ⟨fun j hj => ?_, fun k hk => ?_⟩
  · obtain ⟨k, hk, e⟩ := h.there j hj
    by_cases e1 : k = a
    · exact ⟨b, hb, by rw [← e, e1]; exact if_pos rfl⟩
    · by_cases e2 : k = b
      · refine ⟨a, ha, ?_⟩
        rw [← e, e2]
        unfold swapped
        by_cases e3 : a = b
        · rw [if_pos e3, e3]
        · rw [if_neg e3, if_pos rfl]
      · exact ⟨k, hk, by rw [← e]; unfold swapped; rw [if_neg e2, if_neg e1]⟩
  · unfold swapped
    split
    · exact h.back a ha
    · split
      · exact h.back b hb
      · exact h.back k hk
/-- Up to m all rise (or stay), but for what lies at place j, which may be too small for its place. -/
def RiseBut (y : Nat → Int) (m j : Nat) : Prop := ∀ a b, a < b → b < m → b ≠ j → y a ≤ y b
def Rises (y : Nat → Int) (m : Nat) : Prop := ∀ a b, a < b → b < m → y a ≤ y b
theorem Rises.but {y : Nat → Int} {m : Nat} (h : Rises y m) : RiseBut y (m + 1) m := fun a b h1 h2 h3 => h a b h1 (by omega)
theorem RiseBut.stop {y : Nat → Int} {m j : Nat} (h : RiseBut y m j) (hs : j = 0 ∨ y (j - 1) ≤ y j) : Rises y m := fun a b h1 h2 => by
  by_cases e : b = j
  · subst e
    have h3 := hs.resolve_left (by omega)
    by_cases e2 : a = b - 1
    · subst e2; exact h3
    · exact Int.le_trans (h a (b - 1) (by omega) (by omega) (by omega)) h3
  · exact h a b h1 h2 e
theorem RiseBut.swap {y : Nat → Int} {m j : Nat} (h : RiseBut y m j) (hj : 0 < j) (hl : y j < y (j - 1)) : RiseBut (swapped y j (j - 1)) m (j - 1) := fun a b h1 h2 h3 => by
  unfold swapped
  rw [if_neg h3]
  by_cases e1 : b = j
  · rw [if_pos e1]
    by_cases e2 : a = j - 1
    · rw [if_pos e2]; omega
    · rw [if_neg e2, if_neg (by omega)]
      exact h a (j - 1) (by omega) (by omega) (by omega)
  · rw [if_neg e1]
    by_cases e2 : a = j - 1
    · rw [if_pos e2]
      by_cases e3 : j < b
      · exact h j b e3 h2 e1
      · omega
    · rw [if_neg e2]
      by_cases e3 : a = j
      · rw [if_pos e3]
        exact h (j - 1) b (by omega) h2 e1
      · rw [if_neg e3]
        exact h a b h1 h2 e1

set_option maxHeartbeats 400000 in
theorem isNaN_any (x : Int) (w : World) : Calls Tryz.prog 218 #[.int .i64 x] w fun e w' => e = .returned (.bool false) ∧ w' = w := by
  go_enter Tryz.func218, Tryz.ntmps218
  go_wp2
  go_ret
  exact ⟨ret_bool (by simp), rfl⟩
set_option maxHeartbeats 400000 in
theorem less_any (x y : Int) (w : World) : Calls Tryz.prog 195 #[.int .i64 x, .int .i64 y] w fun e w' => e = .returned (.bool (decide (x < y))) ∧ w' = w := by
  go_enter Tryz.func195, Tryz.ntmps195
  go_wp2_with (go_at_call 218; refine (isNaN_any _ _).mono ?_; rintro e w' ⟨rfl, rfl⟩)
  go_ret
  exact ⟨rfl, rfl⟩

set_option maxRecDepth 100000 in
set_option maxHeartbeats 1000000 in
theorem len64_any (n : Nat) (w : World) (hn : n ≤ 12) : Calls Tryz.prog 246 #[.int .u64 n] w fun e w' => (∃ k : Int, e = .returned (.int .i64 k)) ∧ w' = w := by
  have : n = 0 ∨ n = 1 ∨ n = 2 ∨ n = 3 ∨ n = 4 ∨ n = 5 ∨ n = 6 ∨ n = 7 ∨ n = 8 ∨ n = 9 ∨ n = 10 ∨ n = 11 ∨ n = 12 := by omega
  rcases this with rfl | rfl | rfl | rfl | rfl | rfl | rfl | rfl | rfl | rfl | rfl | rfl | rfl
  all_goals
    go_enter Tryz.func246, Tryz.ntmps246
    go_wp2
    go_ret
    exact ⟨⟨_, rfl⟩, rfl⟩
theorem len_any (n : Nat) (w : World) (hn : n ≤ 12) : Calls Tryz.prog 236 #[.int .u64 n] w fun e w' => (∃ k : Int, e = .returned (.int .i64 k)) ∧ w' = w := by
  go_enter Tryz.func236, Tryz.ntmps236
  go_wp2_with (go_at_call 246; refine (len64_any _ _ hn).mono ?_; rintro e w' ⟨⟨k, rfl⟩, rfl⟩)
  go_ret
  exact ⟨⟨_, rfl⟩, rfl⟩

/-- What a sort leaves: nothing is answered, the same numbers rise, all else is as it was. -/
def Sorted (g n : Nat) (x : Nat → Int) (w : World) (e : Ending) (w' : World) : Prop :=
  e = .returned (.tuple #[]) ∧ ∃ y, Cells w' g n y ∧ Same n x y ∧ Rises y n ∧ Keeps (· = g) w w'

set_option maxRecDepth 100000 in
set_option maxHeartbeats 2000000 in
theorem insertionSort_any (g n : Nat) (x : Nat → Int) (w : World) (hX : Cells w g n x) (hn : n ≤ 12) :
    Calls Tryz.prog 237 #[.slice (some ⟨g, 0, none⟩) n n, .int .i64 0, .int .i64 n] w (Sorted g n x w) := by
  go_enter Tryz.func237, Tryz.ntmps237
  go_wp2
  go_loopw [6] (fun vi wr => ∃ i : Nat, vi = .int .i64 i ∧ 1 ≤ i ∧ i ≤ n + 1 ∧ ∃ y, Cells wr g n y ∧ Same n x y ∧ Rises y (min i n) ∧ Keeps (· = g) w wr) (fun vi _ => n + 1 - (intOf vi).toNat)
  case atStart => exact ⟨1, rfl, Nat.le_refl _, by omega, x, hX, Same.refl _ _, fun a b h1 h2 => by omega, Keeps.refl _ _⟩
  case round =>
    clear hX
    obtain ⟨i, rfl, h1, h2, y, hY, hS, hR, hK⟩ := hrel
    have HY := Lib.hid hY
    have HS := Lib.hid hS
    have HR := Lib.hid hR
    have HK := Lib.hid hK
    clear hY hS hR hK
    by_cases hlt : i < n
    · go_wp2
      go_loopw [7] (fun vj wr2 => ∃ j : Nat, vj = .int .i64 j ∧ j ≤ i ∧ ∃ z, Cells wr2 g n z ∧ Same n x z ∧ RiseBut z (i + 1) j ∧ Keeps (· = g) w wr2) (fun vj _ => (intOf vj).toNat)
      case atStart => exact ⟨i, rfl, Nat.le_refl _, y, HY.out, HS.out, by have := HR.out; rw [Nat.min_eq_left (by omega)] at this; exact this.but, HK.out⟩
      case round =>
        clear HY HS HR HK
        obtain ⟨j, rfl, hj, z, hZ, hS, hR, hK⟩ := hrel
        have HZ := Lib.hid hZ
        have HS := Lib.hid hS
        have HR := Lib.hid hR
        have HK := Lib.hid hK
        have hdone : (j = 0 ∨ z (j - 1) ≤ z j) → ∀ q, ∃ i' : Nat, Value.int .i64 ((i : Int) + 1) = .int .i64 i' ∧ 1 ≤ i' ∧ i' ≤ n + 1 ∧ ∃ y, Cells (wr.drewN q) g n y ∧ Same n x y ∧ Rises y (min i' n) ∧ Keeps (· = g) w (wr.drewN q) := fun hs q =>
          ⟨i + 1, by go_num, by omega, by omega, z, HZ.out.drewN q, HS.out, by rw [Nat.min_eq_left (by omega)]; exact HR.out.stop hs, HK.out.drewN q⟩
        have HD := Lib.hid hdone
        obtain ⟨c1, f1⟩ := hZ.at_ (j := j) (by omega)
        obtain ⟨c0, f0⟩ := hZ.at_ (j := j - 1) (by omega)
        clear hZ hS hR hK hdone
        by_cases hj0 : 0 < j
        · generalize hp : z j = p at c1
          generalize hq : z (j - 1) = r at c0
          have HP := Lib.hid hp
          have HQ := Lib.hid hq
          clear hp hq
          go_wp2_with fail
          go_quiet (first | (go_at_call 195; refine Calls.quiet_of_same (less_any _ _ _)))
          by_cases hpr : p < r
          · go_wp2_with fail
            go_region
            all_goals go_wp2
            go_roundw
            case rel =>
              refine ⟨j - 1, by congr 1; omega, by omega, swapped z j (j - 1), ?_, HS.out.swap (by omega) (by omega), HR.out.swap hj0 (by rw [HP.out, HQ.out]; exact hpr), ?_⟩
              · refine ((((HZ.out.drewN _).set j r).set (j - 1) p)).congr fun k _ => ?_
                unfold swapped
                rw [HP.out, HQ.out]
              · exact ((HK.out.drewN _).set (p := ⟨g, j, none⟩) rfl _).set (p := ⟨g, j - 1, none⟩) rfl _
            case measure => simp [intOf]; omega
          · go_wp2
            go_roundw
            case rel => exact HD.out (.inr (by rw [HP.out, HQ.out]; omega)) _
            case measure => simp [intOf]; omega
        · go_wp2_with fail
          go_quiet (first | (go_at_call 195; refine Calls.quiet_of_same (less_any _ _ _)))
          go_wp2
          go_roundw
          case rel => exact HD.out (.inl (by omega)) _
          case measure => simp [intOf]; omega
    · go_wp2
      go_end0
      exact ⟨rfl, y, HY.out, HS.out, by have := HR.out; rw [Nat.min_eq_right (by omega)] at this; exact this, HK.out⟩

set_option maxRecDepth 100000 in
set_option maxHeartbeats 2000000 in
theorem pdqsort_any (g n : Nat) (k : Int) (x : Nat → Int) (w : World) (hX : Cells w g n x) (hn : n ≤ 12) :
    Calls Tryz.prog 235 #[.slice (some ⟨g, 0, none⟩) n n, .int .i64 0, .int .i64 n, .int .i64 k] w (Sorted g n x w) := by
  have hc := Lib.hid (insertionSort_any g n x w hX hn)
  clear hX
  go_enter Tryz.func235, Tryz.ntmps235
  go_wp2
  go_loopw [1, 2, 3, 8, 9] (fun s1 s2 s3 s8 s9 wr => s1 = .int .i64 0 ∧ s2 = .int .i64 n ∧ s3 = .int .i64 k ∧ s8 = .bool true ∧ s9 = .bool true ∧ wr = w) (fun _ _ _ _ _ _ => 0)
  case atStart => exact ⟨rfl, rfl, rfl, rfl, rfl, rfl⟩
  case round =>
    obtain ⟨rfl, rfl, rfl, rfl, rfl, rfl⟩ := hrel
    go_wp2_with (go_at_call 237; refine hc.out.mono ?_; rintro e w1 ⟨rfl, hw1⟩)
    (try simp only [Exit.inBlock, Exit.then])
    exact bodyPost_ret (results_none rfl _ _ _) rfl ⟨rfl, hw1⟩

set_option maxRecDepth 100000 in
set_option maxHeartbeats 1000000 in
theorem sort_any (g n : Nat) (x : Nat → Int) (w : World) (hX : Cells w g n x) (hn : n ≤ 12) :
    Calls Tryz.prog 232 #[.slice (some ⟨g, 0, none⟩) n n] w (Sorted g n x w) := by
  have HX := Lib.hid hX
  clear hX
  go_enter Tryz.func232, Tryz.ntmps232
  go_wp2_with (first
    | (go_at_call 236; refine (len_any _ _ hn).mono ?_; rintro e w' ⟨⟨k, rfl⟩, rfl⟩)
    | (go_at_call 235; refine (pdqsort_any g n _ x _ HX.out hn).mono ?_; rintro e w' ⟨rfl, hw1⟩))
  go_end0
  exact ⟨rfl, hw1⟩
end Go.Proofs.YtdphpjnecjofeaaGreatDoor
/- Sb -/
set_option linter.unusedVariables false
namespace Go.Proofs.YtdphpjnecjofeaaGreatDoor
open Go.RowKit

/-- Of the first m those that are not as the one ahead of them. -/
def dd (x : Nat → Int) : Nat → List Int
  | 0 => []
  | m + 1 => if m = 0 ∨ x m ≠ x (m - 1) then dd x m ++ [x m] else dd x m
theorem dd_new {x : Nat → Int} {m : Nat} (h : m = 0 ∨ x m ≠ x (m - 1)) : dd x (m + 1) = dd x m ++ [x m] := if_pos h
theorem dd_old {x : Nat → Int} {m : Nat} (hm : 0 < m) (h : x m = x (m - 1)) : dd x (m + 1) = dd x m := if_neg (by omega)
theorem dd_le (x : Nat → Int) : ∀ m, (dd x m).length ≤ m
  | 0 => Nat.le_refl _
  | m + 1 => by
    have := dd_le x m
    unfold dd
    split
    · simp; omega
    · omega
/-- Where no two neighbours are alike all stay. -/
theorem dd_all {x : Nat → Int} : ∀ {m : Nat}, (∀ j, 0 < j → j < m → x j ≠ x (j - 1)) → (dd x m).length = m ∧ ∀ j, j < m → x j = (dd x m).getD j 0
  | 0, _ => ⟨rfl, fun j hj => by omega⟩
  | m + 1, h => by
    obtain ⟨h1, h2⟩ := dd_all (m := m) fun j h0 hj => h j h0 (by omega)
    have hn : m = 0 ∨ x m ≠ x (m - 1) := by
      by_cases e : m = 0
      · exact .inl e
      · exact .inr (h m (by omega) (by omega))
    rw [dd_new hn]
    refine ⟨by simp [h1], fun j hj => ?_⟩
    by_cases e : j = m
    · subst e
      simp [List.getD, h1]
    · rw [h2 j (by omega)]
      simp [List.getD, List.getElem?_append_left (show j < (dd x m).length by omega)]

theorem Cells.fill {g n : Nat} : ∀ (m o : Nat) {w : World} {y : Nat → Int}, Cells w g n y → ∃ z, Cells (w.setCells g o (List.replicate m (.int .i64 0))) g n z ∧ ∀ j, j < o → z j = y j
  | 0, o, w, y, h => ⟨y, h, fun _ _ => rfl⟩
  | m + 1, o, w, y, h => by
    obtain ⟨z, hz, e⟩ := Cells.fill m (o + 1) (h.set o 0)
    exact ⟨z, hz, fun j hj => (e j (by omega)).trans (if_neg (by omega))⟩
theorem Keeps.fill {S : Nat → Prop} {g : Nat} (hg : S g) {w : World} : ∀ (m o : Nat) {w' : World}, Keeps S w w' → Keeps S w (w'.setCells g o (List.replicate m (.int .i64 0)))
  | 0, o, w', h => h
  | m + 1, o, w', h => Keeps.fill hg m (o + 1) (h.set (p := ⟨g, o, none⟩) hg _)

/-- Of the first m places' numbers those that stay lie ahead; behind them all is as it was. -/
structure Moved (x y : Nat → Int) (n m k : Nat) : Prop where
  len : (dd x m).length = k
  lt : k < m
  low : ∀ j, j < k → y j = (dd x m).getD j 0
  high : ∀ j, k ≤ j → j < n → y j = x j
theorem Moved.old {x y : Nat → Int} {n m k : Nat} (h : Moved x y n m k) (hm : 0 < m) (e : x m = x (m - 1)) : Moved x y n (m + 1) k := by
  obtain ⟨h1, h2, h3, h4⟩ := h
  exact ⟨by rw [dd_old hm e]; exact h1, by omega, by rw [dd_old hm e]; exact h3, h4⟩
theorem Moved.new {x y : Nat → Int} {n m k : Nat} (h : Moved x y n m k) (e : x m ≠ x (m - 1)) : Moved x (fun j => if j = k then x m else y j) n (m + 1) (k + 1) := by
  obtain ⟨h1, h2, h3, h4⟩ := h
  refine ⟨by rw [dd_new (.inr e)]; simp [h1], by omega, fun j hj => ?_, fun j h5 h6 => ?_⟩
  · rw [dd_new (.inr e)]
    by_cases e2 : j = k
    · rw [if_pos e2, e2]
      simp [List.getD, ← h1]
    · rw [if_neg e2, h3 j (by omega)]
      simp [List.getD, List.getElem?_append_left (show j < (dd x m).length by omega)]
  · rw [if_neg (by omega)]
    exact h4 j (by omega) h6

/-- What Compact leaves. -/
def Compacted (g n : Nat) (x : Nat → Int) (w : World) (e : Ending) (w' : World) : Prop :=
  e = .returned (.slice (some ⟨g, 0, none⟩) (dd x n).length n) ∧ ∃ y, Cells w' g n y ∧ (∀ j, j < (dd x n).length → y j = (dd x n).getD j 0) ∧ Keeps (· = g) w w'
theorem Compacted.same {g n : Nat} {x : Nat → Int} {w w' : World} (h : ∀ j, 0 < j → j < n → x j ≠ x (j - 1)) (hX : Cells w' g n x) (hK : Keeps (· = g) w w') : Compacted g n x w (.returned (.slice (some ⟨g, 0, none⟩) n n)) w' := by
  obtain ⟨h1, h2⟩ := dd_all h
  exact ⟨by rw [h1], x, hX, by rw [h1]; exact h2, hK⟩

set_option maxRecDepth 100000 in
set_option maxHeartbeats 4000000 in
theorem compact_any (g n : Nat) (x : Nat → Int) (w : World) (hX : Cells w g n x) (hn : n ≤ 12) :
    Calls Tryz.prog 233 #[.slice (some ⟨g, 0, none⟩) n n] w (Compacted g n x w) := by
  have HX := Lib.hid hX
  clear hX
  go_enter Tryz.func233, Tryz.ntmps233
  by_cases h2 : n < 2
  · go_wp2
    go_ret
    exact Compacted.same (fun j h0 hj => by omega) HX.out (Keeps.refl _ _)
  · go_wp2
    go_loopw [3] (fun v wr => ∃ k : Nat, v = .int .i64 k ∧ 1 ≤ k ∧ k ≤ n ∧ (∀ j, 0 < j → j < k → x j ≠ x (j - 1)) ∧ Cells wr g n x ∧ Keeps (· = g) w wr) (fun v _ => n - (intOf v).toNat)
    case atStart => exact ⟨1, rfl, Nat.le_refl _, by omega, fun j h0 hj => by omega, HX.out, Keeps.refl _ _⟩
    case round =>
      clear HX
      obtain ⟨k, rfl, hk1, hk, hall, hX, hK⟩ := hrel
      have HA := Lib.hid hall
      have HX := Lib.hid hX
      have HK := Lib.hid hK
      clear hall hK
      by_cases hlt : k < n
      · obtain ⟨c1, f1⟩ := hX.at_ hlt
        obtain ⟨c0, f0⟩ := hX.at_ (j := k - 1) (by omega)
        clear hX
        generalize hp : x k = p at c1
        generalize hr : x (k - 1) = r at c0
        have HP := Lib.hid hp
        have HR := Lib.hid hr
        clear hp hr
        by_cases hdup : p = r
        · subst hdup
          go_wp2_with fail
          go_region
          go_wp2
          clear c0 c1 f0 f1
          have M0 : Moved x x n (k + 1) k := by
            obtain ⟨h1, h3⟩ := dd_all HA.out
            have e : x k = x (k - 1) := by rw [HP.out, HR.out]
            exact ⟨by rw [dd_old (by omega) e]; exact h1, by omega, by rw [dd_old (by omega) e]; exact h3, fun _ _ _ => rfl⟩
          have HM0 := Lib.hid M0
          clear M0
          go_loopw [3, 5] (fun v3 v5 wr2 => ∃ kk k2 : Nat, v3 = .int .i64 kk ∧ v5 = .int .i64 k2 ∧ 1 ≤ k2 ∧ k + k2 ≤ n ∧ ∃ y, Moved x y n (k + k2) kk ∧ Cells wr2 g n y ∧ Keeps (· = g) w wr2) (fun _ v5 _ => n - (intOf v5).toNat)
          case atStart => exact ⟨k, 1, rfl, rfl, Nat.le_refl _, by omega, x, HM0.out, HX.out.drewN _, HK.out.drewN _⟩
          case round =>
            clear HX HK HM0
            obtain ⟨kk, k2, rfl, rfl, h1, hle, y, hM, hY, hK⟩ := hrel
            have hkk := hM.lt
            have HM := Lib.hid hM
            have HY := Lib.hid hY
            have HK := Lib.hid hK
            clear hK
            by_cases hlt2 : k + k2 < n
            · obtain ⟨cm, _⟩ := hY.at_ (j := k + k2) (by omega)
              obtain ⟨cp, _⟩ := hY.at_ (j := k + (k2 - 1)) (by omega)
              obtain ⟨ck, fk⟩ := hY.at_ (j := kk) (by omega)
              rw [hM.high (k + k2) (by omega) (by omega)] at cm
              rw [hM.high (k + (k2 - 1)) (by omega) (by omega)] at cp
              clear hY hM
              generalize hu : x (k + k2) = u at cm
              generalize hv : x (k + (k2 - 1)) = v at cp
              generalize y kk = old at ck
              have HU := Lib.hid hu
              have HV := Lib.hid (show x (k + k2 - 1) = v by rw [← hv]; congr 1; omega)
              clear hu hv
              by_cases huv : u = v
              · subst huv
                go_wp2_with fail
                go_region
                go_wp2
                go_roundw
                case measure => simp [intOf]; omega
                case rel => exact ⟨kk, k2 + 1, by first | rfl | trivial, by go_num, by omega, by omega, y, HM.out.old (by omega) (by rw [HU.out, HV.out]), HY.out.drewN _, HK.out.drewN _⟩
              · go_wp2_with fail
                go_region
                go_wp2
                go_roundw
                case measure => simp [intOf]; omega
                case rel =>
                  refine ⟨kk + 1, k2 + 1, by go_num, by go_num, by omega, by omega, _, HM.out.new (by rw [HU.out, HV.out]; exact huv), ?_, ?_⟩
                  · rw [HU.out]
                    first
                      | exact ((HY.out.set kk u).drewN 1)
                      | exact (HY.out.drewN _).set kk u
                  · first
                      | exact ((HK.out.set (p := ⟨g, kk, none⟩) rfl _).drewN 1)
                      | exact (HK.out.drewN _).set (p := ⟨g, kk, none⟩) rfl _
            · have hend : k + k2 = n := by omega
              have hcl : ∀ ty, (Builtin.clear_ #[23] ty #[.slice (some ⟨g, kk, none⟩) (n - kk) (n - kk)]).run Tryz.prog wr = .ok (.tuple #[]) (wr.setCells g kk (List.replicate (n - kk) (.int .i64 0))) :=
                fun ty => Lib.run_clear_slice wr _ _ ty _ Tryz.underlying23 (fun w => by simp [go_sem]) rfl rfl g kk _ _ (by omega) (fun j hj => by rw [(hY.at_ (j := kk + j) (by omega)).1]; rfl) (fun j hj => (hY.at_ (j := kk + j) (by omega)).2)
              clear hY hM
              go_wp2
              go_ret
              obtain ⟨z, hz, ez⟩ := Cells.fill (n - kk) kk HY.out
              have hl := HM.out.len
              have hlow := HM.out.low
              rw [hend] at hl hlow
              exact ⟨by rw [hl]; rfl, z, hz, by rw [hl]; exact fun j hj => (ez j hj).trans (hlow j hj), Keeps.fill (S := (· = g)) rfl _ _ HK.out⟩
        · go_wp2_with fail
          go_region
          go_wp2
          go_roundw
          case measure => simp [intOf]; omega
          case rel =>
            refine ⟨k + 1, by go_num, by omega, by omega, fun j h0 hj => ?_, HX.out.drewN _, HK.out.drewN _⟩
            by_cases e : j = k
            · rw [e, HP.out, HR.out]; exact hdup
            · exact HA.out j h0 (by omega)
      · obtain rfl : k = n := by omega
        clear hX
        go_wp2
        go_ret
        exact Compacted.same HA.out HX.out HK.out
end Go.Proofs.YtdphpjnecjofeaaGreatDoor
