/-
  A list's elements appended where the list is only read; the model's copies of lists and of a state.
-/
import Derived.Test.YtmcafdhffkhcgaaGreatMZ1
import Derived.Test.YtmcafdhffkhcgaaGreatMZ0
import Derived.BigQuiet
import Derived.Deep.QuietTactic
import Derived.StillTailTactics
import Derived.Deep.RegionHeld3
import Derived.Laws.AppendOwnNone
import Derived.Deep.AppendLies
import Derived.OwnWalk
/- Rb -/
set_option linter.unusedVariables false
namespace Go.Proofs.YtmcafdhffkhcgaaGreat
open Go.RowKit

def sumN (b : List Nat) : Nat := b.foldl (fun n x => (31 * n + x) % 65521) 7
theorem sumN_lt (b : List Nat) : sumN b < 65521 := by
  have : ∀ (b : List Nat) (a : Nat), a < 65521 → b.foldl (fun n x => (31 * n + x) % 65521) a < 65521 := fun b => by
    induction b with
    | nil => exact fun a h => h
    | cons x b ih => exact fun a _ => ih _ (Nat.mod_lt _ (by omega))
  exact this b 7 (by omega)
def twoN (n : Nat) : List Nat := [n % 256, n / 256]
def frameN (b : List Nat) : List Nat := twoN b.length ++ (twoN (sumN b) ++ b)
theorem frameN_length (b : List Nat) : (frameN b).length = 4 + b.length := by simp [frameN, twoN]; omega
end Go.Proofs.YtmcafdhffkhcgaaGreat
/- Rc -/
set_option linter.unusedVariables false
namespace Go.Proofs.YtmcafdhffkhcgaaGreat
open Go.RowKit

end Go.Proofs.YtmcafdhffkhcgaaGreat
/- Ta -/
set_option linter.unusedVariables false
namespace Go.Proofs.YtmcafdhffkhcgaaGreat
open Go.RowKit

structure StD where
  ph : Int
  co : Bool
  ck : Int
  bo : Int
  ba : Int
  lb : Int
  pods : List (Int × Int)
  mnts : List (Bool × Int)
  devs : List Bool
  lks : List Int
  gd : Int
  pr : Int
deriving DecidableEq

def zeroS : StD := ⟨0, false, 0, 0, 0, 0, [], [], [], [], 0, 0⟩

/-- A state is right. -/
structure StOk (d : PlanD) (s : StD) : Prop where
  plan : planOkB d = true
  ph : 0 ≤ s.ph ∧ s.ph ≤ 8
  co : s.co = decide (s.ph ≠ 0)
  ck : 0 ≤ s.ck ∧ s.ck ≤ 1000000
  bo : 0 ≤ s.bo ∧ s.bo ≤ 1000000
  ba : 0 ≤ s.ba ∧ s.ba ≤ 6
  lb : 0 ≤ s.lb ∧ s.lb ≤ 1000000
  gd : 0 ≤ s.gd ∧ s.gd ≤ s.pr
  pr : s.pr ≤ d.t
  np : s.pods.length = d.n0
  nm : s.mnts.length = d.n2
  nd : s.devs.length = d.n3
  pods : ∀ q ∈ s.pods, (0 ≤ q.1 ∧ q.1 ≤ 6) ∧ (0 ≤ q.2 ∧ q.2 ≤ 1000000)
  mnts : ∀ q ∈ s.mnts, (0 ≤ q.2 ∧ q.2 ≤ 5) ∧ (q.1 = false → q.2 = 0)
  lks : ∀ x ∈ s.lks, 0 ≤ x ∧ x ≤ 7
  rise : s.lks.Pairwise (· < ·)

def stOkB (d : PlanD) (s : StD) : Bool :=
  planOkB d && inB s.ph 0 8 && (s.co == decide (s.ph ≠ 0)) && inB s.ck 0 1000000 && inB s.bo 0 1000000 && inB s.ba 0 6 && inB s.lb 0 1000000 && inB s.gd 0 s.pr && decide (s.pr ≤ d.t) &&
  decide (s.pods.length = d.n0) && decide (s.mnts.length = d.n2) && decide (s.devs.length = d.n3) &&
  s.pods.all (fun q => inB q.1 0 6 && inB q.2 0 1000000) && s.mnts.all (fun q => inB q.2 0 5 && (q.1 || q.2 == 0)) && s.lks.all (fun x => inB x 0 7) && decide (s.lks.Pairwise (· < ·))
theorem stOkB_iff {d : PlanD} {s : StD} : stOkB d s = true ↔ StOk d s := by
  simp only [stOkB, Bool.and_eq_true, inB_true, beq_iff_eq, decide_eq_true_eq, List.all_eq_true, Bool.or_eq_true]
  constructor
  · rintro ⟨⟨⟨⟨⟨⟨⟨⟨⟨⟨⟨⟨⟨⟨⟨h1, h2⟩, h3⟩, h4⟩, h5⟩, h6⟩, h7⟩, h8⟩, h9⟩, h10⟩, h11⟩, h12⟩, h13⟩, h14⟩, h15⟩, h16⟩
    exact ⟨h1, h2, h3, h4, h5, h6, h7, h8, h9, h10, h11, h12, h13, fun q hq => ⟨(h14 q hq).1, fun hf => ((h14 q hq).2.resolve_left (by rw [hf]; decide))⟩, h15, h16⟩
  · rintro ⟨h1, h2, h3, h4, h5, h6, h7, h8, h9, h10, h11, h12, h13, h14, h15, h16⟩
    refine ⟨⟨⟨⟨⟨⟨⟨⟨⟨⟨⟨⟨⟨⟨⟨h1, h2⟩, h3⟩, h4⟩, h5⟩, h6⟩, h7⟩, h8⟩, h9⟩, h10⟩, h11⟩, h12⟩, h13⟩, fun q hq => ⟨(h14 q hq).1, ?_⟩⟩, h15⟩, h16⟩
    cases hb : q.1
    · exact .inr ((h14 q hq).2 hb)
    · exact .inl rfl

/-- Chapter 5's new state. -/
def newS (d : PlanD) : StD := if planOkB d then { zeroS with pods := List.replicate d.n0 (0, 0), mnts := List.replicate d.n2 (true, 0), devs := List.replicate d.n3 true } else zeroS
theorem planOk_tries {d : PlanD} (h : planOkB d = true) : 1 ≤ d.p ∧ d.p ≤ 9 ∧ d.p ≤ d.t ∧ d.t ≤ 30 := by
  simp only [planOkB, timesB, sizesB, Bool.and_eq_true, inB_true, decide_eq_true_eq] at h
  obtain ⟨⟨⟨⟨⟨h1, h2⟩, -⟩, -⟩, -⟩, -⟩ := h
  omega
theorem newS_ok {d : PlanD} (h : planOkB d = true) : StOk d (newS d) := by
  have := planOk_tries h
  unfold newS
  rw [if_pos h]
  refine ⟨h, ?_, rfl, ?_, ?_, ?_, ?_, ?_, ?_, ?_, ?_, ?_, ?_, ?_, ?_, ?_⟩ <;> simp [zeroS]
  omega

def aliveB (x : Int) : Bool := inB x 0 3
/-- A list that rises, with a number, and without it. -/
def withN (n : Int) : List Int → List Int
  | [] => [n]
  | x :: l => if n < x then n :: x :: l else if n = x then x :: l else x :: withN n l
def withoutN (l : List Int) (n : Int) : List Int := l.filter (fun x => x != n)
/-- What one record makes of a state. -/
def applyR (s : StD) (r : RecD) : StD :=
  if r.k = 1 then (if r.a = 0 then { s with ph := 0, co := false, gd := 0, pr := 0, lks := [] } else { s with ph := r.a, co := true })
  else if r.k = 2 then { s with pods := s.pods.set r.a.toNat (r.b, s.ck) }
  else if r.k = 3 then { s with mnts := s.mnts.set r.a.toNat ((s.mnts.getD r.a.toNat (false, 0)).1, r.b) }
  else if r.k = 4 then { s with mnts := s.mnts.set r.a.toNat (false, 0) }
  else if r.k = 5 then { s with devs := s.devs.set r.a.toNat false }
  else if r.k = 6 then { s with lks := withN r.a s.lks }
  else if r.k = 7 then { s with lks := withoutN s.lks r.a }
  else if r.k = 8 then { s with ck := r.a }
  else if r.k = 9 then { s with ba := r.a }
  else if r.k = 10 then { s with bo := r.a }
  else if r.k = 11 then { s with lb := r.a }
  else if r.k = 12 then { s with gd := r.a, pr := r.b }
  else s
/-- Is there what a record names? -/
def thereB (s : StD) (r : RecD) : Bool :=
  if r.k = 2 then decide (r.a < s.pods.length) else if r.k = 3 ∨ r.k = 4 then decide (r.a < s.mnts.length) else if r.k = 5 then decide (r.a < s.devs.length) else true

/-- Chapter 6: one record; all of them. -/
def goodR (d : PlanD) (s : StD) (r : RecD) : Bool := recOkB r && thereB s r && stOkB d (applyR s r)
def runR (d : PlanD) : StD → List RecD → Option StD
  | s, [] => some s
  | s, r :: l => if goodR d s r then runR d (applyR s r) l else none
theorem runR_append {d : PlanD} {l m : List RecD} {s : StD} : runR d s (l ++ m) = (runR d s l).bind (fun x => runR d x m) := by
  induction l generalizing s with
  | nil => rfl
  | cons r l ih =>
    simp only [List.cons_append, runR]
    split
    · exact ih
    · rfl
theorem runR_ok {d : PlanD} {l : List RecD} {s x : StD} (h : StOk d s) (hr : runR d s l = some x) : StOk d x := by
  induction l generalizing s with
  | nil => cases hr; exact h
  | cons r l ih =>
    simp only [runR] at hr
    split at hr
    · rename_i hg
      simp only [goodR, Bool.and_eq_true] at hg
      exact ih (stOkB_iff.1 hg.2) hr
    · cases hr

theorem set_all {α : Type} {l : List α} {i : Nat} {x : α} {p : α → Prop} (h : ∀ q ∈ l, p q) (hx : p x) : ∀ q ∈ l.set i x, p q := fun q hq => by
  rcases List.mem_or_eq_of_mem_set hq with h1 | h1
  · exact h q h1
  · subst h1; exact hx

section
variable {d : PlanD} {s : StD} (h : StOk d s)
include h
theorem ok_free {i b : Int} : StOk d (applyR s ⟨4, i, b⟩) := by
  obtain ⟨h1, h2, h3, h4, h5, h6, h7, h8, h9, h10, h11, h12, h13, h14, h15, h16⟩ := h
  exact ⟨h1, h2, h3, h4, h5, h6, h7, h8, h9, h10, by simpa [applyR] using h11, h12, h13, set_all h14 ⟨⟨Int.le_refl _, by decide⟩, fun _ => rfl⟩, h15, h16⟩
end

/-- Chapter 7. -/
def podStep (hook grace : Int) (q : Int × Int) (clock : Int) : Int :=
  if q.1 = 0 then (if 0 < hook then 1 else 2) else if q.1 = 1 then (if hook ≤ clock - q.2 then 2 else 1) else if q.1 = 2 then (if grace ≤ clock - q.2 then 3 else 2) else if q.1 = 3 then 4 else q.1
def afterHook (x : Int) : Int := if x = 1 then 2 else -1
def afterExit (x : Int) : Int := if x = 0 ∨ x = 1 then 5 else if x = 2 ∨ x = 3 then 4 else -1
end Go.Proofs.YtmcafdhffkhcgaaGreat
/- Tb -/
set_option linter.unusedVariables false
namespace Go.Proofs.YtmcafdhffkhcgaaGreat
open Go.RowKit

/-- Of each index below n for which g tells something, in order, what r makes of it. -/
def recsOf {α : Type} (n : Nat) (g : Nat → Option α) (r : Nat → α → RecD) : List RecD := (List.range n).filterMap fun i => (g i).map (r i)
theorem recsOf_zero {α : Type} (g : Nat → Option α) (r : Nat → α → RecD) : recsOf 0 g r = [] := rfl
theorem recsOf_none {α : Type} {n : Nat} {g : Nat → Option α} {r : Nat → α → RecD} (h : g n = none) : recsOf (n + 1) g r = recsOf n g r := by
  simp [recsOf, List.range_succ, List.filterMap_append, h]
theorem recsOf_some {α : Type} {n : Nat} {g : Nat → Option α} {r : Nat → α → RecD} {x : α} (h : g n = some x) : recsOf (n + 1) g r = recsOf n g r ++ [r n x] := by
  simp [recsOf, List.range_succ, List.filterMap_append, h]
theorem recsOf_le {α : Type} (n : Nat) (g : Nat → Option α) (r : Nat → α → RecD) : (recsOf n g r).length ≤ n := by
  induction n with
  | zero => exact Nat.le_refl _
  | succ n ih =>
    cases h : g n
    · rw [recsOf_none h]; omega
    · rw [recsOf_some h, List.length_append]; simp; omega

/-- Mounts' records: busy ones less busy, others free. -/
def mntRec (i : Nat) (q : Bool × Int) : RecD := if q.1 then ⟨3, i, q.2⟩ else ⟨4, i, 0⟩
end Go.Proofs.YtmcafdhffkhcgaaGreat
/- Tc -/
set_option linter.unusedVariables false
namespace Go.Proofs.YtmcafdhffkhcgaaGreat
open Go.RowKit

def podAt (s : StD) (i : Nat) : Int × Int := s.pods.getD i (0, 0)
def mntAt (s : StD) (i : Nat) : Bool × Int := s.mnts.getD i (false, 0)
def devAt (s : StD) (i : Nat) : Bool := s.devs.getD i false
def bandOf (d : PlanD) (i : Nat) : Int := d.x0 (i * 4 + 1)
def graceOf (d : PlanD) (i : Nat) : Int := d.x0 (i * 4 + 2)
def hookOf (d : PlanD) (i : Nat) : Int := d.x0 (i * 4 + 3)
def mpod (d : PlanD) (i : Nat) : Nat := (d.x2 (i * 2)).toNat
def mpar (d : PlanD) (i : Nat) : Int := d.x2 (i * 2 + 1)
def dmnt (d : PlanD) (i : Nat) : Nat := (d.x3 i).toNat

def stepG (d : PlanD) (s : StD) (b c : Int) (i : Nat) : Option Int :=
  if bandOf d i = b ∧ aliveB (podAt s i).1 = true then (if podStep (hookOf d i) (graceOf d i) (podAt s i) c = (podAt s i).1 then none else some (podStep (hookOf d i) (graceOf d i) (podAt s i) c)) else none
def liveB (d : PlanD) (s : StD) (b : Int) : Bool := (List.range d.n0).any fun i => decide (bandOf d i = b) && aliveB (podAt s i).1
def nextB (d : PlanD) (b : Int) : Int := if nextL d b < 0 then 6 else nextL d b
def shutL (d : PlanD) (s : StD) (c : Int) : List RecD :=
  if s.lks ≠ [] ∧ c < s.lb then [] else if s.ba = 6 then [⟨1, 4, 0⟩] else if liveB d s s.ba then recsOf d.n0 (stepG d s s.ba c) (fun i x => ⟨2, i, x⟩) else [⟨9, nextB d s.ba, 0⟩]
def freeB (d : PlanD) (s : StD) (i : Nat) : Bool := (mntAt s i).1 && !aliveB (podAt s (mpod d i)).1 && (List.range d.n2).all fun j => !(decide (mpar d j = i) && (mntAt s j).1)
def giveB (d : PlanD) (s : StD) (i : Nat) : Bool := devAt s i && !(mntAt s (dmnt d i)).1
def freeG (d : PlanD) (s : StD) (i : Nat) : Option (Bool × Int) := if freeB d s i then some (if 0 < (mntAt s i).2 then (true, (mntAt s i).2 - 1) else (false, 0)) else none
def giveG (d : PlanD) (s : StD) (i : Nat) : Option Unit := if giveB d s i then some () else none
def heldB (s : StD) : Bool := s.mnts.any (fun q => q.1) || s.devs.any (fun x => x)
def releaseL (d : PlanD) (s : StD) : List RecD := if heldB s then recsOf d.n2 (freeG d s) mntRec ++ recsOf d.n3 (giveG d s) (fun i _ => ⟨5, i, 0⟩) else [⟨1, 5, 0⟩]
def tickL (d : PlanD) (s : StD) : List RecD := ⟨8, s.ck + 1, 0⟩ :: (if s.ph = 3 then shutL d s (s.ck + 1) else if s.ph = 4 then releaseL d s else [])

theorem podAt_ok {d : PlanD} {s : StD} (h : StOk d s) {i : Nat} (hi : i < d.n0) : (0 ≤ (podAt s i).1 ∧ (podAt s i).1 ≤ 6) ∧ (0 ≤ (podAt s i).2 ∧ (podAt s i).2 ≤ 1000000) := by
  have hl : i < s.pods.length := by rw [h.np]; exact hi
  have e : podAt s i = s.pods[i] := by simp [podAt, List.getD, hl]
  rw [e]
  exact h.pods _ (List.getElem_mem hl)
theorem mntAt_ok {d : PlanD} {s : StD} (h : StOk d s) {i : Nat} (hi : i < d.n2) : (0 ≤ (mntAt s i).2 ∧ (mntAt s i).2 ≤ 5) ∧ ((mntAt s i).1 = false → (mntAt s i).2 = 0) := by
  have hl : i < s.mnts.length := by rw [h.nm]; exact hi
  have e : mntAt s i = s.mnts[i] := by simp [mntAt, List.getD, hl]
  rw [e]
  exact h.mnts _ (List.getElem_mem hl)
/-- How many ticks of its own a pod needs at most. -/
def potP (hook grace : Int) (q : Int × Int) (ck : Int) : Int :=
  if q.1 = 0 then 2 + hook + max 1 grace else if q.1 = 1 then max 1 (q.2 + hook - ck) + max 1 grace + 1 else if q.1 = 2 then max 1 (q.2 + grace - ck) + 1 else if q.1 = 3 then 1 else 0
end Go.Proofs.YtmcafdhffkhcgaaGreat
/- Td -/
set_option linter.unusedVariables false
namespace Go.Proofs.YtmcafdhffkhcgaaGreat
open Go.RowKit

structure HoldsP (d : PlanD) (s : StD) : Prop where
  pod : ∀ i, i < d.n2 → (mntAt s i).1 = false → aliveB (podAt s (mpod d i)).1 = false
  par : ∀ i, i < d.n2 → 0 ≤ mpar d i → (mntAt s i).1 = true → (mntAt s (mpar d i).toNat).1 = true
  dev : ∀ i, i < d.n3 → devAt s i = false → (mntAt s (dmnt d i)).1 = false
structure Going (d : PlanD) (s : StD) : Prop where
  ok : StOk d s
  ph : 3 ≤ s.ph ∧ s.ph ≤ 5
  since : ∀ i, i < d.n0 → (podAt s i).2 ≤ s.ck
  later : s.ph = 3 → ∀ i, i < d.n0 → s.ba < bandOf d i → aliveB (podAt s i).1 = true → (podAt s i).1 = 0
  earlier : s.ph = 3 → ∀ i, i < d.n0 → bandOf d i < s.ba → aliveB (podAt s i).1 = false
  dead : 4 ≤ s.ph → ∀ i, i < d.n0 → aliveB (podAt s i).1 = false
  holds : HoldsP d s
  down : s.ph = 5 → heldB s = false
def over (d : PlanD) (b : Int) : Int := sumB 6 (fun k => if b < k then bandT d k else 0)
def mw (q : Bool × Int) : Int := if q.1 then q.2 + 1 else 0
def relW (d : PlanD) (s : StD) : Int := sumB d.n2 (fun i => mw (mntAt s i)) + sumB d.n3 (fun i => if devAt s i then 1 else 0)
structure Left (d : PlanD) (s : StD) (n : Int) : Prop where
  shut : s.ph = 3 → ∃ lw pw : Int, 0 ≤ lw ∧ 0 ≤ pw ∧ (s.lks = [] ∨ s.lb - 1 - s.ck ≤ lw) ∧ (∀ i, i < d.n0 → bandOf d i = s.ba → aliveB (podAt s i).1 = true → potP (hookOf d i) (graceOf d i) (podAt s i) s.ck ≤ pw) ∧
    lw + pw + (if s.ba = 6 then 0 else 1 + over d s.ba) + 6 * d.n2 + d.n3 + 2 ≤ n
  rel : s.ph = 4 → relW d s + 1 ≤ n
  done : s.ph = 5 → 0 ≤ n

theorem mount_facts {d : PlanD} (h : planOkB d = true) {i : Nat} (hi : i < d.n2) : mpod d i < d.n0 ∧ -1 ≤ mpar d i ∧ mpar d i < i := by
  simp only [planOkB, Bool.and_eq_true] at h
  have := allB_true.1 h.1.2 i hi
  simp only [mountB, Bool.and_eq_true, inB_true] at this
  unfold mpod mpar
  omega
theorem greatest {n : Nat} {p : Nat → Bool} (h : ∃ i, i < n ∧ p i = true) : ∃ i, i < n ∧ p i = true ∧ ∀ j, j < n → i < j → p j = false := by
  induction n with
  | zero => obtain ⟨i, hi, _⟩ := h; omega
  | succ n ih =>
    cases hp : p n
    · obtain ⟨i, hi, hpi⟩ := h
      have hne : i ≠ n := fun e => by rw [e, hp] at hpi; cases hpi
      obtain ⟨k, hk, hpk, hall⟩ := ih ⟨i, by omega, hpi⟩
      refine ⟨k, by omega, hpk, fun j hj hkj => ?_⟩
      by_cases e : j = n
      · rw [e]; exact hp
      · exact hall j (by omega) hkj
    · exact ⟨n, by omega, hp, fun j hj hlt => by omega⟩
end Go.Proofs.YtmcafdhffkhcgaaGreat
/- Te -/
set_option linter.unusedVariables false
namespace Go.Proofs.YtmcafdhffkhcgaaGreat
open Go.RowKit

section
variable {d : PlanD} {s : StD}
end

end Go.Proofs.YtmcafdhffkhcgaaGreat
/- Tf -/
set_option linter.unusedVariables false
namespace Go.Proofs.YtmcafdhffkhcgaaGreat
open Go.RowKit

/-- Ahead of the shutting: who is alive runs. -/
structure Before (d : PlanD) (s : StD) : Prop where
  ok : StOk d s
  since : ∀ i, i < d.n0 → (podAt s i).2 ≤ s.ck
  runs : ∀ i, i < d.n0 → aliveB (podAt s i).1 = true → (podAt s i).1 = 0
  holds : HoldsP d s
def shutS (d : PlanD) (s : StD) : StD := { s with lb := min (s.ck + d.l) 1000000, ba := nextB d (-1), ph := 3, co := true }
/-- A state in which one pod is in another state, since now. -/
def podS (s : StD) (i : Nat) (st : Int) : StD := { s with pods := s.pods.set i (st, s.ck) }
end Go.Proofs.YtmcafdhffkhcgaaGreat
/- Tg -/
set_option linter.unusedVariables false
namespace Go.Proofs.YtmcafdhffkhcgaaGreat
open Go.RowKit

/-- Chapter 8, of a right state. -/
def healthyN (d : PlanD) (s : StD) (g : Int) : Int := ((List.range d.n0).countP fun i => decide (d.x0 (i * 4) = g) && decide ((podAt s i).1 = 0) : Nat)
def mayEvictB (d : PlanD) (s : StD) (i : Int) : Bool :=
  decide (s.ph = 2) && inB i 0 (d.n0 - 1) && decide ((podAt s i.toNat).1 = 0) && decide (d.x1 (d.x0 (i.toNat * 4)).toNat < healthyN d s (d.x0 (i.toNat * 4)))

/-- Chapter 10, of a right state: the records and the code. -/
def noR (c : Int) : List RecD × Int := ([], c)
def oneR (k a b : Int) : List RecD × Int := ([⟨k, a, b⟩], 0)
def phaseD (s : StD) (f t : Int) : List RecD × Int := if s.ph = f then oneR 1 t 0 else noR 3
def evictD (d : PlanD) (s : StD) (a : Int) : List RecD × Int :=
  if inB a 0 (d.n0 - 1) = false then noR 2 else if s.ph ≠ 2 then noR 3 else if (podAt s a.toNat).1 ≠ 0 then noR 4 else if mayEvictB d s a = false then noR 5 else oneR 2 a 6
def shutD (d : PlanD) (s : StD) : List RecD × Int :=
  if s.ph = 1 ∨ s.ph = 2 then ([⟨11, min (s.ck + d.l) 1000000, 0⟩, ⟨9, nextB d (-1), 0⟩, ⟨1, 3, 0⟩], 0) else noR 3
def cancelD (s : StD) : List RecD × Int := if s.ph = 2 then oneR 1 0 0 else phaseD s 1 0
def lockD (s : StD) (a : Int) : List RecD × Int := if inB a 0 7 = false then noR 2 else if 3 ≤ s.ph then noR 3 else if s.lks.contains a then noR 4 else oneR 6 a 0
def unlockD (s : StD) (a : Int) : List RecD × Int := if inB a 0 7 = false then noR 2 else if s.lks.contains a = false then noR 4 else oneR 7 a 0
def toldD (d : PlanD) (s : StD) (f : Int → Int) (a : Int) : List RecD × Int := if inB a 0 (d.n0 - 1) = false then noR 2 else if f (podAt s a.toNat).1 < 0 then noR 4 else oneR 2 a (f (podAt s a.toNat).1)
def busyD (d : PlanD) (s : StD) (a b : Int) : List RecD × Int :=
  if inB a 0 (d.n2 - 1) = false then noR 2 else if inB b 1 5 = false then noR 1 else if 4 ≤ s.ph then noR 3 else if (mntAt s a.toNat).1 = false ∨ (mntAt s a.toNat).2 ≠ 0 then noR 4 else oneR 3 a b
def commandD (d : PlanD) (s : StD) (k a b : Int) : List RecD × Int :=
  if k = 1 then phaseD s 0 1 else if k = 2 then phaseD s 1 2 else if k = 3 then evictD d s a else if k = 4 then shutD d s else if k = 5 then cancelD s else if k = 6 then lockD s a else if k = 7 then unlockD s a
  else if k = 8 then toldD d s afterHook a else if k = 9 then toldD d s afterExit a else if k = 10 then busyD d s a b else noR 1

end Go.Proofs.YtmcafdhffkhcgaaGreat
/- Th -/
set_option linter.unusedVariables false
namespace Go.Proofs.YtmcafdhffkhcgaaGreat
open Go.RowKit

/-- Which command it was, and what came of it. -/
inductive Came (d : PlanD) (s : StD) : StD → Prop
  | cordon (h : s.ph = 0) : Came d s (applyR s ⟨1, 1, 0⟩)
  | drain (h : s.ph = 1) : Came d s (applyR s ⟨1, 2, 0⟩)
  | evict (i : Nat) (hi : i < d.n0) (h : s.ph = 2) (hr : (podAt s i).1 = 0) (hm : mayEvictB d s i = true) : Came d s (podS s i 6)
  | shut (h : s.ph = 1 ∨ s.ph = 2) : Came d s (shutS d s)
  | cancel (h : s.ph = 1 ∨ s.ph = 2) : Came d s (applyR s ⟨1, 0, 0⟩)
  | lock (a : Int) (h : s.ph < 3) : Came d s (applyR s ⟨6, a, 0⟩)
  | unlock (a : Int) : Came d s (applyR s ⟨7, a, 0⟩)
  | hook (i : Nat) (hi : i < d.n0) (h : (podAt s i).1 = 1) : Came d s (podS s i 2)
  | exit (i : Nat) (hi : i < d.n0) (st : Int) (h : (podAt s i).1 = 0 ∨ (podAt s i).1 = 1 ∨ (podAt s i).1 = 2 ∨ (podAt s i).1 = 3) (hs : st = 4 ∨ st = 5) : Came d s (podS s i st)
  | busy (i : Nat) (hi : i < d.n2) (b : Int) (hb : 1 ≤ b ∧ b ≤ 5) (h : s.ph < 4) (hh : (mntAt s i).1 = true) : Came d s (applyR s ⟨3, i, b⟩)
theorem index_nat {a : Int} {n : Nat} (h : ¬ inB a 0 (n - 1) = false) : ∃ i : Nat, a = i ∧ i < n := by
  have := inB_true.1 (Bool.of_not_eq_false h)
  exact ⟨a.toNat, by omega, by omega⟩
end Go.Proofs.YtmcafdhffkhcgaaGreat
/- Ti -/
set_option linter.unusedVariables false
namespace Go.Proofs.YtmcafdhffkhcgaaGreat
open Go.RowKit

def failG (s : StD) (i : Nat) : Option Int := if aliveB (podAt s i).1 then some 5 else none
def looseG (s : StD) (i : Nat) : Option (Bool × Int) := if (mntAt s i).1 then some (false, 0) else none
def emptyG (s : StD) (i : Nat) : Option Unit := if devAt s i then some () else none
def bootL (d : PlanD) (s : StD) (id : Int) : List RecD :=
  ⟨10, id, 0⟩ :: (recsOf d.n0 (failG s) (fun i x => ⟨2, i, x⟩) ++ (recsOf d.n2 (looseG s) mntRec ++ (recsOf d.n3 (emptyG s) (fun i _ => ⟨5, i, 0⟩) ++
    (s.lks.map (fun x => ⟨7, x, 0⟩) ++ ⟨12, 0, 0⟩ :: (if s.ph = 8 then [] else [⟨1, 6, 0⟩])))))
/-- A probe. -/
def probeN (s : StD) (good : Bool) : Int := if good then s.gd + 1 else 0
def probeL (d : PlanD) (s : StD) (good : Bool) : List RecD :=
  ⟨12, probeN s good, s.pr + 1⟩ :: (if d.p ≤ probeN s good then [⟨1, 0, 0⟩] else if d.t ≤ s.pr + 1 then [⟨1, 8, 0⟩] else if s.ph = 6 then [⟨1, 7, 0⟩] else [])
end Go.Proofs.YtmcafdhffkhcgaaGreat
/- Tm -/
set_option linter.unusedVariables false
namespace Go.Proofs.YtmcafdhffkhcgaaGreat
open Go.RowKit

theorem count_flip {P Q : Nat → Bool} {i : Nat} (hP : P i = true) (hQ : Q i = false) (h : ∀ j, j ≠ i → P j = Q j) : ∀ n, (List.range n).countP P = (List.range n).countP Q + if i < n then 1 else 0
  | 0 => by simp
  | n + 1 => by
    have ih := count_flip hP hQ h n
    have e1 : (List.range (n + 1)).countP P = (List.range n).countP P + if P n then 1 else 0 := by rw [List.range_succ, List.countP_append, List.countP_singleton]
    have e2 : (List.range (n + 1)).countP Q = (List.range n).countP Q + if Q n then 1 else 0 := by rw [List.range_succ, List.countP_append, List.countP_singleton]
    rw [e1, e2, ih]
    by_cases e : n = i
    · subst e
      have a1 : (if n < n then 1 else 0) = 0 := if_neg (by omega)
      have a2 : (if n < n + 1 then 1 else 0) = 1 := if_pos (by omega)
      rw [a1, a2, hP, hQ]
      simp
    · rw [h n e]
      have a3 : (if i < n + 1 then 1 else 0) = if i < n then 1 else 0 := by
        by_cases e2 : i < n
        · rw [if_pos e2, if_pos (by omega)]
        · rw [if_neg e2, if_neg (by omega)]
      rw [a3]
      omega
end Go.Proofs.YtmcafdhffkhcgaaGreat
/- Tn -/
set_option linter.unusedVariables false
namespace Go.Proofs.YtmcafdhffkhcgaaGreat
open Go.RowKit

/-- How many mounts are held. -/
def heldN (d : PlanD) (s : StD) : Nat := (List.range d.n2).countP fun i => (mntAt s i).1
/-- A mount given back. -/
def looseS (s : StD) (m : Nat) : StD := { s with mnts := s.mnts.set m (false, 0) }
theorem loose_ok {d : PlanD} {s : StD} (h : StOk d s) (m : Nat) : StOk d (looseS s m) := by
  have := ok_free h (i := m) (b := 0)
  simpa [looseS, applyR] using this
theorem mntAt_loose {d : PlanD} {s : StD} (h : StOk d s) {m i : Nat} (hm : m < d.n2) : mntAt (looseS s m) i = if i = m then (false, 0) else mntAt s i := by
  have hl : m < s.mnts.length := by rw [h.nm]; exact hm
  simp only [mntAt, looseS]
  by_cases e : i = m
  · subst e
    simp [List.getD, hl]
  · simp [List.getD, Ne.symm e, e]
theorem free_some {d : PlanD} {s : StD} (h : StOk d s) (hd : ∀ i, i < d.n0 → aliveB (podAt s i).1 = false) (hh : 0 < heldN d s) : ∃ i, i < d.n2 ∧ freeB d s i = true := by
  obtain ⟨i, hi, hp⟩ := List.countP_pos_iff.1 hh
  obtain ⟨i, hi, h1, hg⟩ := greatest (n := d.n2) (p := fun i => (mntAt s i).1) ⟨i, List.mem_range.1 hi, hp⟩
  refine ⟨i, hi, ?_⟩
  simp only [freeB, Bool.and_eq_true, h1, hd _ (mount_facts h.plan hi).1, List.all_eq_true, List.mem_range, Bool.not_false, true_and]
  intro j hj
  by_cases e : mpar d j = i
  · have := (mount_facts h.plan hj).2.2
    rw [hg j hj (by omega)]
    simp
  · simp [e]
theorem free_held {d : PlanD} {s : StD} {i : Nat} (h : freeB d s i = true) : (mntAt s i).1 = true ∧ ∀ j, j < d.n2 → mpar d j = i → (mntAt s j).1 = false := by
  simp only [freeB, Bool.and_eq_true, List.all_eq_true, List.mem_range] at h
  refine ⟨h.1.1, fun j hj e => ?_⟩
  have := h.2 j hj
  simpa [e] using this
theorem held_less {d : PlanD} {s : StD} {m : Nat} (h : StOk d s) (hm : m < d.n2) (hf : (mntAt s m).1 = true) : heldN d s = heldN d (looseS s m) + 1 := by
  have := count_flip (P := fun i => (mntAt s i).1) (Q := fun i => (mntAt (looseS s m) i).1) (i := m) hf (by rw [mntAt_loose h hm, if_pos rfl]) (fun j hj => by rw [mntAt_loose h hm, if_neg hj]) d.n2
  rw [if_pos hm] at this
  exact this
theorem held_none {d : PlanD} {s : StD} (h : heldN d s = 0) {i : Nat} (hi : i < d.n2) : (mntAt s i).1 = false := by
  have := List.countP_eq_zero.1 h i (List.mem_range.2 hi)
  simpa using this
theorem held_new {d : PlanD} {s : StD} (h : ∀ i, i < d.n2 → (mntAt s i).1 = true) : heldN d s = d.n2 := by
  unfold heldN
  rw [List.countP_eq_length.2 fun i hi => h i (List.mem_range.1 hi), List.length_range]
end Go.Proofs.YtmcafdhffkhcgaaGreat
/- Ua -/
set_option linter.unusedVariables false
namespace Go.Proofs.YtmcafdhffkhcgaaGreat
open Go.RowKit

def podCs : List (Int × Int) → List Value
  | [] => []
  | q :: l => .int .i64 q.1 :: .int .i64 q.2 :: podCs l
def mntCs : List (Bool × Int) → List Value
  | [] => []
  | q :: l => .bool q.1 :: .int .i64 q.2 :: mntCs l
def devCs (l : List Bool) : List Value := l.map Value.bool
def lkCs (l : List Int) : List Value := l.map (Value.int .i64)
theorem podCs_len (l : List (Int × Int)) : (podCs l).length = l.length * 2 := by
  induction l with
  | nil => rfl
  | cons q l ih => simp only [podCs, List.length_cons, ih]; omega
theorem mntCs_len (l : List (Bool × Int)) : (mntCs l).length = l.length * 2 := by
  induction l with
  | nil => rfl
  | cons q l ih => simp only [mntCs, List.length_cons, ih]; omega
theorem devCs_len (l : List Bool) : (devCs l).length = l.length * 1 := by simp [devCs]
theorem lkCs_len (l : List Int) : (lkCs l).length = l.length * 1 := by simp [lkCs]
def podA (l : List (Int × Int)) (i : Nat) : Int × Int := l.getD i (0, 0)
def mntA (l : List (Bool × Int)) (i : Nat) : Bool × Int := l.getD i (false, 0)
def devA (l : List Bool) (i : Nat) : Bool := l.getD i false
def lkA (l : List Int) (i : Nat) : Int := l.getD i 0
theorem podCs_at (l : List (Int × Int)) {i : Nat} (hi : i < l.length) : (podCs l)[i * 2]? = some (.int .i64 (podA l i).1) ∧ (podCs l)[i * 2 + 1]? = some (.int .i64 (podA l i).2) := by
  induction l generalizing i with
  | nil => exact absurd hi (Nat.not_lt_zero _)
  | cons q l ih =>
    cases i with
    | zero => exact ⟨rfl, rfl⟩
    | succ i =>
      have := ih (i := i) (by simpa using hi)
      rw [show (i + 1) * 2 = i * 2 + 1 + 1 by omega]
      simpa [podCs, podA] using this
theorem mntCs_at (l : List (Bool × Int)) {i : Nat} (hi : i < l.length) : (mntCs l)[i * 2]? = some (.bool (mntA l i).1) ∧ (mntCs l)[i * 2 + 1]? = some (.int .i64 (mntA l i).2) := by
  induction l generalizing i with
  | nil => exact absurd hi (Nat.not_lt_zero _)
  | cons q l ih =>
    cases i with
    | zero => exact ⟨rfl, rfl⟩
    | succ i =>
      have := ih (i := i) (by simpa using hi)
      rw [show (i + 1) * 2 = i * 2 + 1 + 1 by omega]
      simpa [mntCs, mntA] using this
theorem devCs_at (l : List Bool) {i : Nat} (hi : i < l.length) : (devCs l)[i]? = some (.bool (devA l i)) := by simp [devCs, devA, List.getD, hi]
theorem lkCs_at (l : List Int) {i : Nat} (hi : i < l.length) : (lkCs l)[i]? = some (.int .i64 (lkA l i)) := by simp [lkCs, lkA, List.getD, hi]
theorem podCs_set (l : List (Int × Int)) {i : Nat} (hi : i < l.length) (q : Int × Int) : podCs (l.set i q) = ((podCs l).set (i * 2) (.int .i64 q.1)).set (i * 2 + 1) (.int .i64 q.2) := by
  induction l generalizing i with
  | nil => exact absurd hi (Nat.not_lt_zero _)
  | cons r l ih =>
    cases i with
    | zero => rfl
    | succ i =>
      rw [show (i + 1) * 2 = i * 2 + 1 + 1 by omega]
      simp only [List.set_cons_succ, podCs]
      rw [ih (by simpa using hi)]
theorem mntCs_set (l : List (Bool × Int)) {i : Nat} (hi : i < l.length) (q : Bool × Int) : mntCs (l.set i q) = ((mntCs l).set (i * 2) (.bool q.1)).set (i * 2 + 1) (.int .i64 q.2) := by
  induction l generalizing i with
  | nil => exact absurd hi (Nat.not_lt_zero _)
  | cons r l ih =>
    cases i with
    | zero => rfl
    | succ i =>
      rw [show (i + 1) * 2 = i * 2 + 1 + 1 by omega]
      simp only [List.set_cons_succ, mntCs]
      rw [ih (by simpa using hi)]
theorem devCs_set (l : List Bool) (i : Nat) (q : Bool) : devCs (l.set i q) = (devCs l).set i (.bool q) := by unfold devCs; rw [List.map_set]

/-- The cells of a state. -/
abbrev stC (A0 A1 A2 A3 : Option Addr) (n0 c0 n1 c1 n2 c2 n3 c3 : Nat) (ph : Int) (co : Bool) (ck bo ba lb gd pr : Int) : Array Value :=
  #[.int .i64 ph, .bool co, .int .i64 ck, .int .i64 bo, .int .i64 ba, .int .i64 lb, .slice A0 n0 c0, .slice A1 n1 c1, .slice A2 n2 c2, .slice A3 n3 c3, .int .i64 gd, .int .i64 pr]
/-- A state that can be read below block B. -/
structure IsSt (w : World) (B : Nat) (v : Value) (s : StD) : Prop where
  it : ∃ A0 A1 A2 A3 c0 c1 c2 c3, v = .agg (stC A0 A1 A2 A3 s.pods.length c0 s.mnts.length c1 s.devs.length c2 s.lks.length c3 s.ph s.co s.ck s.bo s.ba s.lb s.gd s.pr) ∧
    SlV w B 2 A0 s.pods.length (podCs s.pods) ∧ SlV w B 2 A1 s.mnts.length (mntCs s.mnts) ∧ SlV w B 1 A2 s.devs.length (devCs s.devs) ∧ SlV w B 1 A3 s.lks.length (lkCs s.lks)
  b0 : s.pods.length ≤ maxLen
  b1 : s.mnts.length ≤ maxLen
  b2 : s.devs.length ≤ maxLen
  b3 : s.lks.length ≤ maxLen
theorem IsSt.below {w w' : World} {B B' : Nat} {v : Value} {s : StD} (h : IsSt w B v s) (hb : Below B' w w') (hB : B ≤ B') : IsSt w' B v s := by
  obtain ⟨⟨A0, A1, A2, A3, c0, c1, c2, c3, hv, h0, h1, h2, h3⟩, b0, b1, b2, b3⟩ := h
  exact ⟨⟨A0, A1, A2, A3, c0, c1, c2, c3, hv, h0.below hb hB, h1.below hb hB, h2.below hb hB, h3.below hb hB⟩, b0, b1, b2, b3⟩
theorem IsSt.more {w : World} {B B' : Nat} {v : Value} {s : StD} (h : IsSt w B v s) (hB : B ≤ B') : IsSt w B' v s := by
  obtain ⟨⟨A0, A1, A2, A3, c0, c1, c2, c3, hv, h0, h1, h2, h3⟩, b0, b1, b2, b3⟩ := h
  exact ⟨⟨A0, A1, A2, A3, c0, c1, c2, c3, hv, h0.more hB, h1.more hB, h2.more hB, h3.more hB⟩, b0, b1, b2, b3⟩
theorem IsSt.go {w w' : World} {v : Value} {s : StD} (h : IsSt w w.heap.size v s) (hb : Below w.heap.size w w') : IsSt w' w'.heap.size v s := (h.below hb (Nat.le_refl _)).more hb.size
/-- A state of the call's own: each list in a block of its own, from block B on. -/
structure OwnSt (w : World) (B : Nat) (v : Value) (s : StD) : Prop where
  it : ∃ v0 v1 v2 v3, v = .agg #[.int .i64 s.ph, .bool s.co, .int .i64 s.ck, .int .i64 s.bo, .int .i64 s.ba, .int .i64 s.lb, v0, v1, v2, v3, .int .i64 s.gd, .int .i64 s.pr] ∧
    w.ownsRow B 41 2 v0 s.pods.length (podCs s.pods) ∧ w.ownsRow B 45 2 v1 s.mnts.length (mntCs s.mnts) ∧
    w.ownsRow B 4 1 v2 s.devs.length (devCs s.devs) ∧ w.ownsRow B 2 1 v3 s.lks.length (lkCs s.lks)
theorem OwnSt.below {w w' : World} {B : Nat} {v : Value} {s : StD} (h : OwnSt w B v s) (hb : Below w.heap.size w w') : OwnSt w' B v s := by
  obtain ⟨v0, v1, v2, v3, hv, h0, h1, h2, h3⟩ := h.it
  exact ⟨v0, v1, v2, v3, hv, ownsRow_below h0 hb, ownsRow_below h1 hb, ownsRow_below h2 hb, ownsRow_below h3 hb⟩
theorem OwnSt.base {w : World} {B B' : Nat} {v : Value} {s : StD} (h : OwnSt w B v s) (hB : B' ≤ B) : OwnSt w B' v s := by
  obtain ⟨v0, v1, v2, v3, hv, h0, h1, h2, h3⟩ := h.it
  exact ⟨v0, v1, v2, v3, hv, ownsRow_base h0 hB, ownsRow_base h1 hB, ownsRow_base h2 hB, ownsRow_base h3 hB⟩
theorem OwnSt.st {w : World} {B : Nat} {v : Value} {s : StD} (h : OwnSt w B v s) : IsSt w w.heap.size v s := by
  obtain ⟨v0, v1, v2, v3, rfl, h0, h1, h2, h3⟩ := h.it
  obtain ⟨A0, c0, g0, rfl, -, -, -, -, -, s0, b0⟩ := open_row h0
  obtain ⟨A1, c1, g1, rfl, -, -, -, -, -, s1, b1⟩ := open_row h1
  obtain ⟨A2, c2, g2, rfl, -, -, -, -, -, s2, b2⟩ := open_row h2
  obtain ⟨A3, c3, g3, rfl, -, -, -, -, -, s3, b3⟩ := open_row h3
  exact ⟨⟨A0, A1, A2, A3, c0, c1, c2, c3, rfl, s0, s1, s2, s3⟩, b0, b1, b2, b3⟩
theorem OwnSt.zero (w : World) (B : Nat) : OwnSt w B (.agg (stC none none none none 0 0 0 0 0 0 0 0 0 false 0 0 0 0 0 0)) zeroS :=
  ⟨_, _, _, _, rfl, World.ownsRow_nil _ _ _ _, World.ownsRow_nil _ _ _ _, World.ownsRow_nil _ _ _ _, World.ownsRow_nil _ _ _ _⟩
end Go.Proofs.YtmcafdhffkhcgaaGreat
/- Ub -/
set_option linter.unusedVariables false
namespace Go.Proofs.YtmcafdhffkhcgaaGreat
open Go.RowKit

end Go.Proofs.YtmcafdhffkhcgaaGreat
/- Uc -/
set_option linter.unusedVariables false
namespace Go.Proofs.YtmcafdhffkhcgaaGreat
open Go.RowKit

end Go.Proofs.YtmcafdhffkhcgaaGreat
/- Ud -/
set_option linter.unusedVariables false
namespace Go.Proofs.YtmcafdhffkhcgaaGreat
open Go.RowKit

/-- A state of new memory, all lists in blocks of their own. -/
structure NewSt (w w' : World) (s : StD) (g0 g1 g2 g3 : Nat) : Prop where
  l0 : w.heap.size ≤ g0
  l1 : g0 < g1
  l2 : g1 < g2
  l3 : g2 < g3
  l4 : g3 < w'.heap.size
  R0 : RowV w' g0 (podCs s.pods)
  R1 : RowV w' g1 (mntCs s.mnts)
  R2 : RowV w' g2 (devCs s.devs)
  R3 : RowV w' g3 (lkCs s.lks)
abbrev newStV (s : StD) (g0 g1 g2 g3 : Nat) : Value := .agg (stC (some ⟨g0, 0, none⟩) (some ⟨g1, 0, none⟩) (some ⟨g2, 0, none⟩) (some ⟨g3, 0, none⟩) s.pods.length s.pods.length s.mnts.length s.mnts.length s.devs.length s.devs.length s.lks.length s.lks.length s.ph s.co s.ck s.bo s.ba s.lb s.gd s.pr)
/-- How many cells a state's lists are at most. -/
structure StFits (s : StD) (m : Nat) : Prop where
  f0 : s.pods.length ≤ m
  f1 : s.mnts.length ≤ m
  f2 : s.devs.length ≤ m
  f3 : s.lks.length ≤ m
theorem NewSt.is {w w' : World} {s : StD} {g0 g1 g2 g3 : Nat} (h : NewSt w w' s g0 g1 g2 g3) (hf : StFits s 1048576) : IsSt w' w'.heap.size (newStV s g0 g1 g2 g3) s := by
  obtain ⟨l0, l1, l2, l3, l4, R0, R1, R2, R3⟩ := h
  obtain ⟨f0, f1, f2, f3⟩ := hf
  have hm : 1048576 ≤ maxLen := by unfold maxLen; decide
  exact ⟨⟨_, _, _, _, _, _, _, _, rfl, R0.slv (podCs_len _) (by omega), R1.slv (mntCs_len _) (by omega), R2.slv (devCs_len _) (by omega), R3.slv (lkCs_len _) (by omega)⟩, by omega, by omega, by omega, by omega⟩

end Go.Proofs.YtmcafdhffkhcgaaGreat
/- Ue -/
set_option linter.unusedVariables false
namespace Go.Proofs.YtmcafdhffkhcgaaGreat
open Go.RowKit

def m3 (k : Int) : Bool := k % 3 == 0
end Go.Proofs.YtmcafdhffkhcgaaGreat
/- Uf -/
set_option linter.unusedVariables false
namespace Go.Proofs.YtmcafdhffkhcgaaGreat
open Go.RowKit

/-- A state whose four lists lie in blocks of their own, all writable. -/
structure Rows4 (w : World) (v : Value) (s : StD) (g0 g1 g2 g3 : Nat) : Prop where
  val : ∃ A0 A1 A2 A3 c0 c1 c2 c3, v = .agg (stC A0 A1 A2 A3 s.pods.length c0 s.mnts.length c1 s.devs.length c2 s.lks.length c3 s.ph s.co s.ck s.bo s.ba s.lb s.gd s.pr) ∧
    (0 < s.pods.length → A0 = some ⟨g0, 0, none⟩) ∧ (0 < s.mnts.length → A1 = some ⟨g1, 0, none⟩) ∧ (0 < s.devs.length → A2 = some ⟨g2, 0, none⟩) ∧ (0 < s.lks.length → A3 = some ⟨g3, 0, none⟩)
  z0 : 0 < s.pods.length → g0 < w.heap.size
  R0 : RowV w g0 (podCs s.pods)
  z1 : 0 < s.mnts.length → g1 < w.heap.size
  R1 : RowV w g1 (mntCs s.mnts)
  z2 : 0 < s.devs.length → g2 < w.heap.size
  R2 : RowV w g2 (devCs s.devs)
  z3 : 0 < s.lks.length → g3 < w.heap.size
  R3 : RowV w g3 (lkCs s.lks)
  d01 : g0 ≠ g1
  d02 : g0 ≠ g2
  d03 : g0 ≠ g3
  d12 : g1 ≠ g2
  d13 : g1 ≠ g3
  d23 : g2 ≠ g3
theorem NewSt.rows {w w' : World} {s : StD} {g0 g1 g2 g3 : Nat} (h : NewSt w w' s g0 g1 g2 g3) : Rows4 w' (newStV s g0 g1 g2 g3) s g0 g1 g2 g3 := by
  obtain ⟨l0, l1, l2, l3, l4, R0, R1, R2, R3⟩ := h
  exact { val := ⟨_, _, _, _, _, _, _, _, rfl, fun _ => rfl, fun _ => rfl, fun _ => rfl, fun _ => rfl⟩, z0 := fun _ => by omega, z1 := fun _ => by omega, z2 := fun _ => by omega, z3 := fun _ => by omega, R0 := R0, R1 := R1, R2 := R2, R3 := R3, d01 := by omega, d02 := by omega, d03 := by omega, d12 := by omega, d13 := by omega, d23 := by omega }
theorem row_type {w : World} {B B' e e' k k' n n' g : Nat} {v v' : Value} {xs xs' : List Value} (h : w.ownsRow B e k v n xs) (h' : w.ownsRow B' e' k' v' n' xs') (hv : v.ownBlock = some g) (hv' : v'.ownBlock = some g) : e = e' := by
  rcases h.2 with ⟨rfl, _⟩ | ⟨g1, c1, cur1, rfl, _, hh1, _⟩
  · simp [Value.ownBlock] at hv
  · rcases h'.2 with ⟨rfl, _⟩ | ⟨g2, c2, cur2, rfl, _, hh2, _⟩
    · simp [Value.ownBlock] at hv'
    · obtain rfl : g1 = g := by simpa [Value.ownBlock] using hv
      obtain rfl : g2 = g1 := by simpa [Value.ownBlock] using hv'
      rw [hh1] at hh2
      injection hh2 with hh2
      injection hh2 with _ h2 _
/-- A row of the call's own, its block named; a number of choice where it has none. -/
theorem row_named {w : World} {B e k n : Nat} {v : Value} {xs : List Value} (h : w.ownsRow B e k v n xs) (hB : B ≤ w.heap.size) (m : Nat) (hm : w.heap.size ≤ m) :
    ∃ A c g, v = .slice A n c ∧ (0 < n → A = some ⟨g, 0, none⟩) ∧ B ≤ g ∧ (0 < n → g < w.heap.size) ∧ RowV w g xs ∧ ((v.ownBlock = some g ∧ g < w.heap.size) ∨ g = m) := by
  obtain ⟨A, c, g, hv, hA, hnc, hb, hg, hR, hS, hx⟩ := open_row h
  by_cases hn : 0 < n
  · refine ⟨A, c, g, hv, hA, hb, hg, hR, .inl ⟨?_, hg hn⟩⟩
    rw [hv, hA hn]
    rfl
  · refine ⟨A, c, m, hv, fun h => absurd h hn, by omega, fun h => absurd h hn, fun j hj => ?_, .inr rfl⟩
    have := h.1
    obtain rfl : n = 0 := by omega
    omega
theorem OwnSt.rows {w : World} {B : Nat} {v : Value} {s : StD} (h : OwnSt w B v s) (hB : B ≤ w.heap.size) : ∃ g0 g1 g2 g3, Rows4 w v s g0 g1 g2 g3 ∧ B ≤ g0 ∧ B ≤ g1 ∧ B ≤ g2 ∧ B ≤ g3 := by
  obtain ⟨v0, v1, v2, v3, rfl, h0, h1, h2, h3⟩ := h.it
  obtain ⟨A0, c0, g0, e0, a0, b0, z0, R0, o0⟩ := row_named h0 hB (w.heap.size + 0) (by omega)
  obtain ⟨A1, c1, g1, e1, a1, b1, z1, R1, o1⟩ := row_named h1 hB (w.heap.size + 1) (by omega)
  obtain ⟨A2, c2, g2, e2, a2, b2, z2, R2, o2⟩ := row_named h2 hB (w.heap.size + 2) (by omega)
  obtain ⟨A3, c3, g3, e3, a3, b3, z3, R3, o3⟩ := row_named h3 hB (w.heap.size + 3) (by omega)
  have d01 : g0 ≠ g1 := fun e => by
    rcases o0 with ⟨p, q⟩ | p
    · rcases o1 with ⟨p', q'⟩ | p'
      · exact absurd (row_type h0 h1 p (by rw [e]; exact p')) (by decide)
      · omega
    · rcases o1 with ⟨p', q'⟩ | p'
      · omega
      · omega
  have d02 : g0 ≠ g2 := fun e => by
    rcases o0 with ⟨p, q⟩ | p
    · rcases o2 with ⟨p', q'⟩ | p'
      · exact absurd (row_type h0 h2 p (by rw [e]; exact p')) (by decide)
      · omega
    · rcases o2 with ⟨p', q'⟩ | p'
      · omega
      · omega
  have d03 : g0 ≠ g3 := fun e => by
    rcases o0 with ⟨p, q⟩ | p
    · rcases o3 with ⟨p', q'⟩ | p'
      · exact absurd (row_type h0 h3 p (by rw [e]; exact p')) (by decide)
      · omega
    · rcases o3 with ⟨p', q'⟩ | p'
      · omega
      · omega
  have d12 : g1 ≠ g2 := fun e => by
    rcases o1 with ⟨p, q⟩ | p
    · rcases o2 with ⟨p', q'⟩ | p'
      · exact absurd (row_type h1 h2 p (by rw [e]; exact p')) (by decide)
      · omega
    · rcases o2 with ⟨p', q'⟩ | p'
      · omega
      · omega
  have d13 : g1 ≠ g3 := fun e => by
    rcases o1 with ⟨p, q⟩ | p
    · rcases o3 with ⟨p', q'⟩ | p'
      · exact absurd (row_type h1 h3 p (by rw [e]; exact p')) (by decide)
      · omega
    · rcases o3 with ⟨p', q'⟩ | p'
      · omega
      · omega
  have d23 : g2 ≠ g3 := fun e => by
    rcases o2 with ⟨p, q⟩ | p
    · rcases o3 with ⟨p', q'⟩ | p'
      · exact absurd (row_type h2 h3 p (by rw [e]; exact p')) (by decide)
      · omega
    · rcases o3 with ⟨p', q'⟩ | p'
      · omega
      · omega
  subst e0 e1 e2 e3
  exact ⟨g0, g1, g2, g3, { val := ⟨A0, A1, A2, A3, c0, c1, c2, c3, rfl, a0, a1, a2, a3⟩, z0 := z0, z1 := z1, z2 := z2, z3 := z3, R0 := R0, R1 := R1, R2 := R2, R3 := R3, d01 := d01, d02 := d02, d03 := d03, d12 := d12, d13 := d13, d23 := d23 }, b0, b1, b2, b3⟩
theorem Rows4.go {w w' : World} {v : Value} {s : StD} {g0 g1 g2 g3 : Nat} (h : Rows4 w v s g0 g1 g2 g3) (hb : Below w.heap.size w w') : Rows4 w' v s g0 g1 g2 g3 := by
  obtain ⟨hv, z0, R0, z1, R1, z2, R2, z3, R3, d01, d02, d03, d12, d13, d23⟩ := h
  exact ⟨hv, fun h => Nat.lt_of_lt_of_le (z0 h) hb.size, R0.go (fun h => z0 (by rw [podCs_len] at h; omega)) hb, fun h => Nat.lt_of_lt_of_le (z1 h) hb.size, R1.go (fun h => z1 (by rw [mntCs_len] at h; omega)) hb,
    fun h => Nat.lt_of_lt_of_le (z2 h) hb.size, R2.go (fun h => z2 (by rw [devCs_len] at h; omega)) hb, fun h => Nat.lt_of_lt_of_le (z3 h) hb.size, R3.go (fun h => z3 (by rw [lkCs_len] at h; omega)) hb, d01, d02, d03, d12, d13, d23⟩

end Go.Proofs.YtmcafdhffkhcgaaGreat
/- Um -/
set_option linter.unusedVariables false
namespace Go.Proofs.YtmcafdhffkhcgaaGreat
open Go.RowKit

theorem wpList_append_slv {w : World} {ops : Array Oper} {rest : List Oper} {o : Oper} {a : Act} {Q : Exit → Act → World → Prop} (hgd : o.guard = none) (s x : Operand) (t e : TypeId) (i0 : TypeInfo) (z : Value) (k by' : Nat)
    (ho : o.op = .call { callee := .builtin .append, args := #[s, x], argTypes := #[t, t] }) (hu : Tryz.prog.underlying t = some (.slice e)) (hi : Tryz.prog.info? e = some i0) (hz0 : i0.zero = some z) (hz1 : i0.size = k) (hz2 : i0.bytes = by')
    (hzs : z.cells.size = k) (hk : 0 < k) (hby : by' ≤ 1024) (base : Nat) (v : Value) (n : Nat) (xs : List Value) (hs : a.eval s = v) (hown : w.ownsRow base e k v n xs)
    (A : Option Addr) (m c : Nat) (ys : List Value) (hx : a.eval x = .slice A m c) (hr : A = none → c = 0) {B : Nat} (hb : SlV w B k A m ys) (h1 : ∀ u ∈ ys, u.oneCell' = true) (hlen : n + m ≤ 8388608) (hbase : base ≤ w.heap.size)
    (h : ∀ v' w', w'.ownsRow base e k v' (n + m) (xs ++ ys) → w.grownBy w' v.ownBlock → wpList Tryz.prog ops Q rest (a.put o.dst v') w') : wpList Tryz.prog ops Q (o :: rest) a w := by
  cases A with
  | none =>
    obtain rfl := hr rfl
    have hm : m = 0 := by
      rcases Nat.eq_zero_or_pos m with h | hne
      · exact h
      · obtain ⟨b, off, e, _⟩ := hb.it hne
        cases e
    subst hm
    have hys : ys = [] := List.eq_nil_of_length_eq_zero (by rw [hb.len]; simp)
    subst hys
    refine wpList_append_own_none hgd s x t ho base e i0 k hu hi v n xs hs hown hx ?_
    have := h v w (by rw [List.append_nil]; exact hown) ⟨rfl, rfl, rfl, Nat.le_refl _, fun _ _ _ => rfl⟩
    exact this
  | some ad =>
    refine wpList_append_own w hgd s x t ho base e i0 z k by' hu hi hz0 hz1 hz2 hzs hk v n xs hs hown ad m c ys hx hb.len ?_ h1 (by unfold maxLen; omega) ?_ hbase ?_
    · intro j y hy
      have hj : j < ys.length := (List.getElem?_eq_some_iff.1 hy).1
      have hl := hb.len
      have hm : 0 < m := by
        rcases Nat.eq_zero_or_pos m with h | h
        · subst h; omega
        · exact h
      obtain ⟨b, off, e, hb1, q⟩ := hb.it hm
      cases e
      have ha : (⟨b, off, none⟩ : Addr).add j = ⟨b, off + j, none⟩ := by unfold Addr.add; split <;> simp_all
      rw [ha, q j (by omega), hy]
    · have : (n + m) * by' ≤ 8388608 * 1024 := Nat.mul_le_mul hlen hby
      omega
    · intro v' w' h1 h2 _
      exact h v' w' h1 h2

theorem podCs_one (l : List (Int × Int)) : ∀ u ∈ podCs l, u.oneCell' = true := by
  induction l with
  | nil => simp [podCs]
  | cons q l ih =>
    intro u hu
    simp only [podCs, List.mem_cons] at hu
    rcases hu with rfl | rfl | hu
    · rfl
    · rfl
    · exact ih u hu
theorem mntCs_one (l : List (Bool × Int)) : ∀ u ∈ mntCs l, u.oneCell' = true := by
  induction l with
  | nil => simp [mntCs]
  | cons q l ih =>
    intro u hu
    simp only [mntCs, List.mem_cons] at hu
    rcases hu with rfl | rfl | hu
    · rfl
    · rfl
    · exact ih u hu
theorem devCs_one (l : List Bool) : ∀ u ∈ devCs l, u.oneCell' = true := by
  intro u hu
  obtain ⟨b, _, rfl⟩ := List.mem_map.1 hu
  rfl
theorem lkCs_one (l : List Int) : ∀ u ∈ lkCs l, u.oneCell' = true := by
  intro u hu
  obtain ⟨b, _, rfl⟩ := List.mem_map.1 hu
  rfl

theorem infoS_i64 : (Tryz.prog.info? 2).map (fun i => (i.zero, i.size, i.bytes)) = some (some (.int .i64 0), 1, 8) := by kernel_rfl
theorem infoS_bool : (Tryz.prog.info? 4).map (fun i => (i.zero, i.size, i.bytes)) = some (some (.bool false), 1, 1) := by kernel_rfl
theorem infoS_pod : (Tryz.prog.info? 41).map (fun i => (i.zero, i.size, i.bytes)) = some (some (.agg #[.int .i64 0, .int .i64 0]), 2, 16) := by kernel_rfl
theorem infoS_mnt : (Tryz.prog.info? 45).map (fun i => (i.zero, i.size, i.bytes)) = some (some (.agg #[.bool false, .int .i64 0]), 2, 16) := by kernel_rfl

/-- An empty row just made. -/
theorem made_empty (w : World) (B e k : Nat) (hB : B ≤ w.heap.size) : (w.alloc (.cells #[] e)).ownsRow B e k (.slice (some ⟨w.heap.size, 0, none⟩) 0 0) 0 [] := by
  have := World.ownsRow_made (base := w.heap.size) (e := e) (size := k) w #[] 0 (by simp) (Nat.zero_le _) (by simp)
  exact ownsRow_base this hB
/-- A list of cells of the call's own. -/
def MadeL (w : World) (e k n : Nat) (xs : List Value) (en : Ending) (w' : World) : Prop :=
  ∃ v, en = .returned v ∧ w'.ownsRow w.heap.size e k v n xs ∧ Below w.heap.size w w'

set_option maxHeartbeats 1000000 in
theorem l1Copy_any (A : Option Addr) (n c : Nat) (l : List Int) (w : World) (h : SlV w w.heap.size 1 A n (lkCs l)) (hr : A = none → c = 0) (hn : n ≤ 1048576) :
    Calls Tryz.prog 66 #[.slice A n c] w (MadeL w 2 1 n (lkCs l)) := by
  obtain ⟨i0, hi, hz0, hz1, hz2⟩ := info_parts infoS_i64
  have HI := Lib.hid hi
  have HZ0 := Lib.hid hz0
  have HZ1 := Lib.hid hz1
  have HZ2 := Lib.hid hz2
  have H := Lib.hid h
  have HR := Lib.hid hr
  clear hi hz0 hz1 hz2 h hr
  go_enter Tryz.func66, Tryz.ntmps66
  go_wp2_with ((at_builtin; refine wpList_append_slv rfl _ _ 28 2 i0 (.int .i64 0) 1 8 rfl Tryz.underlying28 HI.out HZ0.out HZ1.out HZ2.out rfl (by decide) (by decide) w.heap.size _ 0 [] rfl (made_empty w _ _ _ (Nat.le_refl _)) A n c (lkCs l) rfl HR.out (H.out.below ((Below.refl _ _).alloc (Nat.le_refl _) _) (Nat.le_refl _)) (lkCs_one l) (by omega) (by simp) ?_; intro v' w2 hown hgrow))
  go_ret
  refine ⟨v', rfl, by simpa using hown, ?_⟩
  exact ((Below.refl _ _).alloc (Nat.le_refl _) _).grown hgrow (by simp) fun r hr => ((made_empty w w.heap.size 2 1 (Nat.le_refl _)).lt r hr).1
end Go.Proofs.YtmcafdhffkhcgaaGreat
