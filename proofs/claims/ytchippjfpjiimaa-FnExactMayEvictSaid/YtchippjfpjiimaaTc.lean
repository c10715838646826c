/-
  A tick, and how many more it takes till all is down.
-/
import Derived.Test.YtchippjfpjiimaaTb
set_option linter.unusedVariables false
namespace Go.Proofs.Ytchippjfpjiimaa
open Go.RowKit

def podAt (s : StD) (i : Nat) : Int × Int := s.pods.getD i (0, 0)
def mntAt (s : StD) (i : Nat) : Bool × Int := s.mnts.getD i (false, 0)
def devAt (s : StD) (i : Nat) : Bool := s.devs.getD i false
def bandOf (d : PlanD) (i : Nat) : Int := d.x0 (i * 4 + 1)
def graceOf (d : PlanD) (i : Nat) : Int := d.x0 (i * 4 + 2)
def hookOf (d : PlanD) (i : Nat) : Int := d.x0 (i * 4 + 3)
def mpod (d : PlanD) (i : Nat) : Nat := (d.x2 (i * 2)).toNat
def mpar (d : PlanD) (i : Nat) : Int := d.x2 (i * 2 + 1)
def dmnt (d : PlanD) (i : Nat) : Nat := (d.x3 i).toNat

def stepG (d : PlanD) (s : StD) (b c : Int) (i : Nat) : Option Int :=
  if bandOf d i = b ∧ aliveB (podAt s i).1 = true then (if podStep (hookOf d i) (graceOf d i) (podAt s i) c = (podAt s i).1 then none else some (podStep (hookOf d i) (graceOf d i) (podAt s i) c)) else none
def liveB (d : PlanD) (s : StD) (b : Int) : Bool := (List.range d.n0).any fun i => decide (bandOf d i = b) && aliveB (podAt s i).1
def nextB (d : PlanD) (b : Int) : Int := if nextL d b < 0 then 6 else nextL d b
def shutL (d : PlanD) (s : StD) (c : Int) : List RecD :=
  if s.lks ≠ [] ∧ c < s.lb then [] else if s.ba = 6 then [⟨1, 4, 0⟩] else if liveB d s s.ba then recsOf d.n0 (stepG d s s.ba c) (fun i x => ⟨2, i, x⟩) else [⟨9, nextB d s.ba, 0⟩]
def freeB (d : PlanD) (s : StD) (i : Nat) : Bool := (mntAt s i).1 && !aliveB (podAt s (mpod d i)).1 && (List.range d.n2).all fun j => !(decide (mpar d j = i) && (mntAt s j).1)
def giveB (d : PlanD) (s : StD) (i : Nat) : Bool := devAt s i && !(mntAt s (dmnt d i)).1
def freeG (d : PlanD) (s : StD) (i : Nat) : Option (Bool × Int) := if freeB d s i then some (if 0 < (mntAt s i).2 then (true, (mntAt s i).2 - 1) else (false, 0)) else none
def giveG (d : PlanD) (s : StD) (i : Nat) : Option Unit := if giveB d s i then some () else none
def heldB (s : StD) : Bool := s.mnts.any (fun q => q.1) || s.devs.any (fun x => x)
def releaseL (d : PlanD) (s : StD) : List RecD := if heldB s then recsOf d.n2 (freeG d s) mntRec ++ recsOf d.n3 (giveG d s) (fun i _ => ⟨5, i, 0⟩) else [⟨1, 5, 0⟩]
def tickL (d : PlanD) (s : StD) : List RecD := ⟨8, s.ck + 1, 0⟩ :: (if s.ph = 3 then shutL d s (s.ck + 1) else if s.ph = 4 then releaseL d s else [])

/-- What a tick makes of a state. -/
def tickS (d : PlanD) (s : StD) : StD :=
  if s.ph = 3 then
    (if s.lks ≠ [] ∧ s.ck + 1 < s.lb then { s with ck := s.ck + 1 } else if s.ba = 6 then { s with ck := s.ck + 1, ph := 4, co := true }
     else if liveB d s s.ba then { s with ck := s.ck + 1, pods := turn s.pods d.n0 (stepG d s s.ba (s.ck + 1)) (fun _ _ x => (x, s.ck + 1)) } else { s with ck := s.ck + 1, ba := nextB d s.ba })
  else if s.ph = 4 then
    (if heldB s then { s with ck := s.ck + 1, mnts := turn s.mnts d.n2 (freeG d s) (fun _ _ x => x), devs := turn s.devs d.n3 (giveG d s) (fun _ _ _ => false) } else { s with ck := s.ck + 1, ph := 5, co := true })
  else { s with ck := s.ck + 1 }

theorem podAt_ok {d : PlanD} {s : StD} (h : StOk d s) {i : Nat} (hi : i < d.n0) : (0 ≤ (podAt s i).1 ∧ (podAt s i).1 ≤ 6) ∧ (0 ≤ (podAt s i).2 ∧ (podAt s i).2 ≤ 1000000) := by
  have hl : i < s.pods.length := by rw [h.np]; exact hi
  have e : podAt s i = s.pods[i] := by simp [podAt, List.getD, hl]
  rw [e]
  exact h.pods _ (List.getElem_mem hl)
theorem mntAt_ok {d : PlanD} {s : StD} (h : StOk d s) {i : Nat} (hi : i < d.n2) : (0 ≤ (mntAt s i).2 ∧ (mntAt s i).2 ≤ 5) ∧ ((mntAt s i).1 = false → (mntAt s i).2 = 0) := by
  have hl : i < s.mnts.length := by rw [h.nm]; exact hi
  have e : mntAt s i = s.mnts[i] := by simp [mntAt, List.getD, hl]
  rw [e]
  exact h.mnts _ (List.getElem_mem hl)
theorem nextL_cases (d : PlanD) (b : Int) : nextL d b = -1 ∧ (∀ x ∈ bandsL d, x ≤ b) ∨ (nextL d b ∈ bandsL d ∧ b < nextL d b ∧ ∀ x ∈ bandsL d, b < x → nextL d b ≤ x) := by
  unfold nextL firstOver
  cases hf : (bandsL d).find? (fun x => decide (b < x)) with
  | none =>
    refine .inl ⟨rfl, fun x hx => ?_⟩
    have := List.find?_eq_none.1 hf x hx
    simp at this
    omega
  | some y =>
    refine .inr ⟨List.mem_of_find?_eq_some hf, by simpa using List.find?_some hf, fun x hx hb => ?_⟩
    obtain ⟨_, k, hk, e, hall⟩ := List.find?_eq_some_iff_getElem.1 hf
    obtain ⟨j, hj, rfl⟩ := List.getElem_of_mem hx
    show y ≤ _
    rw [← e]
    by_cases hjk : j < k
    · have := hall j hjk
      simp at this
      omega
    · have hp := List.pairwise_iff_getElem.1 (bandsL_rise d)
      by_cases e2 : k = j
      · subst e2; exact Int.le_refl _
      · exact Int.le_of_lt (hp k j hk hj (by omega))
theorem bandsL_mem {d : PlanD} {x : Int} (h : x ∈ bandsL d) : 0 ≤ x ∧ x ≤ 5 := by
  obtain ⟨i, hi, rfl, _⟩ := picks_mem h
  omega
theorem nextB_in (d : PlanD) (b : Int) : 0 ≤ nextB d b ∧ nextB d b ≤ 6 := by
  unfold nextB
  rcases nextL_cases d b with ⟨h, _⟩ | ⟨h, _⟩
  · rw [h]; decide
  · have := bandsL_mem h
    split <;> omega

theorem alive_step {hook grace : Int} {q : Int × Int} {c : Int} (h : aliveB q.1 = true) : 0 ≤ podStep hook grace q c ∧ podStep hook grace q c ≤ 6 := by
  simp only [aliveB, inB_true] at h
  unfold podStep
  repeat' split
  all_goals omega
theorem stepG_in {d : PlanD} {s : StD} {b c : Int} {i : Nat} {x : Int} (h : stepG d s b c i = some x) : 0 ≤ x ∧ x ≤ 6 := by
  unfold stepG at h
  split at h
  · rename_i ha
    split at h
    · cases h
    · cases h
      exact alive_step ha.2
  · cases h

theorem freeG_in {d : PlanD} {s : StD} (h : StOk d s) {i : Nat} {q : Bool × Int} (hi : i < d.n2) (hq : freeG d s i = some q) : (0 ≤ q.2 ∧ q.2 ≤ 5) ∧ (q.1 = true → (mntAt s i).1 = true) ∧ (q.1 = false → q.2 = 0) := by
  have hm := mntAt_ok h hi
  unfold freeG at hq
  split at hq
  · rename_i hf
    simp only [freeB, Bool.and_eq_true] at hf
    cases hq
    split
    · exact ⟨by constructor <;> (simp only []; omega), fun _ => hf.1.1, fun hx => (by cases hx)⟩
    · exact ⟨by decide, fun hx => (by cases hx), fun _ => rfl⟩
  · cases hq

theorem tick_run {d : PlanD} {s : StD} (h : StOk d s) (hc : s.ck < 1000000) : runR d s (tickL d s) = some (tickS d s) := by
  have hck := h.ck
  have hok1 : StOk d (applyR s ⟨8, s.ck + 1, 0⟩) := ok_clock h (by omega)
  have hg1 : goodR d s ⟨8, s.ck + 1, 0⟩ = true := goodR_of (by rw [recOkB_true]; simp only []; omega) rfl hok1
  have e1 : applyR s ⟨8, s.ck + 1, 0⟩ = { s with ck := s.ck + 1 } := rfl
  unfold tickL tickS
  rw [runR, if_pos hg1, e1]
  rw [e1] at hok1
  by_cases h3 : s.ph = 3
  · rw [if_pos h3, if_pos h3]
    unfold shutL
    split
    · rfl
    · split
      · exact runR_one (goodR_of (by decide) rfl (ok_phase hok1 (by decide)))
      · split
        · have := run_pods hok1 (g := stepG d s s.ba (s.ck + 1)) (fun i x _ hx => stepG_in hx) d.n0 (Nat.le_refl _)
          exact this
        · have hb := nextB_in d s.ba
          refine runR_one (goodR_of (by rw [recOkB_true]; simp only []; omega) rfl (ok_band hok1 hb))
  · rw [if_neg h3, if_neg h3]
    by_cases h4 : s.ph = 4
    · rw [if_pos h4, if_pos h4]
      unfold releaseL
      split
      · have hr := run_mnts hok1 (g := freeG d s) (fun i q hi hq => freeG_in h hi hq) d.n2 (Nat.le_refl _)
        rw [runR_append, hr, Option.bind_some]
        exact run_devs (runR_ok hok1 hr) (g := giveG d s) d.n3 (Nat.le_refl _)
      · exact runR_one (goodR_of (by decide) rfl (ok_phase hok1 (by decide)))
    · rw [if_neg h4, if_neg h4]
      rfl
theorem tick_ok {d : PlanD} {s : StD} (h : StOk d s) (hc : s.ck < 1000000) : StOk d (tickS d s) := runR_ok h (tick_run h hc)

/-- How many ticks of its own a pod needs at most. -/
def potP (hook grace : Int) (q : Int × Int) (ck : Int) : Int :=
  if q.1 = 0 then 2 + hook + max 1 grace else if q.1 = 1 then max 1 (q.2 + hook - ck) + max 1 grace + 1 else if q.1 = 2 then max 1 (q.2 + grace - ck) + 1 else if q.1 = 3 then 1 else 0
theorem potP_pos {hook grace : Int} {q : Int × Int} {ck : Int} (h : aliveB q.1 = true) (h0 : 0 ≤ hook) : 1 ≤ potP hook grace q ck := by
  simp only [aliveB, inB_true] at h
  unfold potP
  repeat' split
  all_goals omega
/-- A tick is one less of it. -/
theorem potP_tick {hook grace : Int} {q : Int × Int} {ck : Int} (h : aliveB q.1 = true) (h0 : 0 ≤ hook) (h1 : 0 ≤ grace) (hs : q.2 ≤ ck) :
    potP hook grace (if podStep hook grace q (ck + 1) = q.1 then q else (podStep hook grace q (ck + 1), ck + 1)) (ck + 1) ≤ potP hook grace q ck - 1 := by
  simp only [aliveB, inB_true] at h
  obtain ⟨st, t⟩ := q
  simp only [] at h hs ⊢
  have hst : st = 0 ∨ st = 1 ∨ st = 2 ∨ st = 3 := by omega
  rcases hst with rfl | rfl | rfl | rfl
  · by_cases hh : 0 < hook
    · simp [podStep, potP, hh]; omega
    · simp [podStep, potP, hh]; omega
  · by_cases hh : hook ≤ ck + 1 - t
    · simp [podStep, potP, hh]; omega
    · simp [podStep, potP, hh]; omega
  · by_cases hh : grace ≤ ck + 1 - t
    · simp [podStep, potP, hh]; omega
    · simp [podStep, potP, hh]; omega
  · simp [podStep, potP]
/-- Dead or alive, what is dead stays so. -/
theorem dead_step {hook grace : Int} {q : Int × Int} {c : Int} (h : aliveB q.1 = false) : podStep hook grace q c = q.1 := by
  simp only [aliveB, inB, Bool.and_eq_false_iff, decide_eq_false_iff_not] at h
  unfold podStep
  rw [if_neg (by omega), if_neg (by omega), if_neg (by omega), if_neg (by omega)]

theorem turn_getD {α β : Type} {l : List β} {n : Nat} {g : Nat → Option α} {f : Nat → β → α → β} {i : Nat} {z : β} (hi : i < l.length) (hn : i < n) :
    (turn l n g f).getD i z = (match g i with | some x => f i (l.getD i z) x | none => l.getD i z) := by
  have e : l[i]? = some l[i] := List.getElem?_eq_getElem hi
  simp only [List.getD, turn_get, e, Option.map_some, Option.getD_some, if_pos hn]
  all_goals (cases g i <;> rfl)

theorem sumB_le {f g : Nat → Int} : ∀ {n : Nat}, (∀ i, i < n → f i ≤ g i) → sumB n f ≤ sumB n g
  | 0, _ => Int.le_refl _
  | n + 1, h => by
    have := sumB_le (n := n) fun i hi => h i (by omega)
    have := h n (by omega)
    simp only [sumB]
    omega
theorem sumB_lt {f g : Nat → Int} {k : Nat} : ∀ {n : Nat}, k < n → (∀ i, i < n → f i ≤ g i) → f k < g k → sumB n f < sumB n g
  | 0, hk, _, _ => by omega
  | n + 1, hk, h, hl => by
    by_cases e : k = n
    · subst e
      have := sumB_le (n := k) fun i hi => h i (by omega)
      simp only [sumB]
      omega
    · have := sumB_lt (n := n) (by omega) (fun i hi => h i (by omega)) hl
      have := h n (by omega)
      simp only [sumB]
      omega
theorem sumB_nonneg {f : Nat → Int} : ∀ {n : Nat}, (∀ i, i < n → 0 ≤ f i) → 0 ≤ sumB n f
  | 0, _ => Int.le_refl _
  | n + 1, h => by
    have := sumB_nonneg (n := n) fun i hi => h i (by omega)
    have := h n (by omega)
    simp only [sumB]
    omega
theorem sumB_max {f : Nat → Int} {m : Int} : ∀ {n : Nat}, (∀ i, i < n → f i ≤ m) → sumB n f ≤ m * n
  | 0, _ => by simp [sumB]
  | n + 1, h => by
    have := sumB_max (n := n) (m := m) fun i hi => h i (by omega)
    have := h n (by omega)
    have e : m * ((n + 1 : Nat) : Int) = m * n + m := by rw [Int.natCast_succ, Int.mul_add, Int.mul_one]
    simp only [sumB]
    omega
theorem sumB_over {f : Nat → Int} {b : Int} {nb : Nat} (hb : b < nb) (h0 : ∀ k : Nat, b < k → k < nb → f k = 0) : ∀ n : Nat,
    sumB n (fun k => if b < k then f k else 0) = sumB n (fun k => if (nb : Int) < k then f k else 0) + (if nb < n then f nb else 0)
  | 0 => by simp [sumB]
  | n + 1 => by
    have ih := sumB_over hb h0 n
    simp only [sumB]
    rw [ih]
    have hz : f n = 0 ∨ ¬ (b < n ∧ n < nb) := by
      by_cases e : b < n ∧ n < nb
      · exact .inl (h0 n e.1 e.2)
      · exact .inr e
    by_cases e : n = nb
    · subst e
      repeat' split
      all_goals omega
    · repeat' split
      all_goals omega
end Go.Proofs.Ytchippjfpjiimaa
