/-
  What comes back of bytes, as data (chapter 15).
-/
import Derived.Test.YtkefbmbjkijilaaGreatDoorMZ19
set_option linter.unusedVariables false
namespace Go.Proofs.YtkefbmbjkijilaaGreatDoor
open Go.RowKit

/-- The zero plan. -/
def zeroP : PlanD := ⟨0, 0, 0, 0, fun _ => 0, fun _ => 0, fun _ => 0, fun _ => 0, 0, 0, 0⟩
/-- What Recovered answers of a plan and bytes. -/
def recovD (d : PlanD) (b : List Nat) : (PlanD × StD × List Nat) × Bool :=
  match (if planOkB d = true ∧ (framesN b).2 ≤ 1200 then (runLs d (newS d) (framesN b).1).map fun s => (s, b.take (framesN b).2) else none) with
  | some x => ((d, x.1, x.2), true)
  | none => ((zeroP, zeroS, []), false)
theorem run_flat {d : PlanD} : ∀ {ls : List (List RecD)} {s : StD}, runLs d s ls = runR d s ls.flatten
  | [], s => rfl
  | l :: ls, s => by
    simp only [runLs, List.flatten_cons, runR_append]
    cases runR d s l with
    | none => rfl
    | some x => exact run_flat
/-- All records at once, of a new state: what the lists make one after the other. -/
theorem applied_flat {d : PlanD} {ls : List (List RecD)} (hok : planOkB d = true) : appliedL d (newS d) ls.flatten = (match runLs d (newS d) ls with | some x => (x, true) | none => (newS d, false)) := by
  unfold appliedL
  rw [stOkB_iff.2 (newS_ok hok), run_flat]
  rfl
theorem applied_flat_no {d : PlanD} {ls : List (List RecD)} (hok : planOkB d = false) : (appliedL d (newS d) ls.flatten).2 = false := by
  unfold appliedL
  have h : stOkB d (newS d) = false := by simp [stOkB, hok]
  rw [h]
  rfl
theorem recov_far {d : PlanD} {b : List Nat} (h : ¬ (framesN b).2 ≤ 1200) : recovD d b = ((zeroP, zeroS, []), false) := by
  unfold recovD
  rw [if_neg (fun hh => h hh.2)]
theorem recov_no {d : PlanD} {b : List Nat} {x : StD} (h : appliedL d (newS d) (framesN b).1.flatten = (x, false)) : recovD d b = ((zeroP, zeroS, []), false) := by
  unfold recovD
  by_cases hp : planOkB d = true ∧ (framesN b).2 ≤ 1200
  · rw [if_pos hp]
    rw [applied_flat hp.1] at h
    cases hr : runLs d (newS d) (framesN b).1 with
    | none => rfl
    | some y => rw [hr] at h; cases h
  · rw [if_neg hp]
theorem recov_yes {d : PlanD} {b : List Nat} {x : StD} (hn : (framesN b).2 ≤ 1200) (h : appliedL d (newS d) (framesN b).1.flatten = (x, true)) : recovD d b = ((d, x, b.take (framesN b).2), true) ∧ StOk d x := by
  cases hok : planOkB d with
  | false =>
    have := applied_flat_no (d := d) (ls := (framesN b).1) hok
    rw [h] at this
    cases this
  | true =>
    rw [applied_flat hok] at h
    cases hr : runLs d (newS d) (framesN b).1 with
    | none => rw [hr] at h; cases h
    | some y =>
      rw [hr] at h
      injection h with h1 _
      subst h1
      refine ⟨?_, runLs_ok (newS_ok hok) hr⟩
      unfold recovD
      rw [if_pos ⟨hok, hn⟩, hr]
      rfl
theorem recov_replay {d : PlanD} {b : List Nat} {x : StD} (hok : planOkB d = true) (hn : (framesN b).2 ≤ 1200) (h : replayD d (framesN b).1 = (x, true)) : recovD d b = ((d, x, b.take (framesN b).2), true) ∧ StOk d x := by
  unfold replayD at h
  cases hr : runLs d (newS d) (framesN b).1 with
  | none => rw [hr] at h; cases h
  | some y =>
    rw [hr] at h
    injection h with h1 _
    subst h1
    refine ⟨?_, runLs_ok (newS_ok hok) hr⟩
    unfold recovD
    rw [if_pos ⟨hok, hn⟩, hr]
    rfl
theorem recov_replay_no {d : PlanD} {b : List Nat} {x : StD} (h : replayD d (framesN b).1 = (x, false)) : recovD d b = ((zeroP, zeroS, []), false) := by
  unfold replayD at h
  cases hr : runLs d (newS d) (framesN b).1 with
  | none =>
    unfold recovD
    rw [hr]
    by_cases hp : planOkB d = true ∧ (framesN b).2 ≤ 1200
    · rw [if_pos hp]; rfl
    · rw [if_neg hp]
  | some y => rw [hr] at h; cases h
theorem recov_bad {d : PlanD} {b : List Nat} (h : planOkB d = false) : recovD d b = ((zeroP, zeroS, []), false) := by
  unfold recovD
  rw [if_neg (fun hh => by rw [h] at hh; exact absurd hh.1 (by decide))]
/-- A new agent is what comes back of nothing. -/
theorem recov_new (d : PlanD) : recovD d [] = if planOkB d then ((d, newS d, []), true) else ((zeroP, zeroS, []), false) := by
  cases hok : planOkB d with
  | false => rw [recov_bad hok]; rfl
  | true =>
    have := recov_replay (d := d) (b := []) (x := newS d) hok (by rw [framesN_none (b := []) (by rfl)]; decide) (by rw [framesN_none (b := []) (by rfl)]; rfl)
    rw [this.1, framesN_none (b := []) (by rfl)]
    rfl
/-- An agent is right: it is what comes back of its store, and that is all of it. -/
theorem agB_rec (d : PlanD) (s : StD) (st : List Nat) : agB d s st = ((recovD d st).2 && decide ((recovD d st).1.2.2.length = st.length) && decide ((recovD d st).1.2.1 = s)) := by
  have hle := (framesN_le st)
  unfold agB
  cases hok : planOkB d with
  | false => rw [recov_bad hok]; rfl
  | true =>
    by_cases hn : (framesN st).2 ≤ 1200
    · obtain ⟨x, bx, hr⟩ : ∃ x bx, replayD d (framesN st).1 = (x, bx) := ⟨_, _, rfl⟩
      cases bx with
      | false =>
        rw [recov_replay_no hr, hr]
        simp
      | true =>
        rw [(recov_replay hok hn hr).1, hr]
        dsimp only
        rw [List.length_take, Nat.min_eq_left hle]
        by_cases he : (framesN st).2 = st.length
        · rw [he] at hn
          simp [hn, he]
        · simp [he]
    · rw [recov_far hn]
      by_cases he : (framesN st).2 = st.length
      · have : ¬ st.length ≤ 1200 := by omega
        simp [this]
      · simp [he]
theorem OwnAg.zero (w : World) (B : Nat) : OwnAg w B (.agg (agC (.slice none 0 0) (.slice none 0 0) (.slice none 0 0) (.slice none 0 0) 0 0 0 0 false 0 0 0 0 (.slice none 0 0) (.slice none 0 0) (.slice none 0 0) (.slice none 0 0) 0 0 (.slice none 0 0))) zeroP zeroS [] :=
  ⟨_, _, _, _, _, _, _, _, _, rfl, ⟨OI.nil_ _ _ _ _ _, OI.nil_ _ _ _ _ _, OI.nil_ _ _ _ _ _, OI.nil_ _ _ _ _ _⟩, OwnSt.zero _ _, OB.nil_ _ _, fun r h _ => by cases h⟩
/-- What answers an agent and whether it is one. -/
def RecA (w : World) (a : (PlanD × StD × List Nat) × Bool) (e : Ending) (w' : World) : Prop :=
  ∃ v, e = .returned (.tuple #[v, .bool a.2]) ∧ OwnAg w' w.heap.size v a.1.1 a.1.2.1 a.1.2.2 ∧ Below w.heap.size w w'
end Go.Proofs.YtkefbmbjkijilaaGreatDoor
