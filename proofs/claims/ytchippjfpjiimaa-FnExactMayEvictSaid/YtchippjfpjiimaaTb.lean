/-
  Many records at once: what a list of a tick's, or of a boot's, records makes of a state.
-/
import Derived.Test.YtchippjfpjiimaaTa
set_option linter.unusedVariables false
namespace Go.Proofs.Ytchippjfpjiimaa
open Go.RowKit

/-- Of each index below n for which g tells something, in order, what r makes of it. -/
def recsOf {α : Type} (n : Nat) (g : Nat → Option α) (r : Nat → α → RecD) : List RecD := (List.range n).filterMap fun i => (g i).map (r i)
theorem recsOf_zero {α : Type} (g : Nat → Option α) (r : Nat → α → RecD) : recsOf 0 g r = [] := rfl
theorem recsOf_none {α : Type} {n : Nat} {g : Nat → Option α} {r : Nat → α → RecD} (h : g n = none) : recsOf (n + 1) g r = recsOf n g r := by
  simp [recsOf, List.range_succ, List.filterMap_append, h]
theorem recsOf_some {α : Type} {n : Nat} {g : Nat → Option α} {r : Nat → α → RecD} {x : α} (h : g n = some x) : recsOf (n + 1) g r = recsOf n g r ++ [r n x] := by
  simp [recsOf, List.range_succ, List.filterMap_append, h]
theorem recsOf_le {α : Type} (n : Nat) (g : Nat → Option α) (r : Nat → α → RecD) : (recsOf n g r).length ≤ n := by
  induction n with
  | zero => exact Nat.le_refl _
  | succ n ih =>
    cases h : g n
    · rw [recsOf_none h]; omega
    · rw [recsOf_some h, List.length_append]; simp; omega

/-- A list whose elements below n are changed where g tells. -/
def turn {α β : Type} (l : List β) (n : Nat) (g : Nat → Option α) (f : Nat → β → α → β) : List β := l.mapIdx fun i q => if i < n then (match g i with | some x => f i q x | none => q) else q
theorem turn_length {α β : Type} (l : List β) (n : Nat) (g : Nat → Option α) (f : Nat → β → α → β) : (turn l n g f).length = l.length := by simp [turn]
theorem turn_get {α β : Type} {l : List β} {n : Nat} {g : Nat → Option α} {f : Nat → β → α → β} {i : Nat} : (turn l n g f)[i]? = (l[i]?).map fun q => if i < n then (match g i with | some x => f i q x | none => q) else q := by
  simp [turn, List.getElem?_mapIdx]
theorem turn_zero {α β : Type} (l : List β) (g : Nat → Option α) (f : Nat → β → α → β) : turn l 0 g f = l := by
  refine List.ext_getElem? fun i => ?_
  rw [turn_get]
  simp
theorem turn_none {α β : Type} {l : List β} {n : Nat} {g : Nat → Option α} {f : Nat → β → α → β} (h : g n = none) : turn l (n + 1) g f = turn l n g f := by
  refine List.ext_getElem? fun i => ?_
  rw [turn_get, turn_get]
  congr 1
  funext q
  by_cases e : i = n
  · subst e; simp [h]
  · by_cases e2 : i < n
    · rw [if_pos (by omega), if_pos e2]
    · rw [if_neg (by omega), if_neg e2]
theorem turn_some {α β : Type} {l : List β} {n : Nat} {g : Nat → Option α} {f : Nat → β → α → β} {x : α} {q : β} (h : g n = some x) (hq : l[n]? = some q) : turn l (n + 1) g f = (turn l n g f).set n (f n q x) := by
  refine List.ext_getElem? fun i => ?_
  rw [turn_get, List.getElem?_set, turn_length]
  by_cases e : n = i
  · subst e
    rw [if_pos rfl, hq, if_pos (List.getElem?_eq_some_iff.1 hq).1]
    simp [h]
  · rw [if_neg e, turn_get]
    congr 1
    funext q
    by_cases e2 : i < n
    · rw [if_pos (by omega), if_pos e2]
    · rw [if_neg (by omega), if_neg e2]
theorem turn_at {α β : Type} {l : List β} {n : Nat} {g : Nat → Option α} {f : Nat → β → α → β} : (turn l n g f)[n]? = l[n]? := by
  rw [turn_get]
  simp

theorem runR_one {d : PlanD} {s : StD} {r : RecD} (h : goodR d s r = true) : runR d s [r] = some (applyR s r) := by simp [runR, h]
theorem goodR_of {d : PlanD} {s : StD} {r : RecD} (h1 : recOkB r = true) (h2 : thereB s r = true) (h3 : StOk d (applyR s r)) : goodR d s r = true := by
  simp [goodR, h1, h2, stOkB_iff.2 h3]

/-- Pods' records, one after the other. -/
theorem run_pods {d : PlanD} {s : StD} (h : StOk d s) {g : Nat → Option Int} (hg : ∀ i x, i < d.n0 → g i = some x → 0 ≤ x ∧ x ≤ 6) : ∀ n, n ≤ d.n0 →
    runR d s (recsOf n g (fun i x => ⟨2, i, x⟩)) = some { s with pods := turn s.pods n g (fun _ _ x => (x, s.ck)) }
  | 0, _ => by rw [recsOf_zero, turn_zero]; rfl
  | n + 1, hn => by
    have ih := run_pods h hg n (by omega)
    have h12 := (planOk_lock h.plan).2.2.1
    cases hx : g n with
    | none => rw [recsOf_none hx, turn_none hx]; exact ih
    | some x =>
      have hb := hg n x (by omega) hx
      have hok := runR_ok h ih
      have hl : n < s.pods.length := by rw [h.np]; omega
      obtain ⟨q, hq⟩ : ∃ q, s.pods[n]? = some q := ⟨_, List.getElem?_eq_getElem hl⟩
      rw [recsOf_some hx, runR_append, ih, Option.bind_some]
      refine (runR_one (goodR_of ?_ ?_ (ok_pod hok hb))).trans ?_
      · rw [recOkB_true]; simp only []; omega
      · simp [thereB, turn_length, hl]
      · simp only [applyR]
        simp [turn_some (f := fun _ _ x => (x, s.ck)) hx hq]

/-- Mounts' records: busy ones less busy, others free. -/
def mntRec (i : Nat) (q : Bool × Int) : RecD := if q.1 then ⟨3, i, q.2⟩ else ⟨4, i, 0⟩
theorem run_mnts {d : PlanD} {s : StD} (h : StOk d s) {g : Nat → Option (Bool × Int)} (hg : ∀ i q, i < d.n2 → g i = some q → (0 ≤ q.2 ∧ q.2 ≤ 5) ∧ (q.1 = true → (s.mnts.getD i (false, 0)).1 = true) ∧ (q.1 = false → q.2 = 0)) : ∀ n, n ≤ d.n2 →
    runR d s (recsOf n g mntRec) = some { s with mnts := turn s.mnts n g (fun _ _ x => x) }
  | 0, _ => by rw [recsOf_zero, turn_zero]; rfl
  | n + 1, hn => by
    have ih := run_mnts h hg n (by omega)
    have h12 := (planOk_lock h.plan).2.2.2.2.1
    cases hx : g n with
    | none => rw [recsOf_none hx, turn_none hx]; exact ih
    | some x =>
      have hb := hg n x (by omega) hx
      have hok := runR_ok h ih
      have hl : n < s.mnts.length := by rw [h.nm]; omega
      obtain ⟨q, hq⟩ : ∃ q, s.mnts[n]? = some q := ⟨_, List.getElem?_eq_getElem hl⟩
      have hq3 : s.mnts.getD n (false, 0) = q := by rw [List.getD, hq]; rfl
      rw [recsOf_some hx, runR_append, ih, Option.bind_some]
      obtain ⟨held, busy⟩ := x
      cases held
      · have hz : busy = 0 := hb.2.2 rfl
        subst hz
        refine (runR_one (r := mntRec n (false, 0)) (goodR_of ?_ ?_ (ok_free hok))).trans ?_
        · rw [recOkB_true]; simp only [mntRec, Bool.false_eq_true, if_false]; omega
        · simp [thereB, mntRec, turn_length, hl]
        · simp [applyR, mntRec, turn_some (f := fun _ _ x => x) hx hq]
      · have hh : q.1 = true := by rw [← hq3]; exact hb.2.1 rfl
        refine (runR_one (r := mntRec n (true, busy)) (goodR_of ?_ ?_ (ok_busy hok hb.1 (by simpa [turn_at, hq] using hh)))).trans ?_
        · rw [recOkB_true]; simp only [mntRec, if_true]; omega
        · simp [thereB, mntRec, turn_length, hl]
        · simp only [applyR, mntRec]
          simp [turn_some (f := fun _ _ x => x) hx hq, hh, turn_at, hq]

theorem run_devs {d : PlanD} {s : StD} (h : StOk d s) {g : Nat → Option Unit} : ∀ n, n ≤ d.n3 →
    runR d s (recsOf n g (fun i _ => ⟨5, i, 0⟩)) = some { s with devs := turn s.devs n g (fun _ _ _ => false) }
  | 0, _ => by rw [recsOf_zero, turn_zero]; rfl
  | n + 1, hn => by
    have ih := run_devs h (g := g) n (by omega)
    have h12 := (planOk_lock h.plan).2.2.2.2.2
    cases hx : g n with
    | none => rw [recsOf_none hx, turn_none hx]; exact ih
    | some x =>
      have hok := runR_ok h ih
      have hl : n < s.devs.length := by rw [h.nd]; omega
      obtain ⟨q, hq⟩ : ∃ q, s.devs[n]? = some q := ⟨_, List.getElem?_eq_getElem hl⟩
      rw [recsOf_some hx, runR_append, ih, Option.bind_some]
      refine (runR_one (goodR_of ?_ ?_ (ok_give hok))).trans ?_
      · rw [recOkB_true]; simp only []; omega
      · simp [thereB, turn_length, hl]
      · simp only [applyR]
        simp [turn_some (f := fun _ _ _ => false) hx hq]
end Go.Proofs.Ytchippjfpjiimaa
