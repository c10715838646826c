/-
  What an order makes of a state, ahead of the shutting and from it on.
-/
import Derived.Test.YtchippjfpjiimaaTg
set_option linter.unusedVariables false
namespace Go.Proofs.Ytchippjfpjiimaa
open Go.RowKit

/-- The one record of a command that is not refused. -/
theorem run_one {d : PlanD} {s x : StD} {r : RecD} (h : runR d s [r] = some x) : x = applyR s r := by
  simp only [runR] at h
  split at h
  · exact (Option.some.inj h).symm
  · cases h
/-- Which command it was, and what came of it. -/
inductive Came (d : PlanD) (s : StD) : StD → Prop
  | cordon (h : s.ph = 0) : Came d s (applyR s ⟨1, 1, 0⟩)
  | drain (h : s.ph = 1) : Came d s (applyR s ⟨1, 2, 0⟩)
  | evict (i : Nat) (hi : i < d.n0) (h : s.ph = 2) (hr : (podAt s i).1 = 0) (hm : mayEvictB d s i = true) : Came d s (podS s i 6)
  | shut (h : s.ph = 1 ∨ s.ph = 2) : Came d s (shutS d s)
  | cancel (h : s.ph = 1 ∨ s.ph = 2) : Came d s (applyR s ⟨1, 0, 0⟩)
  | lock (a : Int) (h : s.ph < 3) : Came d s (applyR s ⟨6, a, 0⟩)
  | unlock (a : Int) : Came d s (applyR s ⟨7, a, 0⟩)
  | hook (i : Nat) (hi : i < d.n0) (h : (podAt s i).1 = 1) : Came d s (podS s i 2)
  | exit (i : Nat) (hi : i < d.n0) (st : Int) (h : (podAt s i).1 = 0 ∨ (podAt s i).1 = 1 ∨ (podAt s i).1 = 2 ∨ (podAt s i).1 = 3) (hs : st = 4 ∨ st = 5) : Came d s (podS s i st)
  | busy (i : Nat) (hi : i < d.n2) (b : Int) (hb : 1 ≤ b ∧ b ≤ 5) (h : s.ph < 4) (hh : (mntAt s i).1 = true) : Came d s (applyR s ⟨3, i, b⟩)
theorem index_nat {a : Int} {n : Nat} (h : ¬ inB a 0 (n - 1) = false) : ∃ i : Nat, a = i ∧ i < n := by
  have := inB_true.1 (Bool.of_not_eq_false h)
  exact ⟨a.toNat, by omega, by omega⟩
theorem came_of {d : PlanD} {s x : StD} {k a b : Int} (h : StOk d s) (hc : (commandD d s k a b).2 = 0) (hx : runR d s (commandD d s k a b).1 = some x) : Came d s x := by
  unfold commandD at hc hx
  split at hc
  · rename_i e; rw [if_pos e] at hx
    unfold phaseD at hc hx
    split at hc
    · rename_i e2; rw [if_pos e2] at hx; rw [run_one hx]; exact .cordon e2
    · exact absurd hc (by decide)
  · rename_i e1; rw [if_neg e1] at hx
    split at hc
    · rename_i e; rw [if_pos e] at hx
      unfold phaseD at hc hx
      split at hc
      · rename_i e2; rw [if_pos e2] at hx; rw [run_one hx]; exact .drain e2
      · exact absurd hc (by decide)
    · rename_i e2; rw [if_neg e2] at hx
      split at hc
      · rename_i e; rw [if_pos e] at hx
        unfold evictD at hc hx
        split at hc
        · exact absurd hc (by decide)
        · rename_i n1; rw [if_neg n1] at hx
          split at hc
          · exact absurd hc (by decide)
          · rename_i n2; rw [if_neg n2] at hx
            split at hc
            · exact absurd hc (by decide)
            · rename_i n3; rw [if_neg n3] at hx
              split at hc
              · exact absurd hc (by decide)
              · rename_i n4; rw [if_neg n4] at hx
                obtain ⟨i, rfl, hi⟩ := index_nat n1
                rw [run_one hx]
                rw [Int.toNat_natCast] at n3
                exact .evict i hi (by omega) (by omega) (Bool.of_not_eq_false n4)
      · rename_i e3; rw [if_neg e3] at hx
        split at hc
        · rename_i e; rw [if_pos e] at hx
          unfold shutD at hc hx
          split at hc
          · rename_i e4
            rw [if_pos e4] at hx
            have := (shut_run h).symm.trans hx
            rw [← Option.some.inj this]
            exact .shut e4
          · exact absurd hc (by decide)
        · rename_i e4; rw [if_neg e4] at hx
          split at hc
          · rename_i e; rw [if_pos e] at hx
            unfold cancelD phaseD at hc hx
            split at hc
            · rename_i e5; rw [if_pos e5] at hx; rw [run_one hx]; exact .cancel (.inr e5)
            · rename_i e5; rw [if_neg e5] at hx
              split at hc
              · rename_i e6; rw [if_pos e6] at hx; rw [run_one hx]; exact .cancel (.inl e6)
              · exact absurd hc (by decide)
          · rename_i e5; rw [if_neg e5] at hx
            split at hc
            · rename_i e; rw [if_pos e] at hx
              unfold lockD at hc hx
              split at hc
              · exact absurd hc (by decide)
              · rename_i n1; rw [if_neg n1] at hx
                split at hc
                · exact absurd hc (by decide)
                · rename_i n2; rw [if_neg n2] at hx
                  split at hc
                  · exact absurd hc (by decide)
                  · rename_i n3; rw [if_neg n3] at hx
                    rw [run_one hx]
                    exact .lock a (by omega)
            · rename_i e6; rw [if_neg e6] at hx
              split at hc
              · rename_i e; rw [if_pos e] at hx
                unfold unlockD at hc hx
                split at hc
                · exact absurd hc (by decide)
                · rename_i n1; rw [if_neg n1] at hx
                  split at hc
                  · exact absurd hc (by decide)
                  · rename_i n2; rw [if_neg n2] at hx
                    rw [run_one hx]
                    exact .unlock a
              · rename_i e7; rw [if_neg e7] at hx
                split at hc
                · rename_i e; rw [if_pos e] at hx
                  unfold toldD at hc hx
                  split at hc
                  · exact absurd hc (by decide)
                  · rename_i n1; rw [if_neg n1] at hx
                    split at hc
                    · exact absurd hc (by decide)
                    · rename_i n2; rw [if_neg n2] at hx
                      obtain ⟨i, rfl, hi⟩ := index_nat n1
                      rw [Int.toNat_natCast] at n2 hx
                      have ht := told_hook n2
                      rw [run_one hx, ht.2]
                      exact .hook i hi ht.1
                · rename_i e8; rw [if_neg e8] at hx
                  split at hc
                  · rename_i e; rw [if_pos e] at hx
                    unfold toldD at hc hx
                    split at hc
                    · exact absurd hc (by decide)
                    · rename_i n1; rw [if_neg n1] at hx
                      split at hc
                      · exact absurd hc (by decide)
                      · rename_i n2; rw [if_neg n2] at hx
                        obtain ⟨i, rfl, hi⟩ := index_nat n1
                        rw [Int.toNat_natCast] at n2 hx
                        have ht := told_exit n2
                        rw [run_one hx]
                        exact .exit i hi _ ht.1 ht.2
                  · rename_i e9; rw [if_neg e9] at hx
                    split at hc
                    · rename_i e; rw [if_pos e] at hx
                      unfold busyD at hc hx
                      split at hc
                      · exact absurd hc (by decide)
                      · rename_i n1; rw [if_neg n1] at hx
                        split at hc
                        · exact absurd hc (by decide)
                        · rename_i n2; rw [if_neg n2] at hx
                          split at hc
                          · exact absurd hc (by decide)
                          · rename_i n3; rw [if_neg n3] at hx
                            split at hc
                            · exact absurd hc (by decide)
                            · rename_i n4; rw [if_neg n4] at hx
                              obtain ⟨i, rfl, hi⟩ := index_nat n1
                              rw [Int.toNat_natCast] at n4
                              rw [run_one hx]
                              exact .busy i hi b (inB_true.1 (Bool.of_not_eq_false n2)) (by omega) (Bool.of_not_eq_false fun x => n4 (.inl x))
                    · exact absurd hc (by decide)

theorem busy_held {d : PlanD} {s : StD} (h : StOk d s) {i j : Nat} {b : Int} (hi : i < d.n2) : (mntAt (applyR s ⟨3, i, b⟩) j).1 = (mntAt s j).1 := by
  have hl : i < s.mnts.length := by rw [h.nm]; exact hi
  show ((s.mnts.set i ((s.mnts.getD i (false, 0)).1, b)).getD j (false, 0)).1 = (s.mnts.getD j (false, 0)).1
  simp only [List.getD, List.getElem?_set]
  by_cases e : i = j
  · subst e; simp [hl]
  · rw [if_neg e]
theorem holds_busy {d : PlanD} {s : StD} (h : StOk d s) (H : HoldsP d s) {i : Nat} {b : Int} (hi : i < d.n2) : HoldsP d (applyR s ⟨3, i, b⟩) := by
  obtain ⟨h1, h2, h3⟩ := H
  exact ⟨fun j hj hf => h1 j hj (by rw [← busy_held h hi]; exact hf), fun j hj h0 ht => by rw [busy_held h hi]; exact h2 j hj h0 (by rw [← busy_held h hi]; exact ht), fun j hj hf => by rw [busy_held h hi]; exact h3 j hj hf⟩

/-- From the shutting on: whatever else is said, all stays as it should, and no more time is left to go. -/
theorem came_going {d : PlanD} {s x : StD} {n : Int} (G : Going d s) (L : Left d s n) (hx : StOk d x) (C : Came d s x) : Going d x ∧ Left d x n := by
  have hph := G.ph
  have hp := G.ok.plan
  cases C with
  | cordon h => omega
  | drain h => omega
  | evict i hi h hr hm => omega
  | shut h => omega
  | cancel h => omega
  | lock a h => omega
  | unlock a =>
    obtain ⟨h, hph, hs, hla, hea, hde, hho, hdo⟩ := G
    refine ⟨⟨hx, hph, hs, hla, hea, hde, holds_clock hho rfl rfl rfl, hdo⟩, ⟨fun h3 => ?_, L.rel, L.done⟩⟩
    obtain ⟨lw, pw, l0, p0, hlw, hpw, hn⟩ := L.shut h3
    exact ⟨lw, pw, l0, p0, hlw.imp (fun e => by show withoutN s.lks a = []; rw [e]; rfl) id, hpw, hn⟩
  | hook i hi h =>
    refine pod_going G L hi (.inl ⟨h, rfl⟩) fun _ h3 => ?_
    have ha : aliveB (podAt s i).1 = true := by rw [h]; decide
    by_cases e : s.ba < bandOf d i
    · have := G.later h3 i hi e ha
      omega
    · omega
  | exit i hi st h hs =>
    refine pod_going G L hi (.inr ⟨h, hs⟩) fun ha _ => ?_
    rcases hs with rfl | rfl
    · exact absurd ha (by decide)
    · exact absurd ha (by decide)
  | busy i hi b hb h4 hh =>
    obtain ⟨h, hph, hs, hla, hea, hde, hho, hdo⟩ := G
    exact ⟨⟨hx, hph, hs, hla, hea, hde, holds_busy h hho hi, fun h5 => absurd h5 (by show ¬ s.ph = 5; omega)⟩, ⟨L.shut, fun h5 => absurd h5 (by show ¬ s.ph = 4; omega), L.done⟩⟩

/-- Ahead of the shutting: whatever is said but 'shut', it stays so. -/
theorem came_before {d : PlanD} {s x : StD} (B : Before d s) (h2 : s.ph ≤ 2) (hx : StOk d x) (hns : x.ph ≤ 2) (C : Came d s x) : Before d x := by
  obtain ⟨h, hs, hr, hho⟩ := B
  have hp := h.plan
  have hset : ∀ (i : Nat) (st : Int), i < d.n0 → aliveB st = false → StOk d (podS s i st) → Before d (podS s i st) := fun i st hi hst hok => by
    have hd : ∀ j, j < d.n0 → aliveB (podAt (podS s i st) j).1 = true → aliveB (podAt s j).1 = true ∧ podAt (podS s i st) j = podAt s j := fun j hj ha => by
      rw [podAt_set h hi] at ha ⊢
      by_cases e : j = i
      · rw [if_pos e] at ha; rw [hst] at ha; cases ha
      · rw [if_neg e] at ha ⊢; exact ⟨ha, rfl⟩
    refine ⟨hok, fun j hj => ?_, fun j hj ha => ?_, ⟨fun j hj hf => ?_, hho.par, hho.dev⟩⟩
    · rw [podAt_set h hi]
      split
      · exact Int.le_refl _
      · exact hs j hj
    · rw [(hd j hj ha).2]; exact hr j hj (hd j hj ha).1
    · cases hb : aliveB (podAt (podS s i st) (mpod d j)).1
      · rfl
      · have h1 := (hd _ (mount_facts hp hj).1 hb).1
        rw [hho.pod j hj hf] at h1
        cases h1
  cases C with
  | cordon h => exact ⟨hx, hs, hr, holds_clock hho rfl rfl rfl⟩
  | drain h => exact ⟨hx, hs, hr, holds_clock hho rfl rfl rfl⟩
  | evict i hi h hr hm => exact hset i 6 hi (by decide) hx
  | shut h => exact absurd hns (by show ¬ (3 : Int) ≤ 2; decide)
  | cancel h => exact ⟨hx, hs, hr, holds_clock hho rfl rfl rfl⟩
  | lock a h => exact ⟨hx, hs, hr, holds_clock hho rfl rfl rfl⟩
  | unlock a => exact ⟨hx, hs, hr, holds_clock hho rfl rfl rfl⟩
  | hook i hi h =>
    have := hr i hi (by rw [h]; decide)
    omega
  | exit i hi st h hst => exact hset i st hi (by rcases hst with rfl | rfl <;> decide) hx
  | busy i hi b hb h4 hh => exact ⟨hx, hs, hr, holds_busy h hho hi⟩
end Go.Proofs.Ytchippjfpjiimaa
