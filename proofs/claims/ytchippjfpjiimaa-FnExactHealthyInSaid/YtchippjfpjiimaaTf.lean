/-
  Where the shutting begins; what else may happen meanwhile.
-/
import Derived.Test.YtchippjfpjiimaaTe
set_option linter.unusedVariables false
namespace Go.Proofs.Ytchippjfpjiimaa
open Go.RowKit

/-- Ahead of the shutting: who is alive runs. -/
structure Before (d : PlanD) (s : StD) : Prop where
  ok : StOk d s
  since : ∀ i, i < d.n0 → (podAt s i).2 ≤ s.ck
  runs : ∀ i, i < d.n0 → aliveB (podAt s i).1 = true → (podAt s i).1 = 0
  holds : HoldsP d s
def shutS (d : PlanD) (s : StD) : StD := { s with lb := min (s.ck + d.l) 1000000, ba := nextB d (-1), ph := 3, co := true }
theorem shut_run {d : PlanD} {s : StD} (h : StOk d s) : runR d s [⟨11, min (s.ck + d.l) 1000000, 0⟩, ⟨9, nextB d (-1), 0⟩, ⟨1, 3, 0⟩] = some (shutS d s) := by
  have hl := planOk_lock h.plan
  have hc := h.ck
  have hb := nextB_in d (-1)
  have h1 : StOk d (applyR s ⟨11, min (s.ck + d.l) 1000000, 0⟩) := ok_lockBy h (by omega)
  have g1 : goodR d s ⟨11, min (s.ck + d.l) 1000000, 0⟩ = true := goodR_of (by rw [recOkB_true]; simp only []; omega) rfl h1
  have h2 := ok_band h1 hb
  have g2 : goodR d (applyR s ⟨11, min (s.ck + d.l) 1000000, 0⟩) ⟨9, nextB d (-1), 0⟩ = true := goodR_of (by rw [recOkB_true]; simp only []; omega) rfl h2
  rw [runR, if_pos g1, runR, if_pos g2]
  exact runR_one (goodR_of (by decide) rfl (ok_phase h2 (by decide)))
theorem shut_ok {d : PlanD} {s : StD} (h : StOk d s) : StOk d (shutS d s) := runR_ok h (shut_run h)
theorem sumB_all {f : Nat → Int} : ∀ n : Nat, sumB n (fun k => if (-1 : Int) < k then f k else 0) = sumB n f
  | 0 => rfl
  | n + 1 => by
    simp only [sumB]
    rw [sumB_all n, if_pos (by omega)]
/-- The shutting begins: all is as it should, and the whole time is enough. -/
theorem shut_going {d : PlanD} {s : StD} (B : Before d s) : Going d (shutS d s) ∧ Left d (shutS d s) (wholeT d - 1) := by
  have hok := shut_ok B.ok
  obtain ⟨h, hs, hr, hho⟩ := B
  have hp := h.plan
  have hl := planOk_lock hp
  refine ⟨⟨hok, ⟨show (3 : Int) ≤ 3 by decide, show (3 : Int) ≤ 5 by decide⟩, hs, fun _ i hi _ ha => hr i hi ha, fun _ i hi hlt => ?_, fun hx => absurd hx (by show ¬ (4 : Int) ≤ 3; decide), holds_clock hho rfl rfl rfl, fun hx => absurd hx (by show ¬ (3 : Int) = 5; decide)⟩, ⟨fun _ => ?_, fun hx => absurd hx (by show ¬ (3 : Int) = 4; decide), fun hx => absurd hx (by show ¬ (3 : Int) = 5; decide)⟩⟩
  · exfalso
    have hlt : bandOf d i < nextB d (-1) := hlt
    have hm := band_mem hp hi
    have hb := (pod_facts hp hi).1
    unfold nextB at hlt
    rcases nextL_cases d (-1) with ⟨hn, hall⟩ | ⟨hn, hgt, hall⟩
    · have := hall _ hm; omega
    · have h6 := bandsL_mem hn
      rw [if_neg (by omega)] at hlt
      have := hall _ hm (by omega)
      omega
  · have hlw : (min (s.ck + d.l) 1000000) - 1 - s.ck ≤ d.l := by omega
    have hw : wholeT d = d.l + 6 * (d.n2 + d.n3 : Int) + 4 + over d (-1) := by
      rw [wholeT, if_pos hp]
      unfold over
      rw [sumB_all (f := fun k : Nat => bandT d k)]
    rcases nextL_cases d (-1) with ⟨hn, hall⟩ | ⟨hn, hgt, hall⟩
    · have hnb : nextB d (-1) = 6 := by unfold nextB; rw [hn]; rfl
      have h0 := over_nonneg hp (-1)
      refine ⟨d.l, 0, hl.1, Int.le_refl _, .inr hlw, fun i hi hb _ => ?_, ?_⟩
      · have hb : bandOf d i = nextB d (-1) := hb
        have := (pod_facts hp hi).1
        omega
      · show d.l + 0 + (if nextB d (-1) = 6 then 0 else 1 + over d (nextB d (-1))) + 6 * d.n2 + d.n3 + 2 ≤ wholeT d - 1
        rw [if_pos hnb, hw]
        omega
    · have h6 := bandsL_mem hn
      have hnb : nextB d (-1) = nextL d (-1) := by unfold nextB; rw [if_neg (by omega)]
      have hov := over_next hp hn hgt hall
      have h4 : 4 ≤ bandT d (nextL d (-1)) := by
        obtain ⟨j, hj, hje, hjp⟩ := picks_mem hn
        simp only [hasB, decide_eq_true_eq] at hjp
        obtain ⟨y, hy⟩ := List.exists_mem_of_length_pos hjp
        obtain ⟨i, hi, _, hbi⟩ := podsL_mem hy
        have hbi : bandOf d i = (j : Int) := hbi
        have := time_in hp hi
        have hpf := pod_facts hp hi
        rw [hje, ← hbi]
        omega
      refine ⟨d.l, bandT d (nextL d (-1)) - 1, hl.1, by omega, .inr hlw, fun i hi hb ha => ?_, ?_⟩
      · have hb : bandOf d i = nextB d (-1) := hb
        have hb2 := hb.trans hnb
        have ha : aliveB (podAt s i).1 = true := ha
        have hz := hr i hi ha
        have ht := time_in hp hi
        have hpf := pod_facts hp hi
        rw [hb2] at ht
        show potP (hookOf d i) (graceOf d i) (podAt s i) s.ck ≤ _
        unfold potP
        rw [if_pos hz]
        omega
      · show d.l + (bandT d (nextL d (-1)) - 1) + (if nextB d (-1) = 6 then 0 else 1 + over d (nextB d (-1))) + 6 * d.n2 + d.n3 + 2 ≤ wholeT d - 1
        rw [hnb, if_neg (by omega), hw]
        omega

/-- A state in which one pod is in another state, since now. -/
def podS (s : StD) (i : Nat) (st : Int) : StD := { s with pods := s.pods.set i (st, s.ck) }
theorem podAt_set {d : PlanD} {s : StD} (h : StOk d s) {i j : Nat} {st : Int} (hi : i < d.n0) : podAt (podS s i st) j = if j = i then (st, s.ck) else podAt s j := by
  have hl : i < s.pods.length := by rw [h.np]; exact hi
  unfold podAt podS
  simp only [List.getD, List.getElem?_set]
  by_cases e : i = j
  · subst e; simp [hl]
  · rw [if_neg e, if_neg (fun x => e x.symm)]
/-- What is told of a pod that is alive (its hook is through; it has exited) leaves all as it should, and no more time to go. -/
theorem pod_going {d : PlanD} {s : StD} {i : Nat} {st : Int} {n : Int} (G : Going d s) (L : Left d s n) (hi : i < d.n0)
    (hst : (podAt s i).1 = 1 ∧ st = 2 ∨ ((podAt s i).1 = 0 ∨ (podAt s i).1 = 1 ∨ (podAt s i).1 = 2 ∨ (podAt s i).1 = 3) ∧ (st = 4 ∨ st = 5)) (hb : aliveB st = true → s.ph = 3 → bandOf d i ≤ s.ba) :
    Going d (podS s i st) ∧ Left d (podS s i st) n := by
  obtain ⟨h, hph, hs, hla, hea, hde, hho, hdo⟩ := G
  have hp := h.plan
  have hok : StOk d (podS s i st) := ok_pod (i := i) (st := st) h (by omega)
  have hal : aliveB (podAt s i).1 = true := by simp only [aliveB, inB_true]; omega
  have hdead : ∀ j, j < d.n0 → aliveB (podAt s j).1 = false → aliveB (podAt (podS s i st) j).1 = false := fun j hj hx => by
    rw [podAt_set h hi]
    by_cases e : j = i
    · subst e; rw [hal] at hx; cases hx
    · rw [if_neg e]; exact hx
  refine ⟨⟨hok, hph, fun j hj => ?_, fun h3 j hj hlt ha => ?_, fun h3 j hj hlt => hdead j hj (hea h3 j hj hlt), fun h4 j hj => hdead j hj (hde h4 j hj), ⟨fun j hj hf => hdead _ (mount_facts hp hj).1 (hho.pod j hj hf), hho.par, hho.dev⟩, hdo⟩, ⟨fun h3 => ?_, L.rel, L.done⟩⟩
  · rw [podAt_set h hi]
    split
    · exact Int.le_refl _
    · exact hs j hj
  · rw [podAt_set h hi] at ha ⊢
    by_cases e : j = i
    · subst e
      rw [if_pos rfl] at ha ⊢
      have := hb ha h3
      have hlt : s.ba < bandOf d j := hlt
      omega
    · rw [if_neg e] at ha ⊢
      exact hla h3 j hj hlt ha
  · obtain ⟨lw, pw, l0, p0, hlw, hpw, hn⟩ := L.shut h3
    refine ⟨lw, pw, l0, p0, hlw, fun j hj hbj ha => ?_, hn⟩
    rw [podAt_set h hi] at ha ⊢
    by_cases e : j = i
    · subst e
      rw [if_pos rfl] at ha ⊢
      have := hpw j hj hbj hal
      have h2 : (podAt s j).1 = 1 ∧ st = 2 := by
        rcases hst with h1 | ⟨_, h1 | h1⟩
        · exact h1
        · rw [h1] at ha; exact absurd ha (show ¬ aliveB 4 = true by decide)
        · rw [h1] at ha; exact absurd ha (show ¬ aliveB 5 = true by decide)
      have hpf := pod_facts hp hj
      rw [h2.2]
      show potP (hookOf d j) (graceOf d j) (2, s.ck) s.ck ≤ pw
      unfold potP at this ⊢
      rw [if_neg (by omega), if_pos h2.1] at this
      simp
      omega
    · rw [if_neg e] at ha ⊢
      exact hpw j hj hbj ha
end Go.Proofs.Ytchippjfpjiimaa
