/-
  A tick from the shutting on: all stays as it should, and the time that is left is one less.
-/
import Derived.Test.YtchippjfpjiimaaTd
set_option linter.unusedVariables false
namespace Go.Proofs.Ytchippjfpjiimaa
open Go.RowKit

section
variable {d : PlanD} {s : StD}
theorem tick_lock (h3 : s.ph = 3) (h : s.lks ≠ [] ∧ s.ck + 1 < s.lb) : tickS d s = { s with ck := s.ck + 1 } := by unfold tickS; rw [if_pos h3, if_pos h]
theorem tick_last (h3 : s.ph = 3) (h : ¬ (s.lks ≠ [] ∧ s.ck + 1 < s.lb)) (hb : s.ba = 6) : tickS d s = { s with ck := s.ck + 1, ph := 4, co := true } := by unfold tickS; rw [if_pos h3, if_neg h, if_pos hb]
theorem tick_live (h3 : s.ph = 3) (h : ¬ (s.lks ≠ [] ∧ s.ck + 1 < s.lb)) (hb : ¬ s.ba = 6) (hl : liveB d s s.ba = true) :
    tickS d s = { s with ck := s.ck + 1, pods := turn s.pods d.n0 (stepG d s s.ba (s.ck + 1)) (fun _ _ x => (x, s.ck + 1)) } := by unfold tickS; rw [if_pos h3, if_neg h, if_neg hb, if_pos hl]
theorem tick_next (h3 : s.ph = 3) (h : ¬ (s.lks ≠ [] ∧ s.ck + 1 < s.lb)) (hb : ¬ s.ba = 6) (hl : liveB d s s.ba = false) : tickS d s = { s with ck := s.ck + 1, ba := nextB d s.ba } := by
  unfold tickS; rw [if_pos h3, if_neg h, if_neg hb, if_neg (by rw [hl]; decide)]
theorem tick_give (h4 : s.ph = 4) (h : heldB s = true) :
    tickS d s = { s with ck := s.ck + 1, mnts := turn s.mnts d.n2 (freeG d s) (fun _ _ x => x), devs := turn s.devs d.n3 (giveG d s) (fun _ _ _ => false) } := by unfold tickS; rw [if_neg (by omega), if_pos h4, if_pos h]
theorem tick_down (h4 : s.ph = 4) (h : heldB s = false) : tickS d s = { s with ck := s.ck + 1, ph := 5, co := true } := by unfold tickS; rw [if_neg (by omega), if_pos h4, if_neg (by rw [h]; decide)]
end

theorem step_alive {d : PlanD} {s : StD} (h : StOk d s) {b c : Int} {i : Nat} (hi : i < d.n0) (ha : aliveB ((turn s.pods d.n0 (stepG d s b c) (fun _ _ x => (x, c))).getD i (0, 0)).1 = true) : aliveB (podAt s i).1 = true := by
  rw [podAt_turn h hi] at ha
  split at ha
  · rename_i h1; exact h1.2
  · exact ha
theorem step_dead {d : PlanD} {s : StD} (h : StOk d s) {b c : Int} {i : Nat} (hi : i < d.n0) (hd : aliveB (podAt s i).1 = false) : aliveB ((turn s.pods d.n0 (stepG d s b c) (fun _ _ x => (x, c))).getD i (0, 0)).1 = false := by
  cases ha : aliveB ((turn s.pods d.n0 (stepG d s b c) (fun _ _ x => (x, c))).getD i (0, 0)).1
  · rfl
  · rw [step_alive h hi ha] at hd; cases hd

theorem holds_clock {d : PlanD} {s s' : StD} (H : HoldsP d s) (hp : s'.pods = s.pods) (hm : s'.mnts = s.mnts) (hd : s'.devs = s.devs) : HoldsP d s' := by
  obtain ⟨h1, h2, h3⟩ := H
  unfold podAt mntAt devAt at *
  refine ⟨?_, ?_, ?_⟩
  · intro i hi; have := h1 i hi; unfold podAt mntAt; rw [hp, hm]; exact this
  · intro i hi; have := h2 i hi; unfold mntAt; rw [hm]; exact this
  · intro i hi; have := h3 i hi; unfold devAt mntAt; rw [hd, hm]; exact this

theorem tick_going {d : PlanD} {s : StD} (G : Going d s) (h5 : s.ph ≠ 5) (hc : s.ck < 1000000) : Going d (tickS d s) := by
  have hok := tick_ok G.ok hc
  obtain ⟨h, hph, hs, hla, hea, hde, hho, hdo⟩ := G
  have hp := h.plan
  by_cases h3 : s.ph = 3
  · by_cases hlk : s.lks ≠ [] ∧ s.ck + 1 < s.lb
    · have e := tick_lock (d := d) h3 hlk
      rw [e] at hok ⊢
      exact ⟨hok, hph, fun i hi => Int.le_trans (hs i hi) (show s.ck ≤ s.ck + 1 by omega), hla, hea, hde, holds_clock hho rfl rfl rfl, hdo⟩
    · by_cases hb : s.ba = 6
      · have e := tick_last (d := d) h3 hlk hb
        rw [e] at hok ⊢
        refine ⟨hok, ⟨show (3 : Int) ≤ 4 by decide, show (4 : Int) ≤ 5 by decide⟩, fun i hi => Int.le_trans (hs i hi) (show s.ck ≤ s.ck + 1 by omega), fun hx => ?_, fun hx => ?_, fun _ i hi => ?_, holds_clock hho rfl rfl rfl, fun hx => ?_⟩
        · exact absurd hx (by show ¬ (4 : Int) = 3; decide)
        · exact absurd hx (by show ¬ (4 : Int) = 3; decide)
        · exact hea h3 i hi (by have := (pod_facts hp hi).1; omega)
        · exact absurd hx (by show ¬ (4 : Int) = 5; decide)
      · cases hl : liveB d s s.ba
        · have e := tick_next (d := d) h3 hlk hb hl
          rw [e] at hok ⊢
          refine ⟨hok, hph, fun i hi => Int.le_trans (hs i hi) (show s.ck ≤ s.ck + 1 by omega), fun _ i hi hlt => ?_, fun _ i hi hlt => ?_, hde, holds_clock hho rfl rfl rfl, hdo⟩
          · refine hla h3 i hi ?_
            have hlt : nextB d s.ba < bandOf d i := hlt
            unfold nextB at hlt
            have hbi := (pod_facts hp hi).1
            rcases nextL_cases d s.ba with ⟨hn, _⟩ | ⟨hn, hgt, _⟩
            · rw [hn, if_pos (by decide)] at hlt; omega
            · have := bandsL_mem hn
              rw [if_neg (by omega)] at hlt
              omega
          · have hlt : bandOf d i < nextB d s.ba := hlt
            by_cases h1 : bandOf d i < s.ba
            · exact hea h3 i hi h1
            · by_cases h2 : bandOf d i = s.ba
              · exact liveB_no hl hi h2
              · exfalso
                have hm := band_mem hp hi
                unfold nextB at hlt
                rcases nextL_cases d s.ba with ⟨hn, hall⟩ | ⟨hn, hgt, hall⟩
                · have := hall _ hm; omega
                · have h6 := bandsL_mem hn
                  rw [if_neg (by omega)] at hlt
                  have := hall _ hm (by omega)
                  omega
        · have e := tick_live (d := d) h3 hlk hb hl
          rw [e] at hok ⊢
          refine ⟨hok, hph, fun i hi => ?_, fun _ i hi hlt ha => ?_, fun _ i hi hlt => step_dead h hi (hea h3 i hi hlt), fun hx => absurd hx (by show ¬ 4 ≤ s.ph; omega), ⟨fun i hi hf => step_dead h (mount_facts hp hi).1 (hho.pod i hi hf), hho.par, hho.dev⟩, hdo⟩
          · show ((turn s.pods d.n0 (stepG d s s.ba (s.ck + 1)) (fun _ _ x => (x, s.ck + 1))).getD i (0, 0)).2 ≤ s.ck + 1
            have := hs i hi
            rw [podAt_turn h hi]
            repeat' split
            all_goals (try simp only []); omega
          · have ha' := step_alive h hi ha
            show ((turn s.pods d.n0 (stepG d s s.ba (s.ck + 1)) (fun _ _ x => (x, s.ck + 1))).getD i (0, 0)).1 = 0
            have hlt : s.ba < bandOf d i := hlt
            rw [podAt_turn h hi, if_neg (by omega)]
            exact hla h3 i hi hlt ha'
  · have h4 : s.ph = 4 := by omega
    cases hh : heldB s
    · have e := tick_down (d := d) h4 hh
      rw [e] at hok ⊢
      refine ⟨hok, ⟨show (3 : Int) ≤ 5 by decide, show (5 : Int) ≤ 5 by decide⟩, fun i hi => Int.le_trans (hs i hi) (show s.ck ≤ s.ck + 1 by omega), fun hx => ?_, fun hx => ?_, fun _ => hde (by omega), holds_clock hho rfl rfl rfl, fun _ => hh⟩
      · exact absurd hx (by show ¬ (5 : Int) = 3; decide)
      · exact absurd hx (by show ¬ (5 : Int) = 3; decide)
    · have e := tick_give (d := d) h4 hh
      rw [e] at hok ⊢
      refine ⟨hok, hph, fun i hi => Int.le_trans (hs i hi) (show s.ck ≤ s.ck + 1 by omega), fun hx => absurd hx (by show ¬ s.ph = 3; omega), fun hx => absurd hx (by show ¬ s.ph = 3; omega), hde, ⟨?_, ?_, ?_⟩, fun hx => absurd hx (by show ¬ s.ph = 5; omega)⟩
      · intro i hi _
        exact hde (by omega) _ (mount_facts hp hi).1
      · intro i hi h0 ht
        have hmf := mount_facts hp hi
        have hpi : (mpar d i).toNat < d.n2 := by omega
        have ht' : ((turn s.mnts d.n2 (freeG d s) (fun _ _ x => x)).getD i (false, 0)).1 = true := ht
        show ((turn s.mnts d.n2 (freeG d s) (fun _ _ x => x)).getD (mpar d i).toNat (false, 0)).1 = true
        rw [mntAt_turn h hi] at ht'
        have hwas : (mntAt s i).1 = true := by
          split at ht'
          · rename_i hf
            simp only [freeB, Bool.and_eq_true] at hf
            exact hf.1.1
          · exact ht'
        rw [mntAt_turn h hpi, if_neg (fun hf => ?_)]
        · exact hho.par i hi h0 hwas
        · simp only [freeB, Bool.and_eq_true, List.all_eq_true, List.mem_range] at hf
          have := hf.2 i hi
          rw [hwas] at this
          have e2 : mpar d i = ((mpar d i).toNat : Int) := by omega
          rw [← e2] at this
          simp at this
      · intro i hi hd
        have hdm := device_facts hp hi
        have hd' : (turn s.devs d.n3 (giveG d s) (fun _ _ _ => false)).getD i false = false := hd
        show ((turn s.mnts d.n2 (freeG d s) (fun _ _ x => x)).getD (dmnt d i) (false, 0)).1 = false
        rw [devAt_turn h hi] at hd'
        have hwas : (mntAt s (dmnt d i)).1 = false := by
          split at hd'
          · rename_i hg
            simp only [giveB, Bool.and_eq_true, Bool.not_eq_true'] at hg
            exact hg.2
          · exact hho.dev i hi hd'
        rw [mntAt_turn h hdm, if_neg (fun hf => ?_)]
        · exact hwas
        · simp only [freeB, Bool.and_eq_true] at hf
          rw [hwas] at hf
          exact absurd hf.1.1 (by decide)

theorem tick_left {d : PlanD} {s : StD} {n : Int} (G : Going d s) (L : Left d s n) (h5 : s.ph ≠ 5) : Left d (tickS d s) (n - 1) := by
  obtain ⟨h, hph, hs, hla, hea, hde, hho, hdo⟩ := G
  have hp := h.plan
  by_cases h3 : s.ph = 3
  · obtain ⟨lw, pw, l0, p0, hlw, hpw, hn⟩ := L.shut h3
    by_cases hlk : s.lks ≠ [] ∧ s.ck + 1 < s.lb
    · have e := tick_lock (d := d) h3 hlk
      rw [e]
      refine ⟨fun _ => ⟨lw - 1, pw, ?_, p0, .inr ?_, fun i hi hb ha => Int.le_trans potP_mono (hpw i hi hb ha), ?_⟩, fun hx => absurd hx (by show ¬ s.ph = 4; omega), fun hx => absurd hx (by show ¬ s.ph = 5; omega)⟩
      · have := hlw.resolve_left hlk.1; omega
      · have := hlw.resolve_left hlk.1
        show s.lb - 1 - (s.ck + 1) ≤ lw - 1
        omega
      · show lw - 1 + pw + (if s.ba = 6 then 0 else 1 + over d s.ba) + 6 * d.n2 + d.n3 + 2 ≤ n - 1
        omega
    · by_cases hb : s.ba = 6
      · have e := tick_last (d := d) h3 hlk hb
        have hr := (relW_in h).2
        have hov : (if s.ba = 6 then 0 else 1 + over d s.ba) = 0 := if_pos hb
        rw [hov] at hn
        rw [e]
        refine ⟨fun hx => absurd hx (by show ¬ (4 : Int) = 3; decide), fun _ => ?_, fun hx => absurd hx (by show ¬ (4 : Int) = 5; decide)⟩
        show relW d s + 1 ≤ n - 1
        omega
      · cases hl : liveB d s s.ba
        · have e := tick_next (d := d) h3 hlk hb hl
          have hov : (if s.ba = 6 then 0 else 1 + over d s.ba) = 1 + over d s.ba := if_neg hb
          rw [hov] at hn
          rw [e]
          have hlw' : s.lks = [] ∨ s.lb - 1 - (s.ck + 1) ≤ lw := hlw.imp id fun hx => by omega
          refine ⟨fun _ => ?_, fun hx => absurd hx (by show ¬ s.ph = 4; omega), fun hx => absurd hx (by show ¬ s.ph = 5; omega)⟩
          rcases nextL_cases d s.ba with ⟨hn1, hall⟩ | ⟨hn1, hgt, hall⟩
          · have hnb : nextB d s.ba = 6 := by unfold nextB; rw [hn1]; rfl
            have h0 := over_nonneg hp s.ba
            refine ⟨lw, 0, l0, Int.le_refl _, hlw', fun i hi hbi _ => ?_, ?_⟩
            · have hbi : bandOf d i = nextB d s.ba := hbi
              have := (pod_facts hp hi).1
              omega
            · show lw + 0 + (if nextB d s.ba = 6 then 0 else 1 + over d (nextB d s.ba)) + 6 * d.n2 + d.n3 + 2 ≤ n - 1
              rw [if_pos hnb]
              omega
          · have hr := bandsL_mem hn1
            have hnb : nextB d s.ba = nextL d s.ba := by unfold nextB; rw [if_neg (by omega)]
            have hov := over_next hp hn1 hgt hall
            have h4 : 4 ≤ bandT d (nextL d s.ba) := by
              obtain ⟨j, hj, hje, hjp⟩ := picks_mem hn1
              simp only [hasB, decide_eq_true_eq] at hjp
              obtain ⟨y, hy⟩ := List.exists_mem_of_length_pos hjp
              obtain ⟨i, hi, _, hbi⟩ := podsL_mem hy
              have hbi : bandOf d i = (j : Int) := hbi
              have := time_in hp hi
              have hpf := pod_facts hp hi
              rw [hje, ← hbi]
              omega
            refine ⟨lw, bandT d (nextL d s.ba) - 1, l0, by omega, hlw', fun i hi hbi ha => ?_, ?_⟩
            · have hbi : bandOf d i = nextB d s.ba := hbi
              have hbi2 : bandOf d i = nextL d s.ba := hbi.trans hnb
              have ha : aliveB (podAt s i).1 = true := ha
              have hz := hla h3 i hi (by omega) ha
              have ht := time_in hp hi
              have hpf := pod_facts hp hi
              rw [hbi2] at ht
              show potP (hookOf d i) (graceOf d i) (podAt s i) (s.ck + 1) ≤ _
              unfold potP
              rw [if_pos hz]
              omega
            · show lw + (bandT d (nextL d s.ba) - 1) + (if nextB d s.ba = 6 then 0 else 1 + over d (nextB d s.ba)) + 6 * d.n2 + d.n3 + 2 ≤ n - 1
              rw [hnb, if_neg (by omega)]
              omega
        · have e := tick_live (d := d) h3 hlk hb hl
          rw [e]
          obtain ⟨j, hj, hbj, haj⟩ := liveB_iff.1 hl
          have h1 := Int.le_trans (potP_pos (grace := graceOf d j) (ck := s.ck) haj (pod_facts hp hj).2.1.1) (hpw j hj hbj haj)
          refine ⟨fun _ => ⟨lw, pw - 1, l0, by omega, hlw.imp id fun hx => ?_, fun i hi hbi ha => ?_, ?_⟩, fun hx => absurd hx (by show ¬ s.ph = 4; omega), fun hx => absurd hx (by show ¬ s.ph = 5; omega)⟩
          · show s.lb - 1 - (s.ck + 1) ≤ lw
            omega
          · have ha' := step_alive h hi ha
            have hbi : bandOf d i = s.ba := hbi
            show potP (hookOf d i) (graceOf d i) ((turn s.pods d.n0 (stepG d s s.ba (s.ck + 1)) (fun _ _ x => (x, s.ck + 1))).getD i (0, 0)) (s.ck + 1) ≤ pw - 1
            rw [podAt_turn h hi, if_pos ⟨hbi, ha'⟩]
            have hpf := pod_facts hp hi
            have := potP_tick (hook := hookOf d i) (grace := graceOf d i) (q := podAt s i) (ck := s.ck) ha' hpf.2.1.1 hpf.2.2.1 (hs i hi)
            have := hpw i hi hbi ha'
            omega
          · show lw + (pw - 1) + (if s.ba = 6 then 0 else 1 + over d s.ba) + 6 * d.n2 + d.n3 + 2 ≤ n - 1
            omega
  · have h4 : s.ph = 4 := by omega
    have hr := L.rel h4
    cases hh : heldB s
    · have e := tick_down (d := d) h4 hh
      have := (relW_in h).1
      rw [e]
      refine ⟨fun hx => absurd hx (by show ¬ (5 : Int) = 3; decide), fun hx => absurd hx (by show ¬ (5 : Int) = 4; decide), fun _ => by omega⟩
    · have e := tick_give (d := d) h4 hh
      rw [e]
      refine ⟨fun hx => absurd hx (by show ¬ s.ph = 3; omega), fun _ => ?_, fun hx => absurd hx (by show ¬ s.ph = 5; omega)⟩
      have hmle : ∀ i, i < d.n2 → mw ((turn s.mnts d.n2 (freeG d s) (fun _ _ x => x)).getD i (false, 0)) ≤ mw (mntAt s i) - (if freeB d s i then 1 else 0) := fun i hi => by
        rw [mntAt_turn h hi]
        have hm := mntAt_ok h hi
        cases hf : freeB d s i
        · simp
        · simp only [freeB, Bool.and_eq_true] at hf
          rw [if_pos rfl, if_pos rfl]
          unfold mw
          rw [if_pos hf.1.1]
          split <;> simp <;> omega
      have hdle : ∀ i, i < d.n3 → (if (turn s.devs d.n3 (giveG d s) (fun _ _ _ => false)).getD i false then 1 else 0 : Int) ≤ (if devAt s i then 1 else 0) - (if giveB d s i then 1 else 0) := fun i hi => by
        rw [devAt_turn h hi]
        cases hg : giveB d s i
        · simp
        · simp only [giveB, Bool.and_eq_true] at hg
          simp [hg.1]
      show sumB d.n2 (fun i => mw ((turn s.mnts d.n2 (freeG d s) (fun _ _ x => x)).getD i (false, 0))) + sumB d.n3 (fun i => if (turn s.devs d.n3 (giveG d s) (fun _ _ _ => false)).getD i false then 1 else 0) + 1 ≤ n - 1
      unfold relW at hr
      have m1 := sumB_le (n := d.n2) (f := fun i => mw ((turn s.mnts d.n2 (freeG d s) (fun _ _ x => x)).getD i (false, 0))) (g := fun i => mw (mntAt s i)) fun i hi => by
        have := hmle i hi
        show mw ((turn s.mnts d.n2 (freeG d s) (fun _ _ x => x)).getD i (false, 0)) ≤ mw (mntAt s i)
        split at this <;> omega
      have m2 := sumB_le (n := d.n3) (f := fun i => if (turn s.devs d.n3 (giveG d s) (fun _ _ _ => false)).getD i false then 1 else 0) (g := fun i => if devAt s i then 1 else 0) fun i hi => by
        have := hdle i hi
        show (if (turn s.devs d.n3 (giveG d s) (fun _ _ _ => false)).getD i false then 1 else 0 : Int) ≤ (if devAt s i then 1 else 0)
        generalize (if (turn s.devs d.n3 (giveG d s) (fun _ _ _ => false)).getD i false then 1 else 0 : Int) = y at this ⊢
        generalize (if devAt s i then 1 else 0 : Int) = z at this ⊢
        split at this <;> omega
      rcases some_goes h (hde (by omega)) hh with ⟨k, hk, hf⟩ | ⟨k, hk, hg⟩
      · have := sumB_lt (k := k) (n := d.n2) (f := fun i => mw ((turn s.mnts d.n2 (freeG d s) (fun _ _ x => x)).getD i (false, 0))) (g := fun i => mw (mntAt s i)) hk (fun i hi => by
          have := hmle i hi
          show mw ((turn s.mnts d.n2 (freeG d s) (fun _ _ x => x)).getD i (false, 0)) ≤ mw (mntAt s i)
          split at this <;> omega) (by
          have := hmle k hk
          rw [if_pos hf] at this
          show mw ((turn s.mnts d.n2 (freeG d s) (fun _ _ x => x)).getD k (false, 0)) < mw (mntAt s k)
          omega)
        omega
      · have := sumB_lt (k := k) (n := d.n3) (f := fun i => if (turn s.devs d.n3 (giveG d s) (fun _ _ _ => false)).getD i false then 1 else 0) (g := fun i => if devAt s i then 1 else 0) hk (fun i hi => by
          have := hdle i hi
          show (if (turn s.devs d.n3 (giveG d s) (fun _ _ _ => false)).getD i false then 1 else 0 : Int) ≤ (if devAt s i then 1 else 0)
          generalize (if (turn s.devs d.n3 (giveG d s) (fun _ _ _ => false)).getD i false then 1 else 0 : Int) = y at this ⊢
          generalize (if devAt s i then 1 else 0 : Int) = z at this ⊢
          split at this <;> omega) (by
          have := hdle k hk
          rw [if_pos hg] at this
          show (if (turn s.devs d.n3 (giveG d s) (fun _ _ _ => false)).getD k false then 1 else 0 : Int) < (if devAt s k then 1 else 0)
          omega)
        omega
end Go.Proofs.Ytchippjfpjiimaa
