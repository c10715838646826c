/-
  From the shutting on: what holds at every time, and that a tick is one less of the time that is left.
-/
import Derived.Test.YtchippjfpjiimaaTc
set_option linter.unusedVariables false
namespace Go.Proofs.Ytchippjfpjiimaa
open Go.RowKit

structure HoldsP (d : PlanD) (s : StD) : Prop where
  pod : ∀ i, i < d.n2 → (mntAt s i).1 = false → aliveB (podAt s (mpod d i)).1 = false
  par : ∀ i, i < d.n2 → 0 ≤ mpar d i → (mntAt s i).1 = true → (mntAt s (mpar d i).toNat).1 = true
  dev : ∀ i, i < d.n3 → devAt s i = false → (mntAt s (dmnt d i)).1 = false
structure Going (d : PlanD) (s : StD) : Prop where
  ok : StOk d s
  ph : 3 ≤ s.ph ∧ s.ph ≤ 5
  since : ∀ i, i < d.n0 → (podAt s i).2 ≤ s.ck
  later : s.ph = 3 → ∀ i, i < d.n0 → s.ba < bandOf d i → aliveB (podAt s i).1 = true → (podAt s i).1 = 0
  earlier : s.ph = 3 → ∀ i, i < d.n0 → bandOf d i < s.ba → aliveB (podAt s i).1 = false
  dead : 4 ≤ s.ph → ∀ i, i < d.n0 → aliveB (podAt s i).1 = false
  holds : HoldsP d s
  down : s.ph = 5 → heldB s = false
def over (d : PlanD) (b : Int) : Int := sumB 6 (fun k => if b < k then bandT d k else 0)
def mw (q : Bool × Int) : Int := if q.1 then q.2 + 1 else 0
def relW (d : PlanD) (s : StD) : Int := sumB d.n2 (fun i => mw (mntAt s i)) + sumB d.n3 (fun i => if devAt s i then 1 else 0)
structure Left (d : PlanD) (s : StD) (n : Int) : Prop where
  shut : s.ph = 3 → ∃ lw pw : Int, 0 ≤ lw ∧ 0 ≤ pw ∧ (s.lks = [] ∨ s.lb - 1 - s.ck ≤ lw) ∧ (∀ i, i < d.n0 → bandOf d i = s.ba → aliveB (podAt s i).1 = true → potP (hookOf d i) (graceOf d i) (podAt s i) s.ck ≤ pw) ∧
    lw + pw + (if s.ba = 6 then 0 else 1 + over d s.ba) + 6 * d.n2 + d.n3 + 2 ≤ n
  rel : s.ph = 4 → relW d s + 1 ≤ n
  done : s.ph = 5 → 0 ≤ n

theorem pod_facts {d : PlanD} (h : planOkB d = true) {i : Nat} (hi : i < d.n0) : (0 ≤ bandOf d i ∧ bandOf d i ≤ 5) ∧ (0 ≤ hookOf d i ∧ hookOf d i ≤ 500) ∧ (0 ≤ graceOf d i ∧ graceOf d i ≤ 500) := by
  have := planOk_pods h i hi
  simp only [podB, Bool.and_eq_true, inB_true] at this
  exact ⟨this.1.1.2, this.2, this.1.2⟩
theorem mount_facts {d : PlanD} (h : planOkB d = true) {i : Nat} (hi : i < d.n2) : mpod d i < d.n0 ∧ -1 ≤ mpar d i ∧ mpar d i < i := by
  simp only [planOkB, Bool.and_eq_true] at h
  have := allB_true.1 h.1.2 i hi
  simp only [mountB, Bool.and_eq_true, inB_true] at this
  unfold mpod mpar
  omega
theorem device_facts {d : PlanD} (h : planOkB d = true) {i : Nat} (hi : i < d.n3) : dmnt d i < d.n2 := by
  simp only [planOkB, Bool.and_eq_true] at h
  have := allB_true.1 h.2 i hi
  simp only [deviceB, inB_true] at this
  unfold dmnt
  omega
theorem hits_in {n : Nat} {f : Nat → Int} {i : Nat} (hi : i < n) : (i : Int) ∈ hits n f (f i) := by
  simp only [hits, List.mem_map, List.mem_filter, List.mem_range]
  exact ⟨i, ⟨hi, by simp⟩, rfl⟩
theorem band_mem {d : PlanD} (h : planOkB d = true) {i : Nat} (hi : i < d.n0) : bandOf d i ∈ bandsL d := by
  have hb := (pod_facts h hi).1
  simp only [bandsL, picks, List.mem_map, List.mem_filter, List.mem_range]
  refine ⟨(bandOf d i).toNat, ⟨by omega, ?_⟩, by omega⟩
  simp only [hasB, decide_eq_true_eq]
  refine List.length_pos_of_mem (a := (i : Int)) ?_
  have e : ((bandOf d i).toNat : Int) = bandOf d i := by omega
  rw [e]
  unfold podsL
  rw [found_yes h]
  exact hits_in (f := fun i => d.x0 (i * 4 + 1)) hi
theorem foldl_ge (d : PlanD) : ∀ (l : List Int) (a : Int), a ≤ l.foldl (fun n i => max n (timeOf d i.toNat)) a
  | [], a => Int.le_refl _
  | x :: l, a => Int.le_trans (show a ≤ max a (timeOf d x.toNat) by omega) (foldl_ge d l _)
theorem foldl_mem (d : PlanD) {y : Int} : ∀ (l : List Int) (a : Int), y ∈ l → timeOf d y.toNat ≤ l.foldl (fun n i => max n (timeOf d i.toNat)) a
  | [], a, h => by cases h
  | x :: l, a, h => by
    rcases List.mem_cons.1 h with rfl | h
    · exact Int.le_trans (show timeOf d y.toNat ≤ max a (timeOf d y.toNat) by omega) (foldl_ge d l _)
    · exact foldl_mem d l _ h
/-- A pod's whole time is in its band's. -/
theorem time_in {d : PlanD} (h : planOkB d = true) {i : Nat} (hi : i < d.n0) : hookOf d i + graceOf d i + 4 ≤ bandT d (bandOf d i) := by
  rw [bandT, if_pos h]
  unfold most podsL
  rw [found_yes h]
  have := foldl_mem d (y := (i : Int)) _ 0 (hits_in (f := fun i => d.x0 (i * 4 + 1)) hi)
  simpa [timeOf, hookOf, graceOf, bandOf] using this
theorem over_nonneg {d : PlanD} (h : planOkB d = true) (b : Int) : 0 ≤ over d b :=
  sumB_nonneg fun k _ => by
    have := bandT_bound h k
    show 0 ≤ (if b < (k : Int) then bandT d k else 0)
    split <;> omega
/-- The times of the bands behind b: the next one's, and of those behind that. -/
theorem over_next {d : PlanD} (h : planOkB d = true) {b : Int} (hn : nextL d b ∈ bandsL d) (hb : b < nextL d b) (hl : ∀ x ∈ bandsL d, b < x → nextL d b ≤ x) : over d b = bandT d (nextL d b) + over d (nextL d b) := by
  have hr := bandsL_mem hn
  generalize nextL d b = y at *
  obtain ⟨m, rfl⟩ : ∃ m : Nat, y = m := ⟨y.toNat, by omega⟩
  unfold over
  rw [sumB_over (f := fun k : Nat => bandT d k) hb (fun k h1 h2 => ?_) 6, if_pos (by omega)]
  · omega
  · refine bandT_none h fun hp => ?_
    have hm : (k : Int) ∈ bandsL d := by
      simp only [bandsL, picks, List.mem_map, List.mem_filter, List.mem_range]
      exact ⟨k, ⟨by omega, by simpa [hasB] using hp⟩, rfl⟩
    have := hl _ hm h1
    omega
theorem mw_in {d : PlanD} {s : StD} (h : StOk d s) {i : Nat} (hi : i < d.n2) : 0 ≤ mw (mntAt s i) ∧ mw (mntAt s i) ≤ 6 := by
  have := (mntAt_ok h hi).1
  unfold mw
  split <;> omega
theorem relW_in {d : PlanD} {s : StD} (h : StOk d s) : 0 ≤ relW d s ∧ relW d s ≤ 6 * d.n2 + d.n3 := by
  have h1 := sumB_nonneg (n := d.n2) (f := fun i => mw (mntAt s i)) fun i hi => (mw_in h hi).1
  have h2 := sumB_max (n := d.n2) (m := 6) (f := fun i => mw (mntAt s i)) fun i hi => (mw_in h hi).2
  have h3 := sumB_nonneg (n := d.n3) (f := fun i => if devAt s i then 1 else 0) fun i hi => by show (0 : Int) ≤ (if devAt s i then 1 else 0); split <;> omega
  have h4 := sumB_max (n := d.n3) (m := 1) (f := fun i => if devAt s i then 1 else 0) fun i hi => by show (if devAt s i then 1 else 0 : Int) ≤ 1; split <;> omega
  unfold relW
  omega

theorem liveB_iff {d : PlanD} {s : StD} {b : Int} : liveB d s b = true ↔ ∃ i, i < d.n0 ∧ bandOf d i = b ∧ aliveB (podAt s i).1 = true := by
  simp [liveB]
theorem liveB_no {d : PlanD} {s : StD} {b : Int} (h : liveB d s b = false) {i : Nat} (hi : i < d.n0) (hb : bandOf d i = b) : aliveB (podAt s i).1 = false := by
  cases ha : aliveB (podAt s i).1
  · rfl
  · have := liveB_iff.2 ⟨i, hi, hb, ha⟩
    rw [h] at this
    cases this
/-- A pod behind a step of its band. -/
theorem podAt_turn {d : PlanD} {s : StD} (h : StOk d s) {b c : Int} {i : Nat} (hi : i < d.n0) :
    (turn s.pods d.n0 (stepG d s b c) (fun _ _ x => (x, c))).getD i (0, 0) = if bandOf d i = b ∧ aliveB (podAt s i).1 = true then (if podStep (hookOf d i) (graceOf d i) (podAt s i) c = (podAt s i).1 then podAt s i else (podStep (hookOf d i) (graceOf d i) (podAt s i) c, c)) else podAt s i := by
  have hl : i < s.pods.length := by rw [h.np]; exact hi
  rw [turn_getD hl hi]
  unfold stepG
  by_cases h1 : bandOf d i = b ∧ aliveB (podAt s i).1 = true
  · rw [if_pos h1, if_pos h1]
    by_cases h2 : podStep (hookOf d i) (graceOf d i) (podAt s i) c = (podAt s i).1
    · rw [if_pos h2, if_pos h2]; rfl
    · rw [if_neg h2, if_neg h2]
  · rw [if_neg h1, if_neg h1]; rfl
theorem potP_mono {hook grace : Int} {q : Int × Int} {ck : Int} : potP hook grace q (ck + 1) ≤ potP hook grace q ck := by
  unfold potP
  repeat' split
  all_goals omega

theorem mntAt_turn {d : PlanD} {s : StD} (h : StOk d s) {i : Nat} (hi : i < d.n2) :
    (turn s.mnts d.n2 (freeG d s) (fun _ _ x => x)).getD i (false, 0) = if freeB d s i then (if 0 < (mntAt s i).2 then (true, (mntAt s i).2 - 1) else (false, 0)) else mntAt s i := by
  have hl : i < s.mnts.length := by rw [h.nm]; exact hi
  rw [turn_getD hl hi]
  unfold freeG
  by_cases h1 : freeB d s i
  · rw [if_pos h1, if_pos h1]
  · rw [if_neg h1, if_neg h1]; rfl
theorem devAt_turn {d : PlanD} {s : StD} (h : StOk d s) {i : Nat} (hi : i < d.n3) :
    (turn s.devs d.n3 (giveG d s) (fun _ _ _ => false)).getD i false = if giveB d s i then false else devAt s i := by
  have hl : i < s.devs.length := by rw [h.nd]; exact hi
  rw [turn_getD hl hi]
  unfold giveG
  by_cases h1 : giveB d s i
  · rw [if_pos h1, if_pos h1]
  · rw [if_neg h1, if_neg h1]; rfl
theorem greatest {n : Nat} {p : Nat → Bool} (h : ∃ i, i < n ∧ p i = true) : ∃ i, i < n ∧ p i = true ∧ ∀ j, j < n → i < j → p j = false := by
  induction n with
  | zero => obtain ⟨i, hi, _⟩ := h; omega
  | succ n ih =>
    cases hp : p n
    · obtain ⟨i, hi, hpi⟩ := h
      have hne : i ≠ n := fun e => by rw [e, hp] at hpi; cases hpi
      obtain ⟨k, hk, hpk, hall⟩ := ih ⟨i, by omega, hpi⟩
      refine ⟨k, by omega, hpk, fun j hj hkj => ?_⟩
      by_cases e : j = n
      · rw [e]; exact hp
      · exact hall j (by omega) hkj
    · exact ⟨n, by omega, hp, fun j hj hlt => by omega⟩
theorem heldB_iff {d : PlanD} {s : StD} (h : StOk d s) : heldB s = true ↔ (∃ i, i < d.n2 ∧ (mntAt s i).1 = true) ∨ ∃ i, i < d.n3 ∧ devAt s i = true := by
  unfold heldB
  rw [Bool.or_eq_true, List.any_eq_true, List.any_eq_true]
  have hm := h.nm
  have hd := h.nd
  constructor
  · rintro (⟨q, hq, h1⟩ | ⟨q, hq, h1⟩)
    · obtain ⟨i, hi, rfl⟩ := List.getElem_of_mem hq
      exact .inl ⟨i, by omega, by simpa [mntAt, List.getD, hi] using h1⟩
    · obtain ⟨i, hi, rfl⟩ := List.getElem_of_mem hq
      exact .inr ⟨i, by omega, by simpa [devAt, List.getD, hi] using h1⟩
  · rintro (⟨i, hi, h1⟩ | ⟨i, hi, h1⟩)
    · have hl : i < s.mnts.length := by omega
      exact .inl ⟨s.mnts[i], List.getElem_mem hl, by simpa [mntAt, List.getD, hl] using h1⟩
    · have hl : i < s.devs.length := by omega
      exact .inr ⟨s.devs[i], List.getElem_mem hl, by simpa [devAt, List.getD, hl] using h1⟩
/-- Where nobody is alive, something may be given back, till all is. -/
theorem some_goes {d : PlanD} {s : StD} (h : StOk d s) (hd : ∀ i, i < d.n0 → aliveB (podAt s i).1 = false) (hh : heldB s = true) : (∃ i, i < d.n2 ∧ freeB d s i = true) ∨ ∃ i, i < d.n3 ∧ giveB d s i = true := by
  by_cases hm : ∃ i, i < d.n2 ∧ (mntAt s i).1 = true
  · obtain ⟨i, hi, h1, hall⟩ := greatest (p := fun i => (mntAt s i).1) hm
    refine .inl ⟨i, hi, ?_⟩
    simp only [freeB, Bool.and_eq_true, h1, hd _ (mount_facts h.plan hi).1, List.all_eq_true, List.mem_range, Bool.not_false, true_and]
    intro j hj
    cases h2 : (mntAt s j).1
    · simp
    · have h3 : ¬ i < j := fun hlt => by
        have h4 : (mntAt s j).1 = false := hall j hj hlt
        rw [h2] at h4
        cases h4
      have := (mount_facts h.plan hj).2.2
      have hne : ¬ mpar d j = i := by omega
      simp [hne]
  · rcases (heldB_iff h).1 hh with h1 | ⟨i, hi, h1⟩
    · exact absurd h1 hm
    · refine .inr ⟨i, hi, ?_⟩
      have h2 : (mntAt s (dmnt d i)).1 = false := by
        cases h3 : (mntAt s (dmnt d i)).1
        · rfl
        · exact absurd ⟨_, device_facts h.plan hi, h3⟩ hm
      simp [giveB, h1, h2]
end Go.Proofs.Ytchippjfpjiimaa
