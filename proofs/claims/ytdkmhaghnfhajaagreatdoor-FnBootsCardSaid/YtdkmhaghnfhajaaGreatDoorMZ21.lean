/-
  What FnTicks and FnBoots ask, as data.
-/
import Derived.Test.YtdkmhaghnfhajaaGreatDoorMZ3
import Derived.Test.YtdkmhaghnfhajaaGreatDoorMZ14
import Derived.Test.YtdkmhaghnfhajaaGreatDoorMZ17
/- Tr -/
set_option linter.unusedVariables false
namespace Go.Proofs.YtdkmhaghnfhajaaGreatDoor
open Go.RowKit

/-- What an order makes of a state, where what is planned goes. -/
def Made1 (d : PlanD) (s : StD) (k a b : Int) (x : StD) : Prop := ((plannedD d s k a b).2 ≠ 0 → x = s) ∧ ((plannedD d s k a b).2 = 0 → runR d s (plannedD d s k a b).1 = some x)
def PhLow (d : PlanD) (s : StD) (p : List RecD × Int) : Prop := p.2 = 0 → ∀ x, runR d s p.1 = some x → x.ph ≤ 2
theorem PhLow.no {d : PlanD} {s : StD} {c : Int} (h : c ≠ 0) : PhLow d s ([], c) := fun e => absurd e h
theorem PhLow.one {d : PlanD} {s : StD} {r : RecD} (h : (applyR s r).ph ≤ 2) : PhLow d s ([r], 0) := fun _ x hx => by rw [run_one hx]; exact h
end Go.Proofs.YtdkmhaghnfhajaaGreatDoor
/- Ts -/
set_option linter.unusedVariables false
namespace Go.Proofs.YtdkmhaghnfhajaaGreatDoor
open Go.RowKit

/-- Behind another boot: nobody is alive, nothing is held. -/
structure After (d : PlanD) (s : StD) : Prop where
  ok : StOk d s
  since : ∀ i, i < d.n0 → (podAt s i).2 ≤ s.ck
  dead : ∀ i, i < d.n0 → aliveB (podAt s i).1 = false
  held : heldB s = false
theorem held_mnt {d : PlanD} {s : StD} (h : StOk d s) (hh : heldB s = false) {i : Nat} (hi : i < d.n2) : (mntAt s i).1 = false := by
  cases e : (mntAt s i).1
  · rfl
  · have := (heldB_iff h).2 (.inl ⟨i, hi, e⟩)
    rw [hh] at this; cases this
theorem After.holds {d : PlanD} {s : StD} (A : After d s) : HoldsP d s := by
  have hp := A.ok.plan
  refine ⟨fun i hi _ => A.dead _ (mount_facts hp hi).1, fun i hi h0 hm => ?_, fun i hi _ => held_mnt A.ok A.held (device_facts hp hi)⟩
  rw [held_mnt A.ok A.held hi] at hm; cases hm
theorem After.same {d : PlanD} {s x : StD} (A : After d s) (hx : StOk d x) (hp : x.pods = s.pods) (hm : x.mnts = s.mnts) (hd : x.devs = s.devs) (hc : s.ck ≤ x.ck) : After d x := by
  have hpa : ∀ i, podAt x i = podAt s i := fun i => by unfold podAt; rw [hp]
  refine ⟨hx, fun i hi => by rw [hpa]; have := A.since i hi; omega, fun i hi => by rw [hpa]; exact A.dead i hi, ?_⟩
  have := A.held
  unfold heldB at this ⊢
  rw [hm, hd]; exact this
theorem After.before {d : PlanD} {s : StD} (A : After d s) : Before d s := ⟨A.ok, A.since, fun i hi ha => (by rw [A.dead i hi] at ha; cases ha), A.holds⟩
/-- Where a machine is in its life. -/
inductive Where (d : PlanD) (s : StD) : Prop
  | ahead (h : s.ph ≤ 2) (B : Before d s) : Where d s
  | going (n : Int) (G : Going d s) (L : Left d s n) : Where d s
  | back (h : 6 ≤ s.ph) (A : After d s) : Where d s
theorem Where.ok {d : PlanD} {s : StD} (W : Where d s) : StOk d s := by
  cases W with
  | ahead h B => exact B.ok
  | going n G L => exact G.ok
  | back h A => exact A.ok
theorem Where.since {d : PlanD} {s : StD} (W : Where d s) : ∀ i, i < d.n0 → (podAt s i).2 ≤ s.ck := by
  cases W with
  | ahead h B => exact B.since
  | going n G L => exact G.since
  | back h A => exact A.since
theorem Where.holds {d : PlanD} {s : StD} (W : Where d s) : HoldsP d s := by
  cases W with
  | ahead h B => exact B.holds
  | going n G L => exact G.holds
  | back h A => exact A.holds
/-- .. and how many probes, one after the other, were good. -/
structure Life (d : PlanD) (s : StD) (good : Int) : Prop where
  wh : Where d s
  prb : Prb d s
  gd : (s.ph = 6 ∨ s.ph = 7) → s.gd = good ∧ s.gd < d.p
/-- How many good ones there are behind an order. -/
def nextGood (d : PlanD) (s : StD) (k a b good : Int) : Int :=
  if (plannedD d s k a b).2 = 0 then (if k = 13 then (if a = 0 then 0 else good + 1) else if k = 12 then 0 else good) else good
/-- What the law asks of an order. -/
structure Step1 (d : PlanD) (s x : StD) (k a b good : Int) : Prop where
  made : Made1 d s k a b x
  life : Life d x (if x.ph = 0 then 0 else nextGood d s k a b good)
  lift : s.ph ≠ 0 → x.ph = 0 → (k = 5 ∧ s.ph ≤ 2) ∨ (k = 13 ∧ nextGood d s k a b good = d.p)
  back : x.ph < s.ph → x.ph ≠ 0 → k = 12
  ck : x.ck ≤ s.ck + 1
/-- The cordon stays. -/
def PhKeep (d : PlanD) (s : StD) (p : List RecD × Int) : Prop := p.2 = 0 → s.ph ≠ 0 → ∀ x, runR d s p.1 = some x → x.ph ≠ 0
theorem PhKeep.no {d : PlanD} {s : StD} {c : Int} (h : c ≠ 0) : PhKeep d s ([], c) := fun e => absurd e h
theorem PhKeep.one {d : PlanD} {s : StD} {r : RecD} (h : s.ph ≠ 0 → (applyR s r).ph ≠ 0) : PhKeep d s ([r], 0) := fun _ h0 x hx => by rw [run_one hx]; exact h h0
theorem PhKeep.shut {d : PlanD} {s : StD} {y z : Int} : PhKeep d s ([⟨11, y, 0⟩, ⟨9, z, 0⟩, ⟨1, 3, 0⟩], 0) := fun _ _ x hx => by
  rw [run_fold hx]
  simp [applyR]
end Go.Proofs.YtdkmhaghnfhajaaGreatDoor
/- Tt -/
set_option linter.unusedVariables false
namespace Go.Proofs.YtdkmhaghnfhajaaGreatDoor
open Go.RowKit

theorem podStep_ge {hook grace : Int} {q : Int × Int} {c : Int} : q.1 ≤ podStep hook grace q c := by
  unfold podStep
  repeat' split
  all_goals omega
/-- Behind a tick no pod is less far, and but in the shutting all pods are as they were. -/
theorem tick_pods {d : PlanD} {s : StD} (h : StOk d s) {i : Nat} (hi : i < d.n0) : (podAt s i).1 ≤ (podAt (tickS d s) i).1 ∧ (s.ph ≠ 3 → podAt (tickS d s) i = podAt s i) := by
  have hl : i < s.pods.length := by rw [h.np]; exact hi
  have hturn : (podAt s i).1 ≤ ((turn s.pods d.n0 (stepG d s s.ba (s.ck + 1)) (fun _ _ x => (x, s.ck + 1))).getD i (0, 0)).1 := by
    rw [turn_getD hl hi]
    unfold stepG
    split
    · rename_i x hx
      split at hx
      · split at hx
        · cases hx
        · cases hx
          exact podStep_ge
      · cases hx
    · exact Int.le_refl _
  refine ⟨?_, fun h3 => ?_⟩
  · unfold tickS
    split
    · split
      · exact Int.le_refl _
      · split
        · exact Int.le_refl _
        · split
          · exact hturn
          · exact Int.le_refl _
    · split
      · split <;> exact Int.le_refl _
      · exact Int.le_refl _
  · unfold tickS
    rw [if_neg h3]
    split
    · split <;> rfl
    · rfl
theorem tick_ph {d : PlanD} {s : StD} : s.ph ≤ (tickS d s).ph := by
  unfold tickS
  repeat' split
  all_goals first | exact Int.le_refl _ | (dsimp only; omega)
theorem tick_len {d : PlanD} {s : StD} (h : StOk d s) (hc : s.ck < 1000000) : (tickS d s).pods.length = s.pods.length := by rw [(tick_ok h hc).np, h.np]
/-- Behind another boot: a pod has turned just if it was alive, and then it has failed. -/
theorem boot_pods {d : PlanD} {s : StD} {id : Int} (h : StOk d s) {i : Nat} (hi : i < d.n0) : (aliveB (podAt s i).1 = true → podAt (bootS d s id) i = (5, s.ck) ∧ podAt (bootS d s id) i ≠ podAt s i) ∧ (aliveB (podAt s i).1 = false → podAt (bootS d s id) i = podAt s i) := by
  have hl : i < s.pods.length := by rw [h.np]; exact hi
  have e : podAt (bootS d s id) i = (match failG s i with | some x => (x, s.ck) | none => podAt s i) := by
    unfold podAt bootS
    dsimp only
    rw [turn_getD hl hi (f := fun _ _ x => (x, s.ck)) (g := failG s) (z := ((0, 0) : Int × Int))]
    cases failG s i <;> rfl
  refine ⟨fun ha => ?_, fun ha => ?_⟩
  · have e2 : failG s i = some 5 := by unfold failG; rw [if_pos ha]
    rw [e, e2]
    refine ⟨rfl, fun hh => ?_⟩
    rw [← hh] at ha
    cases ha
  · have e2 : failG s i = none := by unfold failG; rw [ha]; rfl
    rw [e, e2]
end Go.Proofs.YtdkmhaghnfhajaaGreatDoor
