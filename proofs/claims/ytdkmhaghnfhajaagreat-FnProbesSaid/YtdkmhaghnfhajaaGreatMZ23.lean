/-
  Bytes as a string; lists of records compared by the law.
-/
import Derived.Test.YtdkmhaghnfhajaaGreatMZ3
import Derived.Test.YtdkmhaghnfhajaaGreatMZ13
import Derived.Test.YtdkmhaghnfhajaaGreatMZ17
import Derived.Test.YtdkmhaghnfhajaaGreatMZ12
import Derived.Test.YtdkmhaghnfhajaaGreatMZ18
import Derived.Test.YtdkmhaghnfhajaaGreatMZxVlA
import Derived.Test.YtdkmhaghnfhajaaGreatMZ9
import Derived.Test.YtdkmhaghnfhajaaGreatMZ6
import Derived.Laws.BytesArg
import Derived.BigQuiet
import Derived.Deep.QuietTactic
/- Tr -/
set_option linter.unusedVariables false
namespace Go.Proofs.YtdkmhaghnfhajaaGreat
open Go.RowKit

/-- What an order makes of a state, where what is planned goes. -/
def Made1 (d : PlanD) (s : StD) (k a b : Int) (x : StD) : Prop := ((plannedD d s k a b).2 ≠ 0 → x = s) ∧ ((plannedD d s k a b).2 = 0 → runR d s (plannedD d s k a b).1 = some x)
def PhLow (d : PlanD) (s : StD) (p : List RecD × Int) : Prop := p.2 = 0 → ∀ x, runR d s p.1 = some x → x.ph ≤ 2
theorem PhLow.no {d : PlanD} {s : StD} {c : Int} (h : c ≠ 0) : PhLow d s ([], c) := fun e => absurd e h
theorem PhLow.one {d : PlanD} {s : StD} {r : RecD} (h : (applyR s r).ph ≤ 2) : PhLow d s ([r], 0) := fun _ x hx => by rw [run_one hx]; exact h
end Go.Proofs.YtdkmhaghnfhajaaGreat
/- Ts -/
set_option linter.unusedVariables false
namespace Go.Proofs.YtdkmhaghnfhajaaGreat
open Go.RowKit

/-- Behind another boot: nobody is alive, nothing is held. -/
structure After (d : PlanD) (s : StD) : Prop where
  ok : StOk d s
  since : ∀ i, i < d.n0 → (podAt s i).2 ≤ s.ck
  dead : ∀ i, i < d.n0 → aliveB (podAt s i).1 = false
  held : heldB s = false
theorem held_mnt {d : PlanD} {s : StD} (h : StOk d s) (hh : heldB s = false) {i : Nat} (hi : i < d.n2) : (mntAt s i).1 = false := by
  cases e : (mntAt s i).1
  · rfl
  · have := (heldB_iff h).2 (.inl ⟨i, hi, e⟩)
    rw [hh] at this; cases this
theorem After.holds {d : PlanD} {s : StD} (A : After d s) : HoldsP d s := by
  have hp := A.ok.plan
  refine ⟨fun i hi _ => A.dead _ (mount_facts hp hi).1, fun i hi h0 hm => ?_, fun i hi _ => held_mnt A.ok A.held (device_facts hp hi)⟩
  rw [held_mnt A.ok A.held hi] at hm; cases hm
theorem After.same {d : PlanD} {s x : StD} (A : After d s) (hx : StOk d x) (hp : x.pods = s.pods) (hm : x.mnts = s.mnts) (hd : x.devs = s.devs) (hc : s.ck ≤ x.ck) : After d x := by
  have hpa : ∀ i, podAt x i = podAt s i := fun i => by unfold podAt; rw [hp]
  refine ⟨hx, fun i hi => by rw [hpa]; have := A.since i hi; omega, fun i hi => by rw [hpa]; exact A.dead i hi, ?_⟩
  have := A.held
  unfold heldB at this ⊢
  rw [hm, hd]; exact this
theorem After.before {d : PlanD} {s : StD} (A : After d s) : Before d s := ⟨A.ok, A.since, fun i hi ha => (by rw [A.dead i hi] at ha; cases ha), A.holds⟩
/-- Where a machine is in its life. -/
inductive Where (d : PlanD) (s : StD) : Prop
  | ahead (h : s.ph ≤ 2) (B : Before d s) : Where d s
  | going (n : Int) (G : Going d s) (L : Left d s n) : Where d s
  | back (h : 6 ≤ s.ph) (A : After d s) : Where d s
theorem Where.ok {d : PlanD} {s : StD} (W : Where d s) : StOk d s := by
  cases W with
  | ahead h B => exact B.ok
  | going n G L => exact G.ok
  | back h A => exact A.ok
theorem Where.since {d : PlanD} {s : StD} (W : Where d s) : ∀ i, i < d.n0 → (podAt s i).2 ≤ s.ck := by
  cases W with
  | ahead h B => exact B.since
  | going n G L => exact G.since
  | back h A => exact A.since
theorem Where.holds {d : PlanD} {s : StD} (W : Where d s) : HoldsP d s := by
  cases W with
  | ahead h B => exact B.holds
  | going n G L => exact G.holds
  | back h A => exact A.holds
/-- .. and how many probes, one after the other, were good. -/
structure Life (d : PlanD) (s : StD) (good : Int) : Prop where
  wh : Where d s
  prb : Prb d s
  gd : (s.ph = 6 ∨ s.ph = 7) → s.gd = good ∧ s.gd < d.p
/-- How many good ones there are behind an order. -/
def nextGood (d : PlanD) (s : StD) (k a b good : Int) : Int :=
  if (plannedD d s k a b).2 = 0 then (if k = 13 then (if a = 0 then 0 else good + 1) else if k = 12 then 0 else good) else good
/-- What the law asks of an order. -/
structure Step1 (d : PlanD) (s x : StD) (k a b good : Int) : Prop where
  made : Made1 d s k a b x
  life : Life d x (if x.ph = 0 then 0 else nextGood d s k a b good)
  lift : s.ph ≠ 0 → x.ph = 0 → (k = 5 ∧ s.ph ≤ 2) ∨ (k = 13 ∧ nextGood d s k a b good = d.p)
  back : x.ph < s.ph → x.ph ≠ 0 → k = 12
  ck : x.ck ≤ s.ck + 1
/-- The cordon stays. -/
def PhKeep (d : PlanD) (s : StD) (p : List RecD × Int) : Prop := p.2 = 0 → s.ph ≠ 0 → ∀ x, runR d s p.1 = some x → x.ph ≠ 0
theorem PhKeep.no {d : PlanD} {s : StD} {c : Int} (h : c ≠ 0) : PhKeep d s ([], c) := fun e => absurd e h
theorem PhKeep.one {d : PlanD} {s : StD} {r : RecD} (h : s.ph ≠ 0 → (applyR s r).ph ≠ 0) : PhKeep d s ([r], 0) := fun _ h0 x hx => by rw [run_one hx]; exact h h0
theorem PhKeep.shut {d : PlanD} {s : StD} {y z : Int} : PhKeep d s ([⟨11, y, 0⟩, ⟨9, z, 0⟩, ⟨1, 3, 0⟩], 0) := fun _ _ x hx => by
  rw [run_fold hx]
  simp [applyR]
end Go.Proofs.YtdkmhaghnfhajaaGreat
/- Tt -/
set_option linter.unusedVariables false
namespace Go.Proofs.YtdkmhaghnfhajaaGreat
open Go.RowKit

end Go.Proofs.YtdkmhaghnfhajaaGreat
/- To -/
set_option linter.unusedVariables false
namespace Go.Proofs.YtdkmhaghnfhajaaGreat
open Go.RowKit

theorem probe_next {d : PlanD} {s : StD} {good : Bool} (h : StOk d s) (hp : s.ph = 6 ∨ s.ph = 7) (ht : s.pr < d.t) : ∃ x, runR d s (probeL d s good) = some x ∧ StOk d x ∧
    (d.p ≤ probeN s good ∧ x.ph = 0 ∧ x.co = false ∨ probeN s good < d.p ∧ d.t ≤ s.pr + 1 ∧ x.ph = 8 ∧ x.co = true ∨
      probeN s good < d.p ∧ s.pr + 1 < d.t ∧ x.ph = 7 ∧ x.co = true ∧ x.gd = probeN s good ∧ x.pr = s.pr + 1) := by
  have hg := h.gd
  have hpl := planOk_tries h.plan
  have hn : 0 ≤ probeN s good ∧ probeN s good ≤ s.pr + 1 := by unfold probeN; split <;> omega
  have h1 : StOk d (applyR s ⟨12, probeN s good, s.pr + 1⟩) := ok_probe h hn (by omega)
  have g1 : goodR d s ⟨12, probeN s good, s.pr + 1⟩ = true := goodR_of (by rw [recOkB_true]; simp only []; omega) rfl h1
  unfold probeL
  rw [runR, if_pos g1]
  split
  · rename_i c1
    exact ⟨_, runR_one (goodR_of (by decide) rfl (ok_idle h1)), ok_idle h1, .inl ⟨c1, rfl, rfl⟩⟩
  · rename_i c1
    split
    · rename_i c2
      exact ⟨_, runR_one (goodR_of (by decide) rfl (ok_phase h1 (by decide))), ok_phase h1 (by decide), .inr (.inl ⟨by omega, c2, rfl, rfl⟩)⟩
    · rename_i c2
      split
      · exact ⟨_, runR_one (goodR_of (by decide) rfl (ok_phase h1 (by decide))), ok_phase h1 (by decide), .inr (.inr ⟨by omega, by omega, rfl, rfl, rfl, rfl⟩)⟩
      · rename_i c3
        have h7 : s.ph = 7 := by omega
        refine ⟨_, rfl, h1, .inr (.inr ⟨by omega, by omega, h7, ?_, rfl, rfl⟩)⟩
        have : s.co = true := by rw [h.co, h7]; rfl
        exact this
/-- What another boot leaves of a right state that is not down yet: booted, shut, nothing counted. -/
theorem boot_begin {d : PlanD} {s : StD} {id : Int} (h8 : s.ph ≠ 8) : (bootS d s id).ph = 6 ∧ (bootS d s id).co = true ∧ (bootS d s id).gd = 0 ∧ (bootS d s id).pr = 0 := by
  refine ⟨?_, rfl, rfl, rfl⟩
  show (if s.ph = 8 then (8 : Int) else 6) = 6
  rw [if_neg h8]
end Go.Proofs.YtdkmhaghnfhajaaGreat
/- Op -/
set_option linter.unusedVariables false
namespace Go.Proofs.YtdkmhaghnfhajaaGreat
open Go.RowKit

/-- A probe of one that is coming back: let in by the last of so many good ones, one after the other; failed by the last try; or it goes on. -/
theorem probe_good {d : PlanD} {x : StD} {n run : Int} {good : Bool} (h : StOk d x) (hp : x.ph = 6 ∨ x.ph = 7) (hpr : x.pr + 1 = n) (hgd : x.gd = run) (hrun : run < d.p) (hn : n ≤ d.t) :
    ∃ y l, (if stOkB d x then probeD d x good else noR 1) = (l, 0) ∧ appliedL d x l = (y, true) ∧ StOk d y ∧
      ((if good then run + 1 else 0) = d.p ∧ y.ph = 0 ∧ y.co = false ∨ (if good then run + 1 else 0) < d.p ∧ n = d.t ∧ y.ph = 8 ∧ y.co = true ∨
        (if good then run + 1 else 0) < d.p ∧ n < d.t ∧ y.ph = 7 ∧ y.co = true ∧ y.gd = (if good then run + 1 else 0) ∧ y.pr = n) := by
  obtain ⟨y, hy, hk, hc⟩ := probe_next (good := good) h hp (by omega)
  have hpp := planOk_tries h.plan
  have e : probeN x good = if good then run + 1 else 0 := by rw [probeN, hgd]
  rw [e] at hc
  refine ⟨y, probeL d x good, by rw [if_pos (stOkB_iff.2 h), probeD, if_pos hp], by rw [appliedL, if_pos (stOkB_iff.2 h), hy], hk, ?_⟩
  generalize hr : (if good then run + 1 else 0) = r at hc ⊢
  have hr1 : r ≤ d.p := by
    rw [← hr]
    split <;> omega
  rcases hc with ⟨c1, c2, c3⟩ | ⟨c1, c2, c3, c4⟩ | ⟨c1, c2, c3, c4, c5, c6⟩
  · exact .inl ⟨by omega, c2, c3⟩
  · exact .inr (.inl ⟨c1, by omega, c3, c4⟩)
  · exact .inr (.inr ⟨c1, by omega, c3, c4, c5, by omega⟩)
/-- A new machine that boots: applied, and it is coming back. -/
theorem boot_new {d : PlanD} (hok : planOkB d = true) : ∃ l x, (if stOkB d (newS d) then bootD d (newS d) 5 else noR 1) = (l, 0) ∧ appliedL d (newS d) l = (x, true) ∧ StOk d x ∧ x.ph = 6 ∧ x.gd = 0 ∧ x.pr = 0 := by
  have h := newS_ok hok
  refine ⟨bootL d (newS d) 5, bootS d (newS d) 5, ?_, by rw [appliedL, if_pos (stOkB_iff.2 h), boot_run h (by decide)], boot_ok h (by decide), ?_⟩
  · rw [if_pos (stOkB_iff.2 h), bootD, if_pos (by decide), if_neg (show ¬ (5 : Int) = (newS d).bo from by rw [newS, if_pos hok]; show ¬ (5 : Int) = 0; decide)]
  · have := boot_begin (d := d) (s := newS d) (id := 5) (by rw [newS, if_pos hok]; show ¬ (0 : Int) = 8; decide)
    exact ⟨this.1, this.2.2.1, this.2.2.2⟩

end Go.Proofs.YtdkmhaghnfhajaaGreat
/- Dk -/
set_option linter.unusedVariables false
namespace Go.Proofs.YtdkmhaghnfhajaaGreat
open Go.RowKit

set_option maxRecDepth 100000 in
set_option maxHeartbeats 1000000 in
theorem likeRecs_same (v v' : Value) (l : List RecD) (w : World) (h : Rt w w.heap.size v l) (h' : Rt w w.heap.size v' l) :
    Calls Tryz.prog 39 #[v, v'] w fun e w' => e = .returned (.bool true) ∧ Below w.heap.size w w' := by
  have H := Lib.hid h
  have H' := Lib.hid h'
  obtain ⟨⟨A, c, rfl, -⟩, hl⟩ := h
  obtain ⟨⟨A', c', rfl, -⟩, -⟩ := h'
  have hl' : l.length ≤ 2 ^ 63 - 1 := by unfold maxLen at hl; omega
  clear hl
  generalize hq : l.length = n at *
  have HQ := Lib.hid hq
  clear hq
  go_enter Tryz.func39, Tryz.ntmps39
  go_wp2
  go_loopw [5] (fun i wr => ∃ k : Nat, k ≤ n ∧ i = .int .i64 k ∧ Below w.heap.size w wr) (fun i _ => n - (intOf i).toNat)
  case atStart => exact ⟨0, Nat.zero_le _, rfl, Below.refl _ _⟩
  case round =>
    obtain ⟨k, hk, rfl, K⟩ := hrel
    by_cases hlt : k < n
    · obtain ⟨b, off, rfl, hb, q0, q1, q2⟩ := (H.out.below K (Nat.le_refl _)).cell (i := k) (by rw [HQ.out]; exact hlt)
      obtain ⟨b', off', rfl, hb', r0, r1, r2⟩ := (H'.out.below K (Nat.le_refl _)).cell (i := k) (by rw [HQ.out]; exact hlt)
      generalize recAt l k = r at *
      obtain ⟨rk, ra, rb⟩ := r
      dsimp only at q0 q1 q2 r0 r1 r2
      go_wp2_with fail
      go_quiet (fail)
      go_wp2
      exact ⟨⟨k + 1, by omega, by go_num, below_drewN K _⟩, by simp [intOf]; omega⟩
    · obtain rfl : k = n := by omega
      go_wp2
      go_ret
      exact ⟨rfl, K⟩
end Go.Proofs.YtdkmhaghnfhajaaGreat
