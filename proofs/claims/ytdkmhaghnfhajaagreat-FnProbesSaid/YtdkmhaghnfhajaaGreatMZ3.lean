/-
  The model's l6With, at a list that rises.
-/
import Derived.Test.YtdkmhaghnfhajaaGreatMZ2
import Derived.Test.YtdkmhaghnfhajaaGreatMZ0
import Derived.BigQuiet
import Derived.Deep.QuietTactic
import Derived.StillTailTactics
import Derived.Deep.RegionHeld3
import Derived.Laws.AppendOwnNone
import Derived.Deep.AppendLies
import Derived.OwnWalk
/- Tg -/
set_option linter.unusedVariables false
namespace Go.Proofs.YtdkmhaghnfhajaaGreat
open Go.RowKit

/-- Chapter 8, of a right state. -/
def healthyN (d : PlanD) (s : StD) (g : Int) : Int := ((List.range d.n0).countP fun i => decide (d.x0 (i * 4) = g) && decide ((podAt s i).1 = 0) : Nat)
def mayEvictB (d : PlanD) (s : StD) (i : Int) : Bool :=
  decide (s.ph = 2) && inB i 0 (d.n0 - 1) && decide ((podAt s i.toNat).1 = 0) && decide (d.x1 (d.x0 (i.toNat * 4)).toNat < healthyN d s (d.x0 (i.toNat * 4)))

/-- Chapter 10, of a right state: the records and the code. -/
def noR (c : Int) : List RecD × Int := ([], c)
def oneR (k a b : Int) : List RecD × Int := ([⟨k, a, b⟩], 0)
def phaseD (s : StD) (f t : Int) : List RecD × Int := if s.ph = f then oneR 1 t 0 else noR 3
def evictD (d : PlanD) (s : StD) (a : Int) : List RecD × Int :=
  if inB a 0 (d.n0 - 1) = false then noR 2 else if s.ph ≠ 2 then noR 3 else if (podAt s a.toNat).1 ≠ 0 then noR 4 else if mayEvictB d s a = false then noR 5 else oneR 2 a 6
def shutD (d : PlanD) (s : StD) : List RecD × Int :=
  if s.ph = 1 ∨ s.ph = 2 then ([⟨11, min (s.ck + d.l) 1000000, 0⟩, ⟨9, nextB d (-1), 0⟩, ⟨1, 3, 0⟩], 0) else noR 3
def cancelD (s : StD) : List RecD × Int := if s.ph = 2 then oneR 1 0 0 else phaseD s 1 0
def lockD (s : StD) (a : Int) : List RecD × Int := if inB a 0 7 = false then noR 2 else if 3 ≤ s.ph then noR 3 else if s.lks.contains a then noR 4 else oneR 6 a 0
def unlockD (s : StD) (a : Int) : List RecD × Int := if inB a 0 7 = false then noR 2 else if s.lks.contains a = false then noR 4 else oneR 7 a 0
def toldD (d : PlanD) (s : StD) (f : Int → Int) (a : Int) : List RecD × Int := if inB a 0 (d.n0 - 1) = false then noR 2 else if f (podAt s a.toNat).1 < 0 then noR 4 else oneR 2 a (f (podAt s a.toNat).1)
def busyD (d : PlanD) (s : StD) (a b : Int) : List RecD × Int :=
  if inB a 0 (d.n2 - 1) = false then noR 2 else if inB b 1 5 = false then noR 1 else if 4 ≤ s.ph then noR 3 else if (mntAt s a.toNat).1 = false ∨ (mntAt s a.toNat).2 ≠ 0 then noR 4 else oneR 3 a b
def commandD (d : PlanD) (s : StD) (k a b : Int) : List RecD × Int :=
  if k = 1 then phaseD s 0 1 else if k = 2 then phaseD s 1 2 else if k = 3 then evictD d s a else if k = 4 then shutD d s else if k = 5 then cancelD s else if k = 6 then lockD s a else if k = 7 then unlockD s a
  else if k = 8 then toldD d s afterHook a else if k = 9 then toldD d s afterExit a else if k = 10 then busyD d s a b else noR 1

theorem told_hook {x : Int} (h : ¬ afterHook x < 0) : x = 1 ∧ afterHook x = 2 := by
  unfold afterHook at h ⊢
  split at h
  · rename_i e; exact ⟨e, if_pos e⟩
  · omega
theorem told_exit {x : Int} (h : ¬ afterExit x < 0) : (x = 0 ∨ x = 1 ∨ x = 2 ∨ x = 3) ∧ (afterExit x = 4 ∨ afterExit x = 5) := by
  unfold afterExit at h ⊢
  split at h
  · rename_i e; exact ⟨by omega, .inr (if_pos e)⟩
  · rename_i e
    split at h
    · rename_i e2; exact ⟨by omega, .inl (by rw [if_neg e, if_pos e2])⟩
    · omega

/-- What is not refused goes, and keeps a state right (promise 10). -/
theorem command_run {d : PlanD} {s : StD} {k a b : Int} (h : StOk d s) (hc : (commandD d s k a b).2 = 0) : ∃ x, runR d s (commandD d s k a b).1 = some x ∧ StOk d x := by
  have key : ∀ r : RecD, recOkB r = true → thereB s r = true → StOk d (applyR s r) → ∃ x, runR d s [r] = some x ∧ StOk d x := fun r h1 h2 h3 => ⟨_, runR_one (goodR_of h1 h2 h3), h3⟩
  have hl := planOk_lock h.plan
  unfold commandD at hc ⊢
  split at hc
  · rename_i e; subst e
    rw [if_pos rfl]
    unfold phaseD at hc ⊢
    split at hc
    · rename_i e2; rw [if_pos e2]; exact key _ (by decide) rfl (ok_phase h (by decide))
    · exact absurd hc (by decide)
  · rename_i e1; rw [if_neg e1]
    split at hc
    · rename_i e; rw [if_pos e]
      unfold phaseD at hc ⊢
      split at hc
      · rename_i e2; rw [if_pos e2]; exact key _ (by decide) rfl (ok_phase h (by decide))
      · exact absurd hc (by decide)
    · rename_i e2; rw [if_neg e2]
      split at hc
      · rename_i e; rw [if_pos e]
        unfold evictD at hc ⊢
        split at hc
        · exact absurd hc (by decide)
        · rename_i n1; rw [if_neg n1]
          split at hc
          · exact absurd hc (by decide)
          · rename_i n2; rw [if_neg n2]
            split at hc
            · exact absurd hc (by decide)
            · rename_i n3; rw [if_neg n3]
              split at hc
              · exact absurd hc (by decide)
              · rename_i n4; rw [if_neg n4]
                have hb := inB_true.1 (Bool.of_not_eq_false n1)
                have hnp := h.np
                exact key _ (by rw [recOkB_true]; simp only []; omega) (by simp [thereB]; omega) (ok_pod h (by decide))
      · rename_i e3; rw [if_neg e3]
        split at hc
        · rename_i e; rw [if_pos e]
          unfold shutD at hc ⊢
          split at hc
          · rename_i e4; rw [if_pos e4]; exact ⟨_, shut_run h, shut_ok h⟩
          · exact absurd hc (by decide)
        · rename_i e4; rw [if_neg e4]
          split at hc
          · rename_i e; rw [if_pos e]
            unfold cancelD phaseD at hc ⊢
            split at hc
            · rename_i e5; rw [if_pos e5]; exact key _ (by decide) rfl (ok_idle h)
            · rename_i e5; rw [if_neg e5]
              split at hc
              · rename_i e6; rw [if_pos e6]; exact key _ (by decide) rfl (ok_idle h)
              · exact absurd hc (by decide)
          · rename_i e5; rw [if_neg e5]
            split at hc
            · rename_i e; rw [if_pos e]
              unfold lockD at hc ⊢
              split at hc
              · exact absurd hc (by decide)
              · rename_i n1; rw [if_neg n1]
                split at hc
                · exact absurd hc (by decide)
                · rename_i n2; rw [if_neg n2]
                  split at hc
                  · exact absurd hc (by decide)
                  · rename_i n3; rw [if_neg n3]
                    have hb := inB_true.1 (Bool.of_not_eq_false n1)
                    exact key _ (by rw [recOkB_true]; simp only []; omega) rfl (ok_lock h hb)
            · rename_i e6; rw [if_neg e6]
              split at hc
              · rename_i e; rw [if_pos e]
                unfold unlockD at hc ⊢
                split at hc
                · exact absurd hc (by decide)
                · rename_i n1; rw [if_neg n1]
                  split at hc
                  · exact absurd hc (by decide)
                  · rename_i n2; rw [if_neg n2]
                    have hb := inB_true.1 (Bool.of_not_eq_false n1)
                    exact key _ (by rw [recOkB_true]; simp only []; omega) rfl (ok_unlock h)
              · rename_i e7; rw [if_neg e7]
                split at hc
                · rename_i e; rw [if_pos e]
                  unfold toldD at hc ⊢
                  split at hc
                  · exact absurd hc (by decide)
                  · rename_i n1; rw [if_neg n1]
                    split at hc
                    · exact absurd hc (by decide)
                    · rename_i n2; rw [if_neg n2]
                      have hb := inB_true.1 (Bool.of_not_eq_false n1)
                      have hnp := h.np
                      have ht := told_hook n2
                      exact key _ (by rw [recOkB_true]; simp only []; omega) (by simp [thereB]; omega) (ok_pod h (by omega))
                · rename_i e8; rw [if_neg e8]
                  split at hc
                  · rename_i e; rw [if_pos e]
                    unfold toldD at hc ⊢
                    split at hc
                    · exact absurd hc (by decide)
                    · rename_i n1; rw [if_neg n1]
                      split at hc
                      · exact absurd hc (by decide)
                      · rename_i n2; rw [if_neg n2]
                        have hb := inB_true.1 (Bool.of_not_eq_false n1)
                        have hnp := h.np
                        have ht := told_exit n2
                        exact key _ (by rw [recOkB_true]; simp only []; omega) (by simp [thereB]; omega) (ok_pod h (by omega))
                  · rename_i e9; rw [if_neg e9]
                    split at hc
                    · rename_i e; rw [if_pos e]
                      unfold busyD at hc ⊢
                      split at hc
                      · exact absurd hc (by decide)
                      · rename_i n1; rw [if_neg n1]
                        split at hc
                        · exact absurd hc (by decide)
                        · rename_i n2; rw [if_neg n2]
                          split at hc
                          · exact absurd hc (by decide)
                          · rename_i n3; rw [if_neg n3]
                            split at hc
                            · exact absurd hc (by decide)
                            · rename_i n4; rw [if_neg n4]
                              have hb := inB_true.1 (Bool.of_not_eq_false n1)
                              have hb2 := inB_true.1 (Bool.of_not_eq_false n2)
                              have hnm := h.nm
                              have hh : (s.mnts.getD a.toNat (false, 0)).1 = true := Bool.of_not_eq_false fun x => n4 (.inl x)
                              exact key _ (by rw [recOkB_true]; simp only []; omega) (by simp [thereB]; omega) (ok_busy h (by omega) hh)
                    · exact absurd hc (by decide)
end Go.Proofs.YtdkmhaghnfhajaaGreat
/- Th -/
set_option linter.unusedVariables false
namespace Go.Proofs.YtdkmhaghnfhajaaGreat
open Go.RowKit

/-- The one record of a command that is not refused. -/
theorem run_one {d : PlanD} {s x : StD} {r : RecD} (h : runR d s [r] = some x) : x = applyR s r := by
  simp only [runR] at h
  split at h
  · exact (Option.some.inj h).symm
  · cases h
/-- Which command it was, and what came of it. -/
inductive Came (d : PlanD) (s : StD) : StD → Prop
  | cordon (h : s.ph = 0) : Came d s (applyR s ⟨1, 1, 0⟩)
  | drain (h : s.ph = 1) : Came d s (applyR s ⟨1, 2, 0⟩)
  | evict (i : Nat) (hi : i < d.n0) (h : s.ph = 2) (hr : (podAt s i).1 = 0) (hm : mayEvictB d s i = true) : Came d s (podS s i 6)
  | shut (h : s.ph = 1 ∨ s.ph = 2) : Came d s (shutS d s)
  | cancel (h : s.ph = 1 ∨ s.ph = 2) : Came d s (applyR s ⟨1, 0, 0⟩)
  | lock (a : Int) (h : s.ph < 3) : Came d s (applyR s ⟨6, a, 0⟩)
  | unlock (a : Int) : Came d s (applyR s ⟨7, a, 0⟩)
  | hook (i : Nat) (hi : i < d.n0) (h : (podAt s i).1 = 1) : Came d s (podS s i 2)
  | exit (i : Nat) (hi : i < d.n0) (st : Int) (h : (podAt s i).1 = 0 ∨ (podAt s i).1 = 1 ∨ (podAt s i).1 = 2 ∨ (podAt s i).1 = 3) (hs : st = 4 ∨ st = 5) : Came d s (podS s i st)
  | busy (i : Nat) (hi : i < d.n2) (b : Int) (hb : 1 ≤ b ∧ b ≤ 5) (h : s.ph < 4) (hh : (mntAt s i).1 = true) : Came d s (applyR s ⟨3, i, b⟩)
theorem index_nat {a : Int} {n : Nat} (h : ¬ inB a 0 (n - 1) = false) : ∃ i : Nat, a = i ∧ i < n := by
  have := inB_true.1 (Bool.of_not_eq_false h)
  exact ⟨a.toNat, by omega, by omega⟩
end Go.Proofs.YtdkmhaghnfhajaaGreat
/- Ti -/
set_option linter.unusedVariables false
namespace Go.Proofs.YtdkmhaghnfhajaaGreat
open Go.RowKit

def failG (s : StD) (i : Nat) : Option Int := if aliveB (podAt s i).1 then some 5 else none
def looseG (s : StD) (i : Nat) : Option (Bool × Int) := if (mntAt s i).1 then some (false, 0) else none
def emptyG (s : StD) (i : Nat) : Option Unit := if devAt s i then some () else none
def bootL (d : PlanD) (s : StD) (id : Int) : List RecD :=
  ⟨10, id, 0⟩ :: (recsOf d.n0 (failG s) (fun i x => ⟨2, i, x⟩) ++ (recsOf d.n2 (looseG s) mntRec ++ (recsOf d.n3 (emptyG s) (fun i _ => ⟨5, i, 0⟩) ++
    (s.lks.map (fun x => ⟨7, x, 0⟩) ++ ⟨12, 0, 0⟩ :: (if s.ph = 8 then [] else [⟨1, 6, 0⟩])))))
def bootS (d : PlanD) (s : StD) (id : Int) : StD :=
  { s with bo := id, pods := turn s.pods d.n0 (failG s) (fun _ _ x => (x, s.ck)), mnts := turn s.mnts d.n2 (looseG s) (fun _ _ x => x), devs := turn s.devs d.n3 (emptyG s) (fun _ _ _ => false), lks := [], gd := 0, pr := 0, ph := if s.ph = 8 then 8 else 6, co := true }

theorem unlock_mem {x : Int} : ∀ {m l : List Int}, x ∈ m.foldl withoutN l → x ∈ l ∧ x ∉ m
  | [], l, h => ⟨h, by simp⟩
  | y :: m, l, h => by
    have h1 := unlock_mem (m := m) (l := withoutN l y) h
    have h2 := withoutN_mem h1.1
    exact ⟨h2.1, fun hm => by
      rcases List.mem_cons.1 hm with e | e
      · exact h2.2 e
      · exact h1.2 e⟩
theorem unlock_all (l : List Int) : l.foldl withoutN l = [] := by
  refine List.eq_nil_iff_forall_not_mem.2 fun x hx => ?_
  have := unlock_mem hx
  exact this.2 this.1
theorem run_unlocks {d : PlanD} : ∀ (m : List Int) {s : StD}, StOk d s → (∀ x ∈ m, 0 ≤ x ∧ x ≤ 7) → runR d s (m.map fun x => ⟨7, x, 0⟩) = some { s with lks := m.foldl withoutN s.lks }
  | [], s, _, _ => rfl
  | y :: m, s, h, hm => by
    have hy := hm y (by simp)
    have hok : StOk d (applyR s ⟨7, y, 0⟩) := ok_unlock h
    have hg : goodR d s ⟨7, y, 0⟩ = true := goodR_of (by rw [recOkB_true]; simp only []; omega) rfl hok
    rw [List.map_cons, runR, if_pos hg, run_unlocks m hok fun x hx => hm x (by simp [hx])]
    rfl

theorem boot_run {d : PlanD} {s : StD} {id : Int} (h : StOk d s) (hi : 1 ≤ id ∧ id ≤ 1000000) : runR d s (bootL d s id) = some (bootS d s id) := by
  have h1 : StOk d (applyR s ⟨10, id, 0⟩) := ok_boot h (by omega)
  have g1 : goodR d s ⟨10, id, 0⟩ = true := goodR_of (by rw [recOkB_true]; simp only []; omega) rfl h1
  have r2 := run_pods h1 (g := failG s) (fun i x _ hx => by
    unfold failG at hx
    split at hx
    · cases hx; decide
    · cases hx) d.n0 (Nat.le_refl _)
  have h2 := runR_ok h1 r2
  have r3 := run_mnts h2 (g := looseG s) (fun i q _ hq => by
    unfold looseG at hq
    split at hq
    · cases hq; exact ⟨by decide, fun hx => (by cases hx), fun _ => rfl⟩
    · cases hq) d.n2 (Nat.le_refl _)
  have h3 := runR_ok h2 r3
  have r4 := run_devs h3 (g := emptyG s) d.n3 (Nat.le_refl _)
  have h4 := runR_ok h3 r4
  have r5 := run_unlocks s.lks h4 h.lks
  have h5 := runR_ok h4 r5
  have ht := planOk_tries h.plan
  have h6 := ok_probe h5 (a := 0) (b := 0) (by decide) (by omega)
  unfold bootL
  rw [runR, if_pos g1, runR_append, r2, Option.bind_some, runR_append, r3, Option.bind_some, runR_append, r4, Option.bind_some, runR_append, r5, Option.bind_some, runR, if_pos (goodR_of (by decide) rfl h6)]
  by_cases e : s.ph = 8
  · rw [if_pos e]
    have hco : s.co = true := by rw [h.co]; simp [e]
    simp [runR, bootS, applyR, unlock_all, e, hco]
  · rw [if_neg e]
    refine (runR_one (goodR_of (by decide) rfl (ok_phase h6 (by decide)))).trans ?_
    simp [bootS, applyR, unlock_all, e]
theorem boot_ok {d : PlanD} {s : StD} {id : Int} (h : StOk d s) (hi : 1 ≤ id ∧ id ≤ 1000000) : StOk d (bootS d s id) := runR_ok h (boot_run h hi)
/-- A probe. -/
def probeN (s : StD) (good : Bool) : Int := if good then s.gd + 1 else 0
def probeL (d : PlanD) (s : StD) (good : Bool) : List RecD :=
  ⟨12, probeN s good, s.pr + 1⟩ :: (if d.p ≤ probeN s good then [⟨1, 0, 0⟩] else if d.t ≤ s.pr + 1 then [⟨1, 8, 0⟩] else if s.ph = 6 then [⟨1, 7, 0⟩] else [])
theorem probe_run {d : PlanD} {s : StD} {good : Bool} (h : StOk d s) (ht : s.pr < d.t) : ∃ x, runR d s (probeL d s good) = some x ∧ StOk d x := by
  have hg := h.gd
  have hp := planOk_tries h.plan
  have hn : 0 ≤ probeN s good ∧ probeN s good ≤ s.pr + 1 := by unfold probeN; split <;> omega
  have h1 : StOk d (applyR s ⟨12, probeN s good, s.pr + 1⟩) := ok_probe h hn (by omega)
  have g1 : goodR d s ⟨12, probeN s good, s.pr + 1⟩ = true := goodR_of (by rw [recOkB_true]; simp only []; omega) rfl h1
  unfold probeL
  rw [runR, if_pos g1]
  split
  · exact ⟨_, runR_one (goodR_of (by decide) rfl (ok_idle h1)), ok_idle h1⟩
  · split
    · exact ⟨_, runR_one (goodR_of (by decide) rfl (ok_phase h1 (by decide))), ok_phase h1 (by decide)⟩
    · split
      · exact ⟨_, runR_one (goodR_of (by decide) rfl (ok_phase h1 (by decide))), ok_phase h1 (by decide)⟩
      · exact ⟨_, rfl, h1⟩
end Go.Proofs.YtdkmhaghnfhajaaGreat
/- Ua -/
set_option linter.unusedVariables false
namespace Go.Proofs.YtdkmhaghnfhajaaGreat
open Go.RowKit

def podCs : List (Int × Int) → List Value
  | [] => []
  | q :: l => .int .i64 q.1 :: .int .i64 q.2 :: podCs l
def mntCs : List (Bool × Int) → List Value
  | [] => []
  | q :: l => .bool q.1 :: .int .i64 q.2 :: mntCs l
def devCs (l : List Bool) : List Value := l.map Value.bool
def lkCs (l : List Int) : List Value := l.map (Value.int .i64)
theorem podCs_len (l : List (Int × Int)) : (podCs l).length = l.length * 2 := by
  induction l with
  | nil => rfl
  | cons q l ih => simp only [podCs, List.length_cons, ih]; omega
theorem mntCs_len (l : List (Bool × Int)) : (mntCs l).length = l.length * 2 := by
  induction l with
  | nil => rfl
  | cons q l ih => simp only [mntCs, List.length_cons, ih]; omega
theorem devCs_len (l : List Bool) : (devCs l).length = l.length * 1 := by simp [devCs]
theorem lkCs_len (l : List Int) : (lkCs l).length = l.length * 1 := by simp [lkCs]
def podA (l : List (Int × Int)) (i : Nat) : Int × Int := l.getD i (0, 0)
def mntA (l : List (Bool × Int)) (i : Nat) : Bool × Int := l.getD i (false, 0)
def devA (l : List Bool) (i : Nat) : Bool := l.getD i false
def lkA (l : List Int) (i : Nat) : Int := l.getD i 0
theorem podCs_at (l : List (Int × Int)) {i : Nat} (hi : i < l.length) : (podCs l)[i * 2]? = some (.int .i64 (podA l i).1) ∧ (podCs l)[i * 2 + 1]? = some (.int .i64 (podA l i).2) := by
  induction l generalizing i with
  | nil => exact absurd hi (Nat.not_lt_zero _)
  | cons q l ih =>
    cases i with
    | zero => exact ⟨rfl, rfl⟩
    | succ i =>
      have := ih (i := i) (by simpa using hi)
      rw [show (i + 1) * 2 = i * 2 + 1 + 1 by omega]
      simpa [podCs, podA] using this
theorem mntCs_at (l : List (Bool × Int)) {i : Nat} (hi : i < l.length) : (mntCs l)[i * 2]? = some (.bool (mntA l i).1) ∧ (mntCs l)[i * 2 + 1]? = some (.int .i64 (mntA l i).2) := by
  induction l generalizing i with
  | nil => exact absurd hi (Nat.not_lt_zero _)
  | cons q l ih =>
    cases i with
    | zero => exact ⟨rfl, rfl⟩
    | succ i =>
      have := ih (i := i) (by simpa using hi)
      rw [show (i + 1) * 2 = i * 2 + 1 + 1 by omega]
      simpa [mntCs, mntA] using this
theorem devCs_at (l : List Bool) {i : Nat} (hi : i < l.length) : (devCs l)[i]? = some (.bool (devA l i)) := by simp [devCs, devA, List.getD, hi]
theorem lkCs_at (l : List Int) {i : Nat} (hi : i < l.length) : (lkCs l)[i]? = some (.int .i64 (lkA l i)) := by simp [lkCs, lkA, List.getD, hi]
theorem podCs_set (l : List (Int × Int)) {i : Nat} (hi : i < l.length) (q : Int × Int) : podCs (l.set i q) = ((podCs l).set (i * 2) (.int .i64 q.1)).set (i * 2 + 1) (.int .i64 q.2) := by
  induction l generalizing i with
  | nil => exact absurd hi (Nat.not_lt_zero _)
  | cons r l ih =>
    cases i with
    | zero => rfl
    | succ i =>
      rw [show (i + 1) * 2 = i * 2 + 1 + 1 by omega]
      simp only [List.set_cons_succ, podCs]
      rw [ih (by simpa using hi)]
theorem mntCs_set (l : List (Bool × Int)) {i : Nat} (hi : i < l.length) (q : Bool × Int) : mntCs (l.set i q) = ((mntCs l).set (i * 2) (.bool q.1)).set (i * 2 + 1) (.int .i64 q.2) := by
  induction l generalizing i with
  | nil => exact absurd hi (Nat.not_lt_zero _)
  | cons r l ih =>
    cases i with
    | zero => rfl
    | succ i =>
      rw [show (i + 1) * 2 = i * 2 + 1 + 1 by omega]
      simp only [List.set_cons_succ, mntCs]
      rw [ih (by simpa using hi)]
theorem devCs_set (l : List Bool) (i : Nat) (q : Bool) : devCs (l.set i q) = (devCs l).set i (.bool q) := by unfold devCs; rw [List.map_set]

/-- The cells of a state. -/
abbrev stC (A0 A1 A2 A3 : Option Addr) (n0 c0 n1 c1 n2 c2 n3 c3 : Nat) (ph : Int) (co : Bool) (ck bo ba lb gd pr : Int) : Array Value :=
  #[.int .i64 ph, .bool co, .int .i64 ck, .int .i64 bo, .int .i64 ba, .int .i64 lb, .slice A0 n0 c0, .slice A1 n1 c1, .slice A2 n2 c2, .slice A3 n3 c3, .int .i64 gd, .int .i64 pr]
/-- A state that can be read below block B. -/
structure IsSt (w : World) (B : Nat) (v : Value) (s : StD) : Prop where
  it : ∃ A0 A1 A2 A3 c0 c1 c2 c3, v = .agg (stC A0 A1 A2 A3 s.pods.length c0 s.mnts.length c1 s.devs.length c2 s.lks.length c3 s.ph s.co s.ck s.bo s.ba s.lb s.gd s.pr) ∧
    SlV w B 2 A0 s.pods.length (podCs s.pods) ∧ SlV w B 2 A1 s.mnts.length (mntCs s.mnts) ∧ SlV w B 1 A2 s.devs.length (devCs s.devs) ∧ SlV w B 1 A3 s.lks.length (lkCs s.lks)
  b0 : s.pods.length ≤ maxLen
  b1 : s.mnts.length ≤ maxLen
  b2 : s.devs.length ≤ maxLen
  b3 : s.lks.length ≤ maxLen
theorem IsSt.below {w w' : World} {B B' : Nat} {v : Value} {s : StD} (h : IsSt w B v s) (hb : Below B' w w') (hB : B ≤ B') : IsSt w' B v s := by
  obtain ⟨⟨A0, A1, A2, A3, c0, c1, c2, c3, hv, h0, h1, h2, h3⟩, b0, b1, b2, b3⟩ := h
  exact ⟨⟨A0, A1, A2, A3, c0, c1, c2, c3, hv, h0.below hb hB, h1.below hb hB, h2.below hb hB, h3.below hb hB⟩, b0, b1, b2, b3⟩
theorem IsSt.more {w : World} {B B' : Nat} {v : Value} {s : StD} (h : IsSt w B v s) (hB : B ≤ B') : IsSt w B' v s := by
  obtain ⟨⟨A0, A1, A2, A3, c0, c1, c2, c3, hv, h0, h1, h2, h3⟩, b0, b1, b2, b3⟩ := h
  exact ⟨⟨A0, A1, A2, A3, c0, c1, c2, c3, hv, h0.more hB, h1.more hB, h2.more hB, h3.more hB⟩, b0, b1, b2, b3⟩
theorem IsSt.go {w w' : World} {v : Value} {s : StD} (h : IsSt w w.heap.size v s) (hb : Below w.heap.size w w') : IsSt w' w'.heap.size v s := (h.below hb (Nat.le_refl _)).more hb.size
/-- A state of the call's own: each list in a block of its own, from block B on. -/
structure OwnSt (w : World) (B : Nat) (v : Value) (s : StD) : Prop where
  it : ∃ v0 v1 v2 v3, v = .agg #[.int .i64 s.ph, .bool s.co, .int .i64 s.ck, .int .i64 s.bo, .int .i64 s.ba, .int .i64 s.lb, v0, v1, v2, v3, .int .i64 s.gd, .int .i64 s.pr] ∧
    w.ownsRow B 67 2 v0 s.pods.length (podCs s.pods) ∧ w.ownsRow B 46 2 v1 s.mnts.length (mntCs s.mnts) ∧
    w.ownsRow B 4 1 v2 s.devs.length (devCs s.devs) ∧ w.ownsRow B 2 1 v3 s.lks.length (lkCs s.lks)
theorem OwnSt.below {w w' : World} {B : Nat} {v : Value} {s : StD} (h : OwnSt w B v s) (hb : Below w.heap.size w w') : OwnSt w' B v s := by
  obtain ⟨v0, v1, v2, v3, hv, h0, h1, h2, h3⟩ := h.it
  exact ⟨v0, v1, v2, v3, hv, ownsRow_below h0 hb, ownsRow_below h1 hb, ownsRow_below h2 hb, ownsRow_below h3 hb⟩
theorem OwnSt.base {w : World} {B B' : Nat} {v : Value} {s : StD} (h : OwnSt w B v s) (hB : B' ≤ B) : OwnSt w B' v s := by
  obtain ⟨v0, v1, v2, v3, hv, h0, h1, h2, h3⟩ := h.it
  exact ⟨v0, v1, v2, v3, hv, ownsRow_base h0 hB, ownsRow_base h1 hB, ownsRow_base h2 hB, ownsRow_base h3 hB⟩
theorem OwnSt.st {w : World} {B : Nat} {v : Value} {s : StD} (h : OwnSt w B v s) : IsSt w w.heap.size v s := by
  obtain ⟨v0, v1, v2, v3, rfl, h0, h1, h2, h3⟩ := h.it
  obtain ⟨A0, c0, g0, rfl, -, -, -, -, -, s0, b0⟩ := open_row h0
  obtain ⟨A1, c1, g1, rfl, -, -, -, -, -, s1, b1⟩ := open_row h1
  obtain ⟨A2, c2, g2, rfl, -, -, -, -, -, s2, b2⟩ := open_row h2
  obtain ⟨A3, c3, g3, rfl, -, -, -, -, -, s3, b3⟩ := open_row h3
  exact ⟨⟨A0, A1, A2, A3, c0, c1, c2, c3, rfl, s0, s1, s2, s3⟩, b0, b1, b2, b3⟩
theorem OwnSt.zero (w : World) (B : Nat) : OwnSt w B (.agg (stC none none none none 0 0 0 0 0 0 0 0 0 false 0 0 0 0 0 0)) zeroS :=
  ⟨_, _, _, _, rfl, World.ownsRow_nil _ _ _ _, World.ownsRow_nil _ _ _ _, World.ownsRow_nil _ _ _ _, World.ownsRow_nil _ _ _ _⟩
end Go.Proofs.YtdkmhaghnfhajaaGreat
/- Ub -/
set_option linter.unusedVariables false
namespace Go.Proofs.YtdkmhaghnfhajaaGreat
open Go.RowKit

end Go.Proofs.YtdkmhaghnfhajaaGreat
/- Uc -/
set_option linter.unusedVariables false
namespace Go.Proofs.YtdkmhaghnfhajaaGreat
open Go.RowKit

end Go.Proofs.YtdkmhaghnfhajaaGreat
/- Ud -/
set_option linter.unusedVariables false
namespace Go.Proofs.YtdkmhaghnfhajaaGreat
open Go.RowKit

/-- A state of new memory, all lists in blocks of their own. -/
structure NewSt (w w' : World) (s : StD) (g0 g1 g2 g3 : Nat) : Prop where
  l0 : w.heap.size ≤ g0
  l1 : g0 < g1
  l2 : g1 < g2
  l3 : g2 < g3
  l4 : g3 < w'.heap.size
  R0 : RowV w' g0 (podCs s.pods)
  R1 : RowV w' g1 (mntCs s.mnts)
  R2 : RowV w' g2 (devCs s.devs)
  R3 : RowV w' g3 (lkCs s.lks)
abbrev newStV (s : StD) (g0 g1 g2 g3 : Nat) : Value := .agg (stC (some ⟨g0, 0, none⟩) (some ⟨g1, 0, none⟩) (some ⟨g2, 0, none⟩) (some ⟨g3, 0, none⟩) s.pods.length s.pods.length s.mnts.length s.mnts.length s.devs.length s.devs.length s.lks.length s.lks.length s.ph s.co s.ck s.bo s.ba s.lb s.gd s.pr)
/-- How many cells a state's lists are at most. -/
structure StFits (s : StD) (m : Nat) : Prop where
  f0 : s.pods.length ≤ m
  f1 : s.mnts.length ≤ m
  f2 : s.devs.length ≤ m
  f3 : s.lks.length ≤ m
theorem NewSt.is {w w' : World} {s : StD} {g0 g1 g2 g3 : Nat} (h : NewSt w w' s g0 g1 g2 g3) (hf : StFits s 1048576) : IsSt w' w'.heap.size (newStV s g0 g1 g2 g3) s := by
  obtain ⟨l0, l1, l2, l3, l4, R0, R1, R2, R3⟩ := h
  obtain ⟨f0, f1, f2, f3⟩ := hf
  have hm : 1048576 ≤ maxLen := by unfold maxLen; decide
  exact ⟨⟨_, _, _, _, _, _, _, _, rfl, R0.slv (podCs_len _) (by omega), R1.slv (mntCs_len _) (by omega), R2.slv (devCs_len _) (by omega), R3.slv (lkCs_len _) (by omega)⟩, by omega, by omega, by omega, by omega⟩

end Go.Proofs.YtdkmhaghnfhajaaGreat
/- Ue -/
set_option linter.unusedVariables false
namespace Go.Proofs.YtdkmhaghnfhajaaGreat
open Go.RowKit

def m3 (k : Int) : Bool := k % 3 == 0
end Go.Proofs.YtdkmhaghnfhajaaGreat
/- Uf -/
set_option linter.unusedVariables false
namespace Go.Proofs.YtdkmhaghnfhajaaGreat
open Go.RowKit

/-- A state whose four lists lie in blocks of their own, all writable. -/
structure Rows4 (w : World) (v : Value) (s : StD) (g0 g1 g2 g3 : Nat) : Prop where
  val : ∃ A0 A1 A2 A3 c0 c1 c2 c3, v = .agg (stC A0 A1 A2 A3 s.pods.length c0 s.mnts.length c1 s.devs.length c2 s.lks.length c3 s.ph s.co s.ck s.bo s.ba s.lb s.gd s.pr) ∧
    (0 < s.pods.length → A0 = some ⟨g0, 0, none⟩) ∧ (0 < s.mnts.length → A1 = some ⟨g1, 0, none⟩) ∧ (0 < s.devs.length → A2 = some ⟨g2, 0, none⟩) ∧ (0 < s.lks.length → A3 = some ⟨g3, 0, none⟩)
  z0 : 0 < s.pods.length → g0 < w.heap.size
  R0 : RowV w g0 (podCs s.pods)
  z1 : 0 < s.mnts.length → g1 < w.heap.size
  R1 : RowV w g1 (mntCs s.mnts)
  z2 : 0 < s.devs.length → g2 < w.heap.size
  R2 : RowV w g2 (devCs s.devs)
  z3 : 0 < s.lks.length → g3 < w.heap.size
  R3 : RowV w g3 (lkCs s.lks)
  d01 : g0 ≠ g1
  d02 : g0 ≠ g2
  d03 : g0 ≠ g3
  d12 : g1 ≠ g2
  d13 : g1 ≠ g3
  d23 : g2 ≠ g3
theorem NewSt.rows {w w' : World} {s : StD} {g0 g1 g2 g3 : Nat} (h : NewSt w w' s g0 g1 g2 g3) : Rows4 w' (newStV s g0 g1 g2 g3) s g0 g1 g2 g3 := by
  obtain ⟨l0, l1, l2, l3, l4, R0, R1, R2, R3⟩ := h
  exact { val := ⟨_, _, _, _, _, _, _, _, rfl, fun _ => rfl, fun _ => rfl, fun _ => rfl, fun _ => rfl⟩, z0 := fun _ => by omega, z1 := fun _ => by omega, z2 := fun _ => by omega, z3 := fun _ => by omega, R0 := R0, R1 := R1, R2 := R2, R3 := R3, d01 := by omega, d02 := by omega, d03 := by omega, d12 := by omega, d13 := by omega, d23 := by omega }
theorem row_type {w : World} {B B' e e' k k' n n' g : Nat} {v v' : Value} {xs xs' : List Value} (h : w.ownsRow B e k v n xs) (h' : w.ownsRow B' e' k' v' n' xs') (hv : v.ownBlock = some g) (hv' : v'.ownBlock = some g) : e = e' := by
  rcases h.2 with ⟨rfl, _⟩ | ⟨g1, c1, cur1, rfl, _, hh1, _⟩
  · simp [Value.ownBlock] at hv
  · rcases h'.2 with ⟨rfl, _⟩ | ⟨g2, c2, cur2, rfl, _, hh2, _⟩
    · simp [Value.ownBlock] at hv'
    · obtain rfl : g1 = g := by simpa [Value.ownBlock] using hv
      obtain rfl : g2 = g1 := by simpa [Value.ownBlock] using hv'
      rw [hh1] at hh2
      injection hh2 with hh2
      injection hh2 with _ h2 _
/-- A row of the call's own, its block named; a number of choice where it has none. -/
theorem row_named {w : World} {B e k n : Nat} {v : Value} {xs : List Value} (h : w.ownsRow B e k v n xs) (hB : B ≤ w.heap.size) (m : Nat) (hm : w.heap.size ≤ m) :
    ∃ A c g, v = .slice A n c ∧ (0 < n → A = some ⟨g, 0, none⟩) ∧ B ≤ g ∧ (0 < n → g < w.heap.size) ∧ RowV w g xs ∧ ((v.ownBlock = some g ∧ g < w.heap.size) ∨ g = m) := by
  obtain ⟨A, c, g, hv, hA, hnc, hb, hg, hR, hS, hx⟩ := open_row h
  by_cases hn : 0 < n
  · refine ⟨A, c, g, hv, hA, hb, hg, hR, .inl ⟨?_, hg hn⟩⟩
    rw [hv, hA hn]
    rfl
  · refine ⟨A, c, m, hv, fun h => absurd h hn, by omega, fun h => absurd h hn, fun j hj => ?_, .inr rfl⟩
    have := h.1
    obtain rfl : n = 0 := by omega
    omega
theorem OwnSt.rows {w : World} {B : Nat} {v : Value} {s : StD} (h : OwnSt w B v s) (hB : B ≤ w.heap.size) : ∃ g0 g1 g2 g3, Rows4 w v s g0 g1 g2 g3 ∧ B ≤ g0 ∧ B ≤ g1 ∧ B ≤ g2 ∧ B ≤ g3 := by
  obtain ⟨v0, v1, v2, v3, rfl, h0, h1, h2, h3⟩ := h.it
  obtain ⟨A0, c0, g0, e0, a0, b0, z0, R0, o0⟩ := row_named h0 hB (w.heap.size + 0) (by omega)
  obtain ⟨A1, c1, g1, e1, a1, b1, z1, R1, o1⟩ := row_named h1 hB (w.heap.size + 1) (by omega)
  obtain ⟨A2, c2, g2, e2, a2, b2, z2, R2, o2⟩ := row_named h2 hB (w.heap.size + 2) (by omega)
  obtain ⟨A3, c3, g3, e3, a3, b3, z3, R3, o3⟩ := row_named h3 hB (w.heap.size + 3) (by omega)
  have d01 : g0 ≠ g1 := fun e => by
    rcases o0 with ⟨p, q⟩ | p
    · rcases o1 with ⟨p', q'⟩ | p'
      · exact absurd (row_type h0 h1 p (by rw [e]; exact p')) (by decide)
      · omega
    · rcases o1 with ⟨p', q'⟩ | p'
      · omega
      · omega
  have d02 : g0 ≠ g2 := fun e => by
    rcases o0 with ⟨p, q⟩ | p
    · rcases o2 with ⟨p', q'⟩ | p'
      · exact absurd (row_type h0 h2 p (by rw [e]; exact p')) (by decide)
      · omega
    · rcases o2 with ⟨p', q'⟩ | p'
      · omega
      · omega
  have d03 : g0 ≠ g3 := fun e => by
    rcases o0 with ⟨p, q⟩ | p
    · rcases o3 with ⟨p', q'⟩ | p'
      · exact absurd (row_type h0 h3 p (by rw [e]; exact p')) (by decide)
      · omega
    · rcases o3 with ⟨p', q'⟩ | p'
      · omega
      · omega
  have d12 : g1 ≠ g2 := fun e => by
    rcases o1 with ⟨p, q⟩ | p
    · rcases o2 with ⟨p', q'⟩ | p'
      · exact absurd (row_type h1 h2 p (by rw [e]; exact p')) (by decide)
      · omega
    · rcases o2 with ⟨p', q'⟩ | p'
      · omega
      · omega
  have d13 : g1 ≠ g3 := fun e => by
    rcases o1 with ⟨p, q⟩ | p
    · rcases o3 with ⟨p', q'⟩ | p'
      · exact absurd (row_type h1 h3 p (by rw [e]; exact p')) (by decide)
      · omega
    · rcases o3 with ⟨p', q'⟩ | p'
      · omega
      · omega
  have d23 : g2 ≠ g3 := fun e => by
    rcases o2 with ⟨p, q⟩ | p
    · rcases o3 with ⟨p', q'⟩ | p'
      · exact absurd (row_type h2 h3 p (by rw [e]; exact p')) (by decide)
      · omega
    · rcases o3 with ⟨p', q'⟩ | p'
      · omega
      · omega
  subst e0 e1 e2 e3
  exact ⟨g0, g1, g2, g3, { val := ⟨A0, A1, A2, A3, c0, c1, c2, c3, rfl, a0, a1, a2, a3⟩, z0 := z0, z1 := z1, z2 := z2, z3 := z3, R0 := R0, R1 := R1, R2 := R2, R3 := R3, d01 := d01, d02 := d02, d03 := d03, d12 := d12, d13 := d13, d23 := d23 }, b0, b1, b2, b3⟩
theorem Rows4.go {w w' : World} {v : Value} {s : StD} {g0 g1 g2 g3 : Nat} (h : Rows4 w v s g0 g1 g2 g3) (hb : Below w.heap.size w w') : Rows4 w' v s g0 g1 g2 g3 := by
  obtain ⟨hv, z0, R0, z1, R1, z2, R2, z3, R3, d01, d02, d03, d12, d13, d23⟩ := h
  exact ⟨hv, fun h => Nat.lt_of_lt_of_le (z0 h) hb.size, R0.go (fun h => z0 (by rw [podCs_len] at h; omega)) hb, fun h => Nat.lt_of_lt_of_le (z1 h) hb.size, R1.go (fun h => z1 (by rw [mntCs_len] at h; omega)) hb,
    fun h => Nat.lt_of_lt_of_le (z2 h) hb.size, R2.go (fun h => z2 (by rw [devCs_len] at h; omega)) hb, fun h => Nat.lt_of_lt_of_le (z3 h) hb.size, R3.go (fun h => z3 (by rw [lkCs_len] at h; omega)) hb, d01, d02, d03, d12, d13, d23⟩

end Go.Proofs.YtdkmhaghnfhajaaGreat
/- Um -/
set_option linter.unusedVariables false
namespace Go.Proofs.YtdkmhaghnfhajaaGreat
open Go.RowKit

theorem wpList_append_slv {w : World} {ops : Array Oper} {rest : List Oper} {o : Oper} {a : Act} {Q : Exit → Act → World → Prop} (hgd : o.guard = none) (s x : Operand) (t e : TypeId) (i0 : TypeInfo) (z : Value) (k by' : Nat)
    (ho : o.op = .call { callee := .builtin .append, args := #[s, x], argTypes := #[t, t] }) (hu : Tryz.prog.underlying t = some (.slice e)) (hi : Tryz.prog.info? e = some i0) (hz0 : i0.zero = some z) (hz1 : i0.size = k) (hz2 : i0.bytes = by')
    (hzs : z.cells.size = k) (hk : 0 < k) (hby : by' ≤ 1024) (base : Nat) (v : Value) (n : Nat) (xs : List Value) (hs : a.eval s = v) (hown : w.ownsRow base e k v n xs)
    (A : Option Addr) (m c : Nat) (ys : List Value) (hx : a.eval x = .slice A m c) (hr : A = none → c = 0) {B : Nat} (hb : SlV w B k A m ys) (h1 : ∀ u ∈ ys, u.oneCell' = true) (hlen : n + m ≤ 8388608) (hbase : base ≤ w.heap.size)
    (h : ∀ v' w', w'.ownsRow base e k v' (n + m) (xs ++ ys) → w.grownBy w' v.ownBlock → wpList Tryz.prog ops Q rest (a.put o.dst v') w') : wpList Tryz.prog ops Q (o :: rest) a w := by
  cases A with
  | none =>
    obtain rfl := hr rfl
    have hm : m = 0 := by
      rcases Nat.eq_zero_or_pos m with h | hne
      · exact h
      · obtain ⟨b, off, e, _⟩ := hb.it hne
        cases e
    subst hm
    have hys : ys = [] := List.eq_nil_of_length_eq_zero (by rw [hb.len]; simp)
    subst hys
    refine wpList_append_own_none hgd s x t ho base e i0 k hu hi v n xs hs hown hx ?_
    have := h v w (by rw [List.append_nil]; exact hown) ⟨rfl, rfl, rfl, Nat.le_refl _, fun _ _ _ => rfl⟩
    exact this
  | some ad =>
    refine wpList_append_own w hgd s x t ho base e i0 z k by' hu hi hz0 hz1 hz2 hzs hk v n xs hs hown ad m c ys hx hb.len ?_ h1 (by unfold maxLen; omega) ?_ hbase ?_
    · intro j y hy
      have hj : j < ys.length := (List.getElem?_eq_some_iff.1 hy).1
      have hl := hb.len
      have hm : 0 < m := by
        rcases Nat.eq_zero_or_pos m with h | h
        · subst h; omega
        · exact h
      obtain ⟨b, off, e, hb1, q⟩ := hb.it hm
      cases e
      have ha : (⟨b, off, none⟩ : Addr).add j = ⟨b, off + j, none⟩ := by unfold Addr.add; split <;> simp_all
      rw [ha, q j (by omega), hy]
    · have : (n + m) * by' ≤ 8388608 * 1024 := Nat.mul_le_mul hlen hby
      omega
    · intro v' w' h1 h2 _
      exact h v' w' h1 h2

theorem podCs_one (l : List (Int × Int)) : ∀ u ∈ podCs l, u.oneCell' = true := by
  induction l with
  | nil => simp [podCs]
  | cons q l ih =>
    intro u hu
    simp only [podCs, List.mem_cons] at hu
    rcases hu with rfl | rfl | hu
    · rfl
    · rfl
    · exact ih u hu
theorem mntCs_one (l : List (Bool × Int)) : ∀ u ∈ mntCs l, u.oneCell' = true := by
  induction l with
  | nil => simp [mntCs]
  | cons q l ih =>
    intro u hu
    simp only [mntCs, List.mem_cons] at hu
    rcases hu with rfl | rfl | hu
    · rfl
    · rfl
    · exact ih u hu
theorem devCs_one (l : List Bool) : ∀ u ∈ devCs l, u.oneCell' = true := by
  intro u hu
  obtain ⟨b, _, rfl⟩ := List.mem_map.1 hu
  rfl
theorem lkCs_one (l : List Int) : ∀ u ∈ lkCs l, u.oneCell' = true := by
  intro u hu
  obtain ⟨b, _, rfl⟩ := List.mem_map.1 hu
  rfl

theorem infoS_i64 : (Tryz.prog.info? 2).map (fun i => (i.zero, i.size, i.bytes)) = some (some (.int .i64 0), 1, 8) := by kernel_rfl
theorem infoS_bool : (Tryz.prog.info? 4).map (fun i => (i.zero, i.size, i.bytes)) = some (some (.bool false), 1, 1) := by kernel_rfl
theorem infoS_pod : (Tryz.prog.info? 67).map (fun i => (i.zero, i.size, i.bytes)) = some (some (.agg #[.int .i64 0, .int .i64 0]), 2, 16) := by kernel_rfl
theorem infoS_mnt : (Tryz.prog.info? 46).map (fun i => (i.zero, i.size, i.bytes)) = some (some (.agg #[.bool false, .int .i64 0]), 2, 16) := by kernel_rfl

/-- An empty row just made. -/
theorem made_empty (w : World) (B e k : Nat) (hB : B ≤ w.heap.size) : (w.alloc (.cells #[] e)).ownsRow B e k (.slice (some ⟨w.heap.size, 0, none⟩) 0 0) 0 [] := by
  have := World.ownsRow_made (base := w.heap.size) (e := e) (size := k) w #[] 0 (by simp) (Nat.zero_le _) (by simp)
  exact ownsRow_base this hB
/-- A list of cells of the call's own. -/
def MadeL (w : World) (e k n : Nat) (xs : List Value) (en : Ending) (w' : World) : Prop :=
  ∃ v, en = .returned v ∧ w'.ownsRow w.heap.size e k v n xs ∧ Below w.heap.size w w'

set_option maxHeartbeats 1000000 in
theorem l1Copy_any (A : Option Addr) (n c : Nat) (l : List Int) (w : World) (h : SlV w w.heap.size 1 A n (lkCs l)) (hr : A = none → c = 0) (hn : n ≤ 1048576) :
    Calls Tryz.prog 90 #[.slice A n c] w (MadeL w 2 1 n (lkCs l)) := by
  obtain ⟨i0, hi, hz0, hz1, hz2⟩ := info_parts infoS_i64
  have HI := Lib.hid hi
  have HZ0 := Lib.hid hz0
  have HZ1 := Lib.hid hz1
  have HZ2 := Lib.hid hz2
  have H := Lib.hid h
  have HR := Lib.hid hr
  clear hi hz0 hz1 hz2 h hr
  go_enter Tryz.func90, Tryz.ntmps90
  go_wp2_with ((at_builtin; refine wpList_append_slv rfl _ _ 25 2 i0 (.int .i64 0) 1 8 rfl Tryz.underlying25 HI.out HZ0.out HZ1.out HZ2.out rfl (by decide) (by decide) w.heap.size _ 0 [] rfl (made_empty w _ _ _ (Nat.le_refl _)) A n c (lkCs l) rfl HR.out (H.out.below ((Below.refl _ _).alloc (Nat.le_refl _) _) (Nat.le_refl _)) (lkCs_one l) (by omega) (by simp) ?_; intro v' w2 hown hgrow))
  go_ret
  refine ⟨v', rfl, by simpa using hown, ?_⟩
  exact ((Below.refl _ _).alloc (Nat.le_refl _) _).grown hgrow (by simp) fun r hr => ((made_empty w w.heap.size 2 1 (Nat.le_refl _)).lt r hr).1
end Go.Proofs.YtdkmhaghnfhajaaGreat
/- Un -/
set_option linter.unusedVariables false
namespace Go.Proofs.YtdkmhaghnfhajaaGreat
open Go.RowKit

theorem grown_new {W w2 : World} {e : TypeId} (hg : (W.alloc (.cells #[] e)).grownBy w2 (Value.slice (some ⟨W.heap.size, 0, none⟩) 0 0).ownBlock) : Below W.heap.size W w2 :=
  ((Below.refl _ _).alloc (Nat.le_refl _) _).grown hg (by simp) fun r hr => by
    obtain rfl : W.heap.size = r := by simpa [Value.ownBlock] using hr
    exact Nat.le_refl _

theorem made_at (w : World) (B e k g : Nat) (hg : w.heap.size = g) (hB : B ≤ w.heap.size) : (w.alloc (.cells #[] e)).ownsRow B e k (.slice (some ⟨g, 0, none⟩) 0 0) 0 [] := by
  subst hg
  exact made_empty w B e k hB
theorem grown_at {W w2 : World} {e g : Nat} (hg : W.heap.size = g) (h : (W.alloc (.cells #[] e)).grownBy w2 (Value.slice (some ⟨g, 0, none⟩) 0 0).ownBlock) : Below W.heap.size W w2 := by
  subst hg
  exact grown_new h
theorem le_alloc {W : World} {o : Obj} {n : Nat} (h : n ≤ W.heap.size) : n ≤ (W.alloc o).heap.size := Nat.le_trans h ((Below.refl W.heap.size W).alloc (Nat.le_refl _) o).size

/-- A state that can be read, its lists real slices and small. -/
structure IsStR (w : World) (B : Nat) (v : Value) (s : StD) : Prop where
  it : ∃ A0 A1 A2 A3 c0 c1 c2 c3, v = .agg (stC A0 A1 A2 A3 s.pods.length c0 s.mnts.length c1 s.devs.length c2 s.lks.length c3 s.ph s.co s.ck s.bo s.ba s.lb s.gd s.pr) ∧
    (SlV w B 2 A0 s.pods.length (podCs s.pods) ∧ SlV w B 2 A1 s.mnts.length (mntCs s.mnts) ∧ SlV w B 1 A2 s.devs.length (devCs s.devs) ∧ SlV w B 1 A3 s.lks.length (lkCs s.lks)) ∧
    (A0 = none → c0 = 0) ∧ (A1 = none → c1 = 0) ∧ (A2 = none → c2 = 0) ∧ (A3 = none → c3 = 0)
  fit : StFits s 1048576
theorem IsStR.is {w : World} {B : Nat} {v : Value} {s : StD} (h : IsStR w B v s) : IsSt w B v s := by
  obtain ⟨⟨A0, A1, A2, A3, c0, c1, c2, c3, hv, ⟨h0, h1, h2, h3⟩, -⟩, f0, f1, f2, f3⟩ := h
  have hm : 1048576 ≤ maxLen := by unfold maxLen; decide
  exact ⟨⟨A0, A1, A2, A3, c0, c1, c2, c3, hv, h0, h1, h2, h3⟩, by omega, by omega, by omega, by omega⟩
theorem IsStR.below {w w' : World} {B B' : Nat} {v : Value} {s : StD} (h : IsStR w B v s) (hb : Below B' w w') (hB : B ≤ B') : IsStR w' B v s := by
  obtain ⟨⟨A0, A1, A2, A3, c0, c1, c2, c3, hv, ⟨h0, h1, h2, h3⟩, hr⟩, hf⟩ := h
  exact ⟨⟨A0, A1, A2, A3, c0, c1, c2, c3, hv, ⟨h0.below hb hB, h1.below hb hB, h2.below hb hB, h3.below hb hB⟩, hr⟩, hf⟩
theorem IsStR.more {w : World} {B B' : Nat} {v : Value} {s : StD} (h : IsStR w B v s) (hB : B ≤ B') : IsStR w B' v s := by
  obtain ⟨⟨A0, A1, A2, A3, c0, c1, c2, c3, hv, ⟨h0, h1, h2, h3⟩, hr⟩, hf⟩ := h
  exact ⟨⟨A0, A1, A2, A3, c0, c1, c2, c3, hv, ⟨h0.more hB, h1.more hB, h2.more hB, h3.more hB⟩, hr⟩, hf⟩
theorem IsStR.go {w w' : World} {v : Value} {s : StD} (h : IsStR w w.heap.size v s) (hb : Below w.heap.size w w') : IsStR w' w'.heap.size v s := (h.below hb (Nat.le_refl _)).more hb.size
theorem NewSt.isR {w w' : World} {s : StD} {g0 g1 g2 g3 : Nat} (h : NewSt w w' s g0 g1 g2 g3) (hf : StFits s 1048576) : IsStR w' w'.heap.size (newStV s g0 g1 g2 g3) s := by
  obtain ⟨l0, l1, l2, l3, l4, R0, R1, R2, R3⟩ := h
  exact ⟨⟨_, _, _, _, _, _, _, _, rfl, ⟨R0.slv (podCs_len _) (by omega), R1.slv (mntCs_len _) (by omega), R2.slv (devCs_len _) (by omega), R3.slv (lkCs_len _) (by omega)⟩, (fun h => by cases h), (fun h => by cases h), (fun h => by cases h), (fun h => by cases h)⟩, hf⟩
theorem open_rowR {w : World} {B e k n : Nat} {v : Value} {xs : List Value} (h : w.ownsRow B e k v n xs) : ∃ A c, v = .slice A n c ∧ (A = none → c = 0) ∧ SlV w w.heap.size k A n xs := by
  obtain ⟨A, c, g, hv, -, -, -, -, -, hS, -⟩ := open_row h
  refine ⟨A, c, hv, fun hA => ?_, hS⟩
  rcases h.2 with ⟨h1, h2⟩ | ⟨g', cap, cur, h1, -⟩
  · rw [hv] at h1
    injection h1
  · rw [hv] at h1
    injection h1 with h1 _ _
    rw [hA] at h1
    cases h1
theorem OwnSt.isR {w : World} {B : Nat} {v : Value} {s : StD} (h : OwnSt w B v s) (hf : StFits s 1048576) : IsStR w w.heap.size v s := by
  obtain ⟨v0, v1, v2, v3, rfl, h0, h1, h2, h3⟩ := h.it
  obtain ⟨A0, c0, rfl, r0, s0⟩ := open_rowR h0
  obtain ⟨A1, c1, rfl, r1, s1⟩ := open_rowR h1
  obtain ⟨A2, c2, rfl, r2, s2⟩ := open_rowR h2
  obtain ⟨A3, c3, rfl, r3, s3⟩ := open_rowR h3
  exact ⟨⟨A0, A1, A2, A3, c0, c1, c2, c3, rfl, ⟨s0, s1, s2, s3⟩, r0, r1, r2, r3⟩, hf⟩

/-- What makes a state of the call's own answers. -/
def MadeS (w : World) (s : StD) (e : Ending) (w' : World) : Prop := ∃ v, e = .returned v ∧ OwnSt w' w.heap.size v s ∧ Below w.heap.size w w'

set_option maxRecDepth 4000 in
set_option maxHeartbeats 4000000 in
theorem l5Copy_any (v : Value) (s : StD) (w : World) (h : IsStR w w.heap.size v s) : Calls Tryz.prog 58 #[v] w (MadeS w s) := by
  obtain ⟨⟨A0_, A1_, A2_, A3_, c0, c1, c2, c3, rfl, ⟨s0, s1, s2, s3⟩, r0, r1, r2, r3⟩, f0, f1, f2, f3⟩ := h
  obtain ⟨ph, co, ck, bo, ba, lb, l0, l1, l2, l3, gd, pr⟩ := s
  dsimp only at *
  have S0 := Lib.hid s0
  have S1 := Lib.hid s1
  have S2 := Lib.hid s2
  have S3 := Lib.hid s3
  have R0 := Lib.hid r0
  have R1 := Lib.hid r1
  have R2 := Lib.hid r2
  have R3 := Lib.hid r3
  have F0 := Lib.hid f0
  have F1 := Lib.hid f1
  have F2 := Lib.hid f2
  have F3 := Lib.hid f3
  clear s0 s1 s2 s3 r0 r1 r2 r3 f0 f1 f2 f3
  obtain ⟨i0, hi, hz0, hz1, hz2⟩ := info_parts infoS_pod
  have HI := Lib.hid hi
  have HZ0 := Lib.hid hz0
  have HZ1 := Lib.hid hz1
  have HZ2 := Lib.hid hz2
  clear hi hz0 hz1 hz2
  obtain ⟨i1, hi, hz0, hz1, hz2⟩ := info_parts infoS_mnt
  have GI := Lib.hid hi
  have GZ0 := Lib.hid hz0
  have GZ1 := Lib.hid hz1
  have GZ2 := Lib.hid hz2
  clear hi hz0 hz1 hz2
  obtain ⟨i2, hi, hz0, hz1, hz2⟩ := info_parts infoS_bool
  have DI := Lib.hid hi
  have DZ0 := Lib.hid hz0
  have DZ1 := Lib.hid hz1
  have DZ2 := Lib.hid hz2
  clear hi hz0 hz1 hz2
  have T0 := Two.start w (stC A0_ A1_ A2_ A3_ l0.length c0 l1.length c1 l2.length c2 l3.length c3 ph co ck bo ba lb gd pr) (stC none none none none 0 0 0 0 0 0 0 0 0 false 0 0 0 0 0 0) 38 38
  have HW : Hid (((w.alloc (.cells (stC A0_ A1_ A2_ A3_ l0.length c0 l1.length c1 l2.length c2 l3.length c3 ph co ck bo ba lb gd pr) 38)).alloc (.cells (stC none none none none 0 0 0 0 0 0 0 0 0 false 0 0 0 0 0 0) 38)).heap.size = w.heap.size + 1 + 1) := Lib.hid (by simp)
  go_enter Tryz.func58, Tryz.ntmps58
  go_wp2_with (first
      | (go_at_call 90
         have AS3 := A3.set (Nat.le_refl _) (i := 8) (by simp) (.slice B2 l2.length d2)
         have OS3 := O3.far (p := ⟨w.heap.size, 8, none⟩) (Nat.le_refl _) (by simp) (.slice B2 l2.length d2)
         have HQ30 := Lib.hid (ownsRow_setCell_below (HO20).out (a := ⟨w.heap.size, 8, none⟩) (by simp) (.slice B2 l2.length d2))
         have HQ31 := Lib.hid (ownsRow_setCell_below (HO21).out (a := ⟨w.heap.size, 8, none⟩) (by simp) (.slice B2 l2.length d2))
         have HQ32 := Lib.hid (ownsRow_setCell_below (HO22).out (a := ⟨w.heap.size, 8, none⟩) (by simp) (.slice B2 l2.length d2))
         refine (l1Copy_any A3_ l3.length c3 l3 _ ((S3.out.below AS3.K (Nat.le_refl _)).more AS3.K.size) R3.out F3.out).mono ?_
         rintro e w5 ⟨v3, rfl, hown, K3⟩
         have A4 := AS3.step K3
         have O4 := OS3.step K3
         replace hown := ownsRow_base hown OS3.z
         obtain ⟨B3, d3, rfl, -⟩ := open_rowR hown
         have HO33 := Lib.hid hown
         have HO30 := Lib.hid (ownsRow_below HQ30.out K3)
         have HO31 := Lib.hid (ownsRow_below HQ31.out K3)
         have HO32 := Lib.hid (ownsRow_below HQ32.out K3)
         clear hown K3 hC hF hz AS3 OS3 A3 O3
         have hC := A4.C
         have hF := A4.F
         have hz := A4.z
         have hD := O4.C
         have hG := O4.F)
      | (at_builtin
         have AS2 := A2.set (Nat.le_refl _) (i := 7) (by simp) (.slice B1 l1.length d1)
         have OS2 := O2.far (p := ⟨w.heap.size, 7, none⟩) (Nat.le_refl _) (by simp) (.slice B1 l1.length d1)
         have HQ20 := Lib.hid (ownsRow_setCell_below (HO10).out (a := ⟨w.heap.size, 7, none⟩) (by simp) (.slice B1 l1.length d1))
         have HQ21 := Lib.hid (ownsRow_setCell_below (HO11).out (a := ⟨w.heap.size, 7, none⟩) (by simp) (.slice B1 l1.length d1))
         refine wpList_append_slv rfl _ _ 36 4 i2 (.bool false) 1 1 rfl Tryz.underlying36 DI.out DZ0.out DZ1.out DZ2.out rfl (by decide) (by decide) (w.heap.size + 2) _ 0 [] rfl (made_at _ _ _ _ _ (by simp) OS2.z) A2_ l2.length c2 (devCs l2) rfl R2.out (S2.out.below (AS2.K.alloc AS2.K.size _) (Nat.le_refl _)) (devCs_one l2) (by have := F2.out; omega) (le_alloc OS2.z) ?_
         intro v2 w4 hown hgrow
         have K2 := grown_at (by simp) hgrow
         have A3 := AS2.step K2
         have O3 := OS2.step K2
         replace hown : w4.ownsRow (w.heap.size + 2) 4 1 v2 l2.length (devCs l2) := by simpa using hown
         obtain ⟨B2, d2, rfl, -⟩ := open_rowR hown
         have HO22 := Lib.hid hown
         have HO20 := Lib.hid (ownsRow_below HQ20.out K2)
         have HO21 := Lib.hid (ownsRow_below HQ21.out K2)
         clear hown hgrow K2 hC hF hz AS2 OS2 A2 O2
         have hC := A3.C
         have hF := A3.F
         have hz := A3.z)
      | (at_builtin
         have AS1 := A1.set (Nat.le_refl _) (i := 6) (by simp) (.slice B0 l0.length d0)
         have OS1 := O1.far (p := ⟨w.heap.size, 6, none⟩) (Nat.le_refl _) (by simp) (.slice B0 l0.length d0)
         have HQ10 := Lib.hid (ownsRow_setCell_below (HO00).out (a := ⟨w.heap.size, 6, none⟩) (by simp) (.slice B0 l0.length d0))
         refine wpList_append_slv rfl _ _ 35 46 i1 (.agg #[.bool false, .int .i64 0]) 2 16 rfl Tryz.underlying35 GI.out GZ0.out GZ1.out GZ2.out rfl (by decide) (by decide) (w.heap.size + 2) _ 0 [] rfl (made_at _ _ _ _ _ (by simp) OS1.z) A1_ l1.length c1 (mntCs l1) rfl R1.out (S1.out.below (AS1.K.alloc AS1.K.size _) (Nat.le_refl _)) (mntCs_one l1) (by have := F1.out; omega) (le_alloc OS1.z) ?_
         intro v1 w3 hown hgrow
         have K1 := grown_at (by simp) hgrow
         have A2 := AS1.step K1
         have O2 := OS1.step K1
         replace hown : w3.ownsRow (w.heap.size + 2) 46 2 v1 l1.length (mntCs l1) := by simpa using hown
         obtain ⟨B1, d1, rfl, -⟩ := open_rowR hown
         have HO11 := Lib.hid hown
         have HO10 := Lib.hid (ownsRow_below HQ10.out K1)
         clear hown hgrow K1 hC hF hz AS1 OS1 A1 O1
         have hC := A2.C
         have hF := A2.F
         have hz := A2.z)
      | (at_builtin
         refine wpList_append_slv rfl _ _ 34 67 i0 (.agg #[.int .i64 0, .int .i64 0]) 2 16 rfl Tryz.underlying34 HI.out HZ0.out HZ1.out HZ2.out rfl (by decide) (by decide) (w.heap.size + 2) _ 0 [] rfl (made_at _ _ _ _ _ HW.out T0.O.z) A0_ l0.length c0 (podCs l0) rfl R0.out (S0.out.below (T0.A.K.alloc T0.A.K.size _) (Nat.le_refl _)) (podCs_one l0) (by have := F0.out; omega) (le_alloc T0.O.z) ?_
         intro v0 w2 hown hgrow
         have K0 := grown_at HW.out hgrow
         have A1 := T0.A.step K0
         have O1 := T0.O.step K0
         replace hown : w2.ownsRow (w.heap.size + 2) 67 2 v0 l0.length (podCs l0) := by simpa using hown
         obtain ⟨B0, d0, rfl, -⟩ := open_rowR hown
         have HO00 := Lib.hid hown
         clear hown hgrow K0 T0 HW
         have hC := A1.C
         have hF := A1.F
         have hz := A1.z))
  refine bodyPost_ret (v := .agg (stC B0 B1 B2 B3 l0.length d0 l1.length d1 l2.length d2 l3.length d3 ph co ck bo ba lb gd pr)) ?_ rfl ⟨_, rfl, ⟨_, _, _, _, rfl, ?_, ?_, ?_, ?_⟩, ?_⟩
  · simp [results, Tryz.results58, go_sem, hD]
  · refine ownsRow_base (base := w.heap.size + 2) ?_ (by omega)
    iterate 13 (refine ownsRow_setCell_below ?_ (by simp) _)
    exact HO30.out
  · refine ownsRow_base (base := w.heap.size + 2) ?_ (by omega)
    iterate 13 (refine ownsRow_setCell_below ?_ (by simp) _)
    exact HO31.out
  · refine ownsRow_base (base := w.heap.size + 2) ?_ (by omega)
    iterate 13 (refine ownsRow_setCell_below ?_ (by simp) _)
    exact HO32.out
  · refine ownsRow_base (base := w.heap.size + 2) ?_ (by omega)
    iterate 13 (refine ownsRow_setCell_below ?_ (by simp) _)
    exact HO33.out
  · iterate 13 (refine Below.setCell ?_ (by simp) _)
    exact A4.K
end Go.Proofs.YtdkmhaghnfhajaaGreat
/- Up -/
set_option linter.unusedVariables false
namespace Go.Proofs.YtdkmhaghnfhajaaGreat
open Go.RowKit

/-- A row of whole numbers of the call's own. -/
def LkR (w : World) (B : Nat) (v : Value) (l : List Int) : Prop := w.ownsRow B 2 1 v l.length (lkCs l)
theorem LkR.push {w' : World} {B : Nat} {v' : Value} {l : List Int} (a : Int) (h' : w'.ownsRow B 2 1 v' (l.length + 1) (lkCs l ++ [.int .i64 a])) : LkR w' B v' (l ++ [a]) := by
  unfold LkR
  rw [List.length_append]
  have : lkCs (l ++ [a]) = lkCs l ++ [.int .i64 a] := by simp [lkCs]
  rw [this]
  exact h'
theorem LkR.lt {w : World} {B : Nat} {v : Value} {l : List Int} (h : LkR w B v l) {r : Nat} (hr : v.ownBlock = some r) : B ≤ r ∧ r < w.heap.size := World.ownsRow.lt h r hr
theorem LkR.empty (w : World) (B : Nat) (hB : B ≤ w.heap.size) : LkR (w.alloc (.cells #[] 2)) B (.slice (some ⟨w.heap.size, 0, none⟩) 0 0) [] := made_empty w B _ _ hB

theorem lk_at {w : World} {B n : Nat} {A : Option Addr} {l : List Int} (h : SlV w B 1 A n (lkCs l)) (hn : l.length = n) {k : Nat} (hk : k < n) : ∃ b off, A = some ⟨b, off, none⟩ ∧ b < B ∧ w.cell? ⟨b, off + k, none⟩ = some (.int .i64 (lkA l k)) := by
  obtain ⟨b, off, e, hb, hc⟩ := h.cell hk
  have := hc 0 (by decide)
  rw [Nat.mul_one, Nat.add_zero] at this
  exact ⟨b, off, e, hb, this.trans (lkCs_at l (by omega))⟩
theorem take_snoc (l : List Int) {k : Nat} (hk : k < l.length) : l.take (k + 1) = l.take k ++ [lkA l k] := by
  rw [List.take_add_one, List.getElem?_eq_getElem hk]
  have : lkA l k = l[k] := by simp [lkA, List.getD, List.getElem?_eq_getElem hk]
  rw [this]
  rfl
theorem without_len (l : List Int) (x : Int) : (withoutN l x).length ≤ l.length := List.length_filter_le _ _

set_option maxRecDepth 4000 in
set_option maxHeartbeats 2000000 in
theorem l6Without_any (A : Option Addr) (n c : Nat) (l : List Int) (x : Int) (w : World) (h : SlV w w.heap.size 1 A n (lkCs l)) (hl : l.length = n) (hn : n ≤ 1048576) :
    Calls Tryz.prog 99 #[.slice A n c, .int .i64 x] w fun e w' => ∃ v, e = .returned v ∧ LkR w' w.heap.size v (withoutN l x) ∧ Below w.heap.size w w' := by
  have H := Lib.hid h
  have HL := Lib.hid hl
  clear h hl
  obtain ⟨i1, hi, hz0, hz1, hz2⟩ := info_parts infoS_i64
  have GI := Lib.hid hi
  have GZ0 := Lib.hid hz0
  have GZ1 := Lib.hid hz1
  have GZ2 := Lib.hid hz2
  clear hi hz0 hz1 hz2
  have hn' : n ≤ 2 ^ 63 - 1 := by omega
  have HOA := Lib.hid (LkR.empty w w.heap.size (Nat.le_refl _))
  have HKA := Lib.hid ((Below.refl w.heap.size w).alloc (Nat.le_refl _) (.cells #[] 2))
  go_enter Tryz.func99, Tryz.ntmps99
  go_wp2_with fail
  go_loopw [5, 6] (fun s5 i wr => ∃ (k : Nat) (m : List Int), k ≤ n ∧ i = .int .i64 k ∧ m = withoutN (l.take k) x ∧ LkR wr w.heap.size s5 m ∧ Below w.heap.size w wr) (fun _ i _ => n - (intOf i).toNat)
  case atStart => exact ⟨0, [], Nat.zero_le _, rfl, rfl, HOA.out, HKA.out⟩
  case round =>
    clear HOA HKA
    obtain ⟨k, m, hk, rfl, hm, O, K⟩ := hrel
    have HM := Lib.hid hm
    have HO := Lib.hid O
    have HK := Lib.hid K
    clear hm O K
    by_cases hlt : k < n
    · obtain ⟨b, off, rfl, hb, q⟩ := lk_at ((H.out.below HK.out (Nat.le_refl _)).more HK.out.size) HL.out hlt
      have hts := take_snoc l (k := k) (by rw [HL.out]; exact hlt)
      have HT := Lib.hid hts
      clear hts
      generalize lkA l k = y at *
      have hs2 := HK.out.size
      have hml : m.length ≤ 1048576 := by
        rw [HM.out]
        refine Nat.le_trans (without_len _ _) ?_
        rw [List.length_take]
        omega
      have h63 : Hid (m.length + 1 ≤ maxLen) := Lib.hid (by unfold maxLen; omega)
      have hby : Hid ((m.length + 1) * 8 ≤ 140737488355328) := Lib.hid (by omega)
      clear hml
      by_cases hyx : y = x
      · subst hyx
        go_wp2
        exact ⟨⟨k + 1, m, by omega, by go_num, by rw [HM.out, HT.out]; simp [withoutN, List.filter_append], HO.out, HK.out⟩, by simp [intOf]; omega⟩
      · go_wp2_with ((at_builtin; refine wpList_append_own _ rfl _ _ 25 rfl _ 2 i1 (.int .i64 0) 1 8 Tryz.underlying25 GI.out GZ0.out GZ1.out GZ2.out rfl (by decide) _ _ _ rfl (ownsRow_below HO.out ((Below.refl _ _).alloc (Nat.le_refl _) _)) ⟨wr.heap.size, 0, none⟩ 1 1 [.int .i64 y] rfl rfl (cell_one_new _ _ _) (fun x hx => by simp at hx; subst hx; rfl) h63.out hby.out (by simp; omega) ?_; intro v' w4 hown' hgrow hnil))
        exact ⟨⟨k + 1, m ++ [y], by omega, by go_num, by rw [HM.out, HT.out]; simp [withoutN, List.filter_append, hyx], LkR.push _ hown', (HK.out.alloc hs2 _).grown hgrow (by simp; omega) fun r hr => (HO.out.lt hr).1⟩, by simp [intOf]; omega⟩
    · obtain rfl : k = n := by omega
      go_wp2
      go_ret
      exact ⟨_, rfl, by rw [← List.take_of_length_le (Nat.le_of_eq HL.out), ← HM.out]; exact HO.out, HK.out⟩
end Go.Proofs.YtdkmhaghnfhajaaGreat
/- Uq -/
set_option linter.unusedVariables false
namespace Go.Proofs.YtdkmhaghnfhajaaGreat
open Go.RowKit

theorem withN_low {x : Int} {P : List Int} (Q : List Int) (h : ∀ y ∈ P, y < x) : withN x (P ++ Q) = P ++ withN x Q := by
  induction P with
  | nil => rfl
  | cons y P ih =>
    have hy := h y (by simp)
    have e : withN x (y :: (P ++ Q)) = (if x < y then x :: y :: (P ++ Q) else if x = y then y :: (P ++ Q) else y :: withN x (P ++ Q)) := rfl
    show withN x (y :: (P ++ Q)) = _
    rw [e, if_neg (by omega), if_neg (by omega), ih fun z hz => h z (by simp [hz])]
    rfl
theorem withN_hi {x : Int} {P : List Int} (Q : List Int) (h : ∃ y ∈ P, x ≤ y) : withN x (P ++ Q) = withN x P ++ Q := by
  induction P with
  | nil => simp at h
  | cons y P ih =>
    show withN x (y :: (P ++ Q)) = _
    unfold withN
    by_cases h1 : x < y
    · rw [if_pos h1, if_pos h1]; rfl
    · rw [if_neg h1, if_neg h1]
      by_cases h2 : x = y
      · rw [if_pos h2, if_pos h2]; rfl
      · rw [if_neg h2, if_neg h2]
        obtain ⟨z, hz, hx⟩ := h
        rw [ih ⟨z, by
          rcases List.mem_cons.1 hz with rfl | hz
          · omega
          · exact hz, hx⟩]
        rfl
theorem withN_len (x : Int) (l : List Int) : (withN x l).length ≤ l.length + 1 := by
  induction l with
  | nil => simp [withN]
  | cons y l ih =>
    unfold withN
    split
    · simp
    · split
      · simp
      · simpa using ih
/-- What stands in the list that is being made, behind k elements. -/
def putAt (l : List Int) (x : Int) (k : Nat) (put : Bool) (m : List Int) : Prop :=
  if put then (∃ y ∈ l.take k, x ≤ y) ∧ m = withN x (l.take k) else (∀ y ∈ l.take k, y < x) ∧ m = l.take k
theorem putAt.len {l : List Int} {x : Int} {k : Nat} {put : Bool} {m : List Int} (h : putAt l x k put m) : m.length ≤ l.length + 1 := by
  unfold putAt at h
  split at h
  · rw [h.2]
    refine Nat.le_trans (withN_len _ _) ?_
    rw [List.length_take]
    omega
  · rw [h.2, List.length_take]
    omega
theorem putAt.low {l : List Int} {x y : Int} {k : Nat} {m : List Int} (h : putAt l x k false m) (ht : l.take (k + 1) = l.take k ++ [y]) (hy : y < x) : putAt l x (k + 1) false (m ++ [y]) := by
  obtain ⟨h1, h2⟩ := h
  refine ⟨fun z hz => ?_, by rw [h2, ht]⟩
  rw [ht, List.mem_append] at hz
  rcases hz with hz | hz
  · exact h1 z hz
  · simp at hz; omega
theorem putAt.here {l : List Int} {x y : Int} {k : Nat} {m : List Int} (h : putAt l x k false m) (ht : l.take (k + 1) = l.take k ++ [y]) (hy : x < y) : putAt l x (k + 1) true (m ++ [x] ++ [y]) := by
  obtain ⟨h1, h2⟩ := h
  refine ⟨⟨y, by rw [ht]; simp, by omega⟩, ?_⟩
  rw [ht, withN_low _ h1, h2]
  simp [withN, hy]
theorem putAt.same {l : List Int} {x : Int} {k : Nat} {m : List Int} (h : putAt l x k false m) (ht : l.take (k + 1) = l.take k ++ [x]) : putAt l x (k + 1) true (m ++ [x]) := by
  obtain ⟨h1, h2⟩ := h
  refine ⟨⟨x, by rw [ht]; simp, by omega⟩, ?_⟩
  rw [ht, withN_low _ h1, h2]
  simp [withN]
theorem putAt.more {l : List Int} {x y : Int} {k : Nat} {m : List Int} (h : putAt l x k true m) (ht : l.take (k + 1) = l.take k ++ [y]) : putAt l x (k + 1) true (m ++ [y]) := by
  obtain ⟨⟨z, hz, hx⟩, h2⟩ := h
  refine ⟨⟨z, by rw [ht]; simp [hz], hx⟩, ?_⟩
  rw [ht, withN_hi _ ⟨z, hz, hx⟩, h2]
theorem putAt.above {l : List Int} {x y : Int} {k : Nat} {m : List Int} (h : putAt l x k true m) (ht : l.take (k + 1) = l.take k ++ [y]) (hr : l.Pairwise (· < ·)) : x < y := by
  obtain ⟨⟨z, hz, hx⟩, -⟩ := h
  have h1 : (l.take (k + 1)).Pairwise (· < ·) := hr.sublist (List.take_sublist _ _)
  rw [ht, List.pairwise_append] at h1
  have := h1.2.2 z hz y (by simp)
  omega

set_option maxRecDepth 4000 in
set_option maxHeartbeats 4000000 in
theorem l6With_any (A : Option Addr) (n c : Nat) (l : List Int) (x : Int) (w : World) (h : SlV w w.heap.size 1 A n (lkCs l)) (hl : l.length = n) (hn : n ≤ 1048576) (hr : l.Pairwise (· < ·)) :
    Calls Tryz.prog 98 #[.slice A n c, .int .i64 x] w fun e w' => ∃ v, e = .returned v ∧ LkR w' w.heap.size v (withN x l) ∧ Below w.heap.size w w' := by
  have H := Lib.hid h
  have HL := Lib.hid hl
  have HR := Lib.hid hr
  clear h hl hr
  obtain ⟨i1, hi, hz0, hz1, hz2⟩ := info_parts infoS_i64
  have GI := Lib.hid hi
  have GZ0 := Lib.hid hz0
  have GZ1 := Lib.hid hz1
  have GZ2 := Lib.hid hz2
  clear hi hz0 hz1 hz2
  have hn' : n ≤ 2 ^ 63 - 1 := by omega
  have HOA := Lib.hid (LkR.empty w w.heap.size (Nat.le_refl _))
  have HKA := Lib.hid ((Below.refl w.heap.size w).alloc (Nat.le_refl _) (.cells #[] 2))
  go_enter Tryz.func98, Tryz.ntmps98
  go_wp2_with fail
  go_loopw [5, 6, 7] (fun s5 s6 i wr => ∃ (k : Nat) (put : Bool) (m : List Int), k ≤ n ∧ s6 = .bool put ∧ i = .int .i64 k ∧ putAt l x k put m ∧ LkR wr w.heap.size s5 m ∧ Below w.heap.size w wr) (fun _ _ i _ => n - (intOf i).toNat)
  case atStart => exact ⟨0, false, [], Nat.zero_le _, rfl, rfl, ⟨by simp, rfl⟩, HOA.out, HKA.out⟩
  case round =>
    clear HOA HKA
    obtain ⟨k, put, m, hk, rfl, rfl, hm, O, K⟩ := hrel
    have HM := Lib.hid hm
    have HO := Lib.hid O
    have HK := Lib.hid K
    have hml := hm.len
    rw [HL.out] at hml
    have h63 : Hid (m.length + 1 ≤ maxLen) := Lib.hid (by unfold maxLen; omega)
    have hby : Hid ((m.length + 1) * 8 ≤ 140737488355328) := Lib.hid (by omega)
    have h64 : Hid ((m ++ [x]).length + 1 ≤ maxLen) := Lib.hid (by rw [List.length_append, List.length_singleton]; unfold maxLen; omega)
    have hbz : Hid (((m ++ [x]).length + 1) * 8 ≤ 140737488355328) := Lib.hid (by rw [List.length_append, List.length_singleton]; omega)
    clear hm O K hml
    have hs2 := HK.out.size
    by_cases hlt : k < n
    · obtain ⟨b, off, rfl, hb, q0⟩ := lk_at H.out HL.out hlt
      have HQ : Hid (∀ W : World, Below w.heap.size w W → W.cell? ⟨b, off + k, none⟩ = some (.int .i64 (lkA l k))) := Lib.hid fun W K => (K.cell (p := ⟨b, off + k, none⟩) hb).trans q0
      have q := HQ.out _ HK.out
      clear q0
      have hts := take_snoc l (k := k) (by rw [HL.out]; exact hlt)
      have HT := Lib.hid hts
      clear hts
      generalize lkA l k = y at *
      cases put
      · by_cases hxy : x ≤ y
        · by_cases hyx : y = x
          · subst hyx
            go_wp2_with ((at_builtin; refine wpList_append_own _ rfl _ _ 25 rfl _ 2 i1 (.int .i64 0) 1 8 Tryz.underlying25 GI.out GZ0.out GZ1.out GZ2.out rfl (by decide) _ _ _ rfl (ownsRow_below HO.out ((Below.refl _ _).alloc (Nat.le_refl _) _)) ⟨wr.heap.size, 0, none⟩ 1 1 [.int .i64 y] rfl rfl (cell_one_new _ _ _) (fun x hx => by simp at hx; subst hx; rfl) h63.out hby.out (by simp; omega) ?_; intro v' w4 hown' hgrow hnil; have q2 := HQ.out _ ((HK.out.alloc hs2 _).grown hgrow (by simp; omega) fun r hr => (HO.out.lt hr).1); have HG := Lib.hid hgrow; have HO4 := Lib.hid hown'; clear hgrow hnil hown'))
            exact ⟨⟨k + 1, true, m ++ [y], by omega, rfl, by go_num, HM.out.same HT.out, LkR.push _ HO4.out, (HK.out.alloc hs2 _).grown HG.out (by simp; omega) fun r hr => (HO.out.lt hr).1⟩, by simp [intOf]; omega⟩
          · go_wp2_with (first | (at_builtin; have hq := HO1; clear hq; refine wpList_append_own _ rfl _ _ 25 rfl _ 2 i1 (.int .i64 0) 1 8 Tryz.underlying25 GI.out GZ0.out GZ1.out GZ2.out rfl (by decide) _ _ _ rfl (ownsRow_below HO1.out ((Below.refl _ _).alloc (Nat.le_refl _) _)) ⟨w3.heap.size, 0, none⟩ 1 1 [.int .i64 y] rfl rfl (cell_one_new _ _ _) (fun x hx => by simp at hx; subst hx; rfl) h64.out hbz.out (by simp; omega) ?_; intro v' w4 hown' hgrow hnil; skip) | (at_builtin; refine wpList_append_own _ rfl _ _ 25 rfl _ 2 i1 (.int .i64 0) 1 8 Tryz.underlying25 GI.out GZ0.out GZ1.out GZ2.out rfl (by decide) _ _ _ rfl (ownsRow_below HO.out ((Below.refl _ _).alloc (Nat.le_refl _) _)) ⟨wr.heap.size, 0, none⟩ 1 1 [.int .i64 x] rfl rfl (cell_one_new _ _ _) (fun x hx => by simp at hx; subst hx; rfl) h63.out hby.out (by simp; omega) ?_; intro v1 w3 hown' hgrow hnil; have HO1 := Lib.hid (LkR.push _ hown'); have HK1 := Lib.hid ((HK.out.alloc hs2 _).grown hgrow (by simp; omega) fun r hr => (HO.out.lt hr).1); clear hown' hgrow hnil; have hs3 := HK1.out.size; have q2 := HQ.out _ HK1.out))
            exact ⟨⟨k + 1, true, m ++ [x] ++ [y], by omega, rfl, by go_num, HM.out.here HT.out (by omega), LkR.push _ hown', (HK1.out.alloc hs3 _).grown hgrow (by simp; omega) fun r hr => (HO1.out.lt hr).1⟩, by simp [intOf]; omega⟩
        · go_wp2_with ((at_builtin; refine wpList_append_own _ rfl _ _ 25 rfl _ 2 i1 (.int .i64 0) 1 8 Tryz.underlying25 GI.out GZ0.out GZ1.out GZ2.out rfl (by decide) _ _ _ rfl (ownsRow_below HO.out ((Below.refl _ _).alloc (Nat.le_refl _) _)) ⟨wr.heap.size, 0, none⟩ 1 1 [.int .i64 y] rfl rfl (cell_one_new _ _ _) (fun x hx => by simp at hx; subst hx; rfl) h63.out hby.out (by simp; omega) ?_; intro v' w4 hown' hgrow hnil; skip))
          exact ⟨⟨k + 1, false, m ++ [y], by omega, rfl, by go_num, HM.out.low HT.out (by omega), LkR.push _ hown', (HK.out.alloc hs2 _).grown hgrow (by simp; omega) fun r hr => (HO.out.lt hr).1⟩, by simp [intOf]; omega⟩
      · have hab := HM.out.above HT.out HR.out
        go_wp2_with ((at_builtin; refine wpList_append_own _ rfl _ _ 25 rfl _ 2 i1 (.int .i64 0) 1 8 Tryz.underlying25 GI.out GZ0.out GZ1.out GZ2.out rfl (by decide) _ _ _ rfl (ownsRow_below HO.out ((Below.refl _ _).alloc (Nat.le_refl _) _)) ⟨wr.heap.size, 0, none⟩ 1 1 [.int .i64 y] rfl rfl (cell_one_new _ _ _) (fun x hx => by simp at hx; subst hx; rfl) h63.out hby.out (by simp; omega) ?_; intro v' w4 hown' hgrow hnil; skip))
        exact ⟨⟨k + 1, true, m ++ [y], by omega, rfl, by go_num, HM.out.more HT.out, LkR.push _ hown', (HK.out.alloc hs2 _).grown hgrow (by simp; omega) fun r hr => (HO.out.lt hr).1⟩, by simp [intOf]; omega⟩
    · obtain rfl : k = n := by omega
      have htk : l.take l.length = l := List.take_length
      cases put
      · go_wp2_with ((at_builtin; refine wpList_append_own _ rfl _ _ 25 rfl _ 2 i1 (.int .i64 0) 1 8 Tryz.underlying25 GI.out GZ0.out GZ1.out GZ2.out rfl (by decide) _ _ _ rfl (ownsRow_below HO.out ((Below.refl _ _).alloc (Nat.le_refl _) _)) ⟨wr.heap.size, 0, none⟩ 1 1 [.int .i64 x] rfl rfl (cell_one_new _ _ _) (fun x hx => by simp at hx; subst hx; rfl) h63.out hby.out (by simp; omega) ?_; intro v' w4 hown' hgrow hnil; skip))
        go_ret
        exact ⟨_, rfl, by
          have h := HM.out
          rw [← HL.out] at h
          have h1 := h.1
          have h2 := h.2
          rw [htk] at h1 h2
          have := withN_low (x := x) [] h1
          rw [List.append_nil] at this
          rw [this, ← h2]
          exact LkR.push _ hown', (HK.out.alloc hs2 _).grown hgrow (by simp; omega) fun r hr => (HO.out.lt hr).1⟩
      · go_wp2
        go_ret
        exact ⟨_, rfl, by
          have h := HM.out
          rw [← HL.out] at h
          have h2 := h.2
          rw [htk] at h2
          rw [← h2]
          exact HO.out, HK.out⟩
end Go.Proofs.YtdkmhaghnfhajaaGreat
