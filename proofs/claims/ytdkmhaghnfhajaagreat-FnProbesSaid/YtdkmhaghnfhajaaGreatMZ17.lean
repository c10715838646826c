/-
  The program's table of changes.
-/
import Derived.Test.YtdkmhaghnfhajaaGreatMZ13
import Derived.Test.YtdkmhaghnfhajaaGreatMZ7
import Derived.Test.YtdkmhaghnfhajaaGreatMZ15
import Derived.Test.YtdkmhaghnfhajaaGreatMZxDm
import Derived.Test.YtdkmhaghnfhajaaGreatMZ0
import Derived.Deep.DeepCutAuto
import Derived.Shelf.SlicesG.SearchI
import Derived.Shelf.SlicesG.Delete
import Derived.Test.YtdkmhaghnfhajaaGreatMZ3
import Derived.Shelf.Spec.SlicesInsertGrow
import Derived.Lib.AppendZerosOnto
import Derived.Lib.Overlaps
import Derived.Sort.OwnSortedInts
import Derived.Test.YtdkmhaghnfhajaaGreatMZ8
import Derived.Test.YtdkmhaghnfhajaaGreatMZ5
import Derived.Test.YtdkmhaghnfhajaaGreatMZ4
import Derived.Laws.EntriesVeiled
/- Tj -/
set_option linter.unusedVariables false
namespace Go.Proofs.YtdkmhaghnfhajaaGreat
open Go.RowKit

/-- A list, as far as k its own, behind that all z. -/
def part {α : Type} (l : List α) (z : α) (k : Nat) : List α := l.mapIdx fun i q => if i < k then q else z
theorem part_get {α : Type} {l : List α} {z : α} {k i : Nat} : (part l z k)[i]? = l[i]?.map fun q => if i < k then q else z := by simp [part, List.getElem?_mapIdx]
theorem part_length {α : Type} (l : List α) (z : α) (k : Nat) : (part l z k).length = l.length := by simp [part]
theorem part_zero {α : Type} (l : List α) (z : α) : part l z 0 = List.replicate l.length z := by
  refine List.ext_getElem? fun i => ?_
  rw [part_get, List.getElem?_replicate]
  by_cases h : i < l.length
  · rw [List.getElem?_eq_getElem h, if_pos h]
    simp
  · rw [List.getElem?_eq_none (by omega), if_neg h]
    rfl
theorem part_full {α : Type} (l : List α) (z : α) : part l z l.length = l := by
  refine List.ext_getElem? fun i => ?_
  rw [part_get]
  by_cases h : i < l.length
  · rw [List.getElem?_eq_getElem h]
    simp [h]
  · rw [List.getElem?_eq_none (by omega)]
    rfl
theorem part_set {α : Type} {l : List α} {z q : α} {k : Nat} (hq : l[k]? = some q) : (part l z k).set k q = part l z (k + 1) := by
  refine List.ext_getElem? fun i => ?_
  rw [List.getElem?_set, part_length, part_get, part_get]
  by_cases e : k = i
  · subst e
    rw [if_pos rfl, if_pos (List.getElem?_eq_some_iff.1 hq).1, hq]
    simp
  · rw [if_neg e]
    congr 1
    funext q
    by_cases e2 : i < k
    · rw [if_pos e2, if_pos (by omega)]
    · rw [if_neg e2, if_neg (by omega)]
theorem part_same {α : Type} {l : List α} {z : α} {k : Nat} (hq : l[k]? = some z) : part l z (k + 1) = part l z k := by
  rw [← part_set hq]
  refine List.ext_getElem? fun i => ?_
  rw [List.getElem?_set, part_length, part_get]
  by_cases e : k = i
  · subst e
    rw [if_pos rfl, if_pos (List.getElem?_eq_some_iff.1 hq).1, hq]
    simp
  · rw [if_neg e]
theorem part_at {α : Type} {l : List α} {z q : α} {k : Nat} (hq : l[k]? = some q) : (part l z k)[k]? = some z := by
  rw [part_get, hq]
  simp
theorem run_cons {d : PlanD} {s x : StD} {r : RecD} {l : List RecD} (h : goodR d s r = true) (hl : runR d (applyR s r) l = some x) : runR d s (r :: l) = some x := by
  rw [runR, if_pos h, hl]

theorem snap_pods {d : PlanD} {s M : StD} (hM : StOk d M) (hs : StOk d s) (hp : M.pods = List.replicate s.pods.length (0, 0)) : ∀ n, n ≤ s.pods.length →
    ∃ c, runR d M (upTo n (snapP s)) = some { M with pods := part s.pods (0, 0) n, ck := c }
  | 0, _ => ⟨M.ck, by rw [upTo_zero, part_zero, ← hp]; rfl⟩
  | n + 1, hn => by
    obtain ⟨c, ih⟩ := snap_pods hM hs hp n (by omega)
    have h12 := (planOk_lock hs.plan).2.2.1
    have hX := runR_ok hM ih
    obtain ⟨q, hq⟩ : ∃ q, s.pods[n]? = some q := ⟨_, List.getElem?_eq_getElem (by omega)⟩
    have hA : podA s.pods n = q := by simp [podA, List.getD, hq]
    have hb := hs.pods q (List.mem_of_getElem? hq)
    have hn0 : n < d.n0 := by rw [← hs.np]; omega
    rw [upTo_next, runR_append, ih, Option.bind_some]
    unfold snapP
    rw [hA]
    by_cases h0 : q.1 = 0 ∧ q.2 = 0
    · rw [if_pos h0]
      obtain ⟨a, b⟩ := q
      obtain ⟨rfl, rfl⟩ := h0
      exact ⟨c, by rw [part_same hq]; rfl⟩
    · rw [if_neg h0]
      refine ⟨q.2, run_cons (goodR_of ?_ rfl (ok_clock hX hb.2)) ?_⟩
      · rw [recOkB_true]; simp only []; omega
      · refine run_cons (goodR_of ?_ ?_ (ok_pod (ok_clock hX hb.2) hb.1)) ?_
        · rw [recOkB_true]; simp only []; omega
        · simp [thereB, applyR, part_length]; omega
        · simp only [runR, applyR]
          simp [← part_set hq]
theorem snap_mnts {d : PlanD} {s M : StD} (hM : StOk d M) (hs : StOk d s) (hm : M.mnts = List.replicate s.mnts.length (true, 0)) : ∀ n, n ≤ s.mnts.length →
    runR d M (upTo n (snapM s)) = some { M with mnts := part s.mnts (true, 0) n }
  | 0, _ => by rw [upTo_zero, part_zero, ← hm]; rfl
  | n + 1, hn => by
    have ih := snap_mnts hM hs hm n (by omega)
    have h12 := (planOk_lock hs.plan).2.2.2.2.1
    have hX := runR_ok hM ih
    obtain ⟨q, hq⟩ : ∃ q, s.mnts[n]? = some q := ⟨_, List.getElem?_eq_getElem (by omega)⟩
    have hA : mntA s.mnts n = q := by simp [mntA, List.getD, hq]
    have hb := hs.mnts q (List.mem_of_getElem? hq)
    have hn2 : n < d.n2 := by rw [← hs.nm]; omega
    rw [upTo_next, runR_append, ih, Option.bind_some]
    unfold snapM
    rw [hA]
    obtain ⟨held, busy⟩ := q
    cases held
    · obtain rfl : busy = 0 := hb.2 rfl
      simp only [Bool.false_eq_true, if_false, if_true, List.append_nil]
      refine run_cons (goodR_of ?_ ?_ (ok_free hX)) ?_
      · rw [recOkB_true]; simp only []; omega
      · simp [thereB, part_length]; omega
      · simp only [runR, applyR]
        simp [← part_set hq]
    · simp only [if_true, List.nil_append]
      by_cases h0 : busy = 0
      · subst h0
        rw [if_pos rfl, part_same hq]
        rfl
      · rw [if_neg h0]
        have hg : ((part s.mnts (true, 0) n).getD n (false, 0)).1 = true := by rw [List.getD, part_at hq]; rfl
        refine run_cons (goodR_of ?_ ?_ (ok_busy hX hb.1 (by simpa using hg))) ?_
        · rw [recOkB_true]; simp only []; omega
        · simp [thereB, part_length]; omega
        · simp only [runR, applyR]
          simp [← part_set hq, part_at hq]
theorem snap_devs {d : PlanD} {s M : StD} (hM : StOk d M) (hs : StOk d s) (hv : M.devs = List.replicate s.devs.length true) : ∀ n, n ≤ s.devs.length →
    runR d M (upTo n (snapV s)) = some { M with devs := part s.devs true n }
  | 0, _ => by rw [upTo_zero, part_zero, ← hv]; rfl
  | n + 1, hn => by
    have ih := snap_devs hM hs hv n (by omega)
    have h12 := (planOk_lock hs.plan).2.2.2.2.2
    have hX := runR_ok hM ih
    obtain ⟨q, hq⟩ : ∃ q, s.devs[n]? = some q := ⟨_, List.getElem?_eq_getElem (by omega)⟩
    have hA : devA s.devs n = q := by simp [devA, List.getD, hq]
    have hn3 : n < d.n3 := by rw [← hs.nd]; omega
    rw [upTo_next, runR_append, ih, Option.bind_some]
    unfold snapV
    rw [hA]
    cases q
    · simp only [Bool.false_eq_true, if_false]
      refine run_cons (goodR_of ?_ ?_ (ok_give hX)) ?_
      · rw [recOkB_true]; simp only []; omega
      · simp [thereB, part_length]; omega
      · simp only [runR, applyR]
        simp [← part_set hq]
    · simp only [if_true]
      rw [part_same hq]
      rfl
theorem withN_last {x : Int} : ∀ {p : List Int}, (∀ y ∈ p, y < x) → withN x p = p ++ [x]
  | [], _ => rfl
  | y :: p, h => by
    have hy := h y (by simp)
    unfold withN
    rw [if_neg (by omega), if_neg (by omega), withN_last fun z hz => h z (by simp [hz])]
    rfl
theorem snap_lks {d : PlanD} : ∀ (q : List Int) {M : StD} {p : List Int}, StOk d M → M.lks = p → (p ++ q).Pairwise (· < ·) → (∀ x ∈ q, 0 ≤ x ∧ x ≤ 7) → runR d M (q.map (fun x => (⟨6, x, 0⟩ : RecD))) = some { M with lks := p ++ q }
  | [], M, p, _, hp, _, _ => by rw [List.append_nil, ← hp]; rfl
  | x :: q, M, p, hM, hp, hr, hq => by
    have hx := hq x (by simp)
    have hlt : ∀ y ∈ p, y < x := fun y hy => (List.pairwise_append.1 hr).2.2 y hy x (by simp)
    have hl : (applyR M ⟨6, x, 0⟩).lks = p ++ [x] := by
      subst hp
      simp [applyR, withN_last hlt]
    rw [List.map_cons]
    refine run_cons (goodR_of ?_ rfl (ok_lock hM hx)) ?_
    · rw [recOkB_true]; simp only []; omega
    · rw [snap_lks q (ok_lock hM hx) hl (by simpa using hr) fun z hz => hq z (by simp [hz])]
      simp [applyR]

/-- Chapter 14: a snapshot makes its state. -/
theorem snap_run {d : PlanD} {s : StD} (h : StOk d s) : runR d (newS d) (snapL s) = some s := by
  have hN := newS_ok h.plan
  obtain ⟨ph, co, ck, bo, ba, lb, pods, mnts, devs, lks, gd, pr⟩ := s
  have hn : newS d = (StD.mk 0 false 0 0 0 0 (List.replicate pods.length (0, 0)) (List.replicate mnts.length (true, 0)) (List.replicate devs.length true) [] 0 0) := by
    unfold newS
    rw [if_pos h.plan, ← h.np, ← h.nm, ← h.nd]
    rfl
  rw [hn] at hN ⊢
  have rA : runR d (StD.mk 0 false 0 0 0 0 (List.replicate pods.length (0, 0)) (List.replicate mnts.length (true, 0)) (List.replicate devs.length true) [] 0 0) (snapA (StD.mk ph co ck bo ba lb pods mnts devs lks gd pr)) = some (StD.mk ph co 0 0 0 0 (List.replicate pods.length (0, 0)) (List.replicate mnts.length (true, 0)) (List.replicate devs.length true) [] 0 0) := by
    unfold snapA
    dsimp only
    by_cases h0 : ph = 0
    · have hc : co = false := by rw [show co = _ from h.co, h0]; rfl
      rw [if_pos h0, h0, hc]
      rfl
    · have hc : co = true := by rw [show co = _ from h.co]; simp [h0]
      have hp := h.ph
      dsimp only at hp
      rw [if_neg h0, hc]
      refine run_cons (goodR_of ?_ rfl (ok_phase hN (by omega))) ?_
      · rw [recOkB_true]; simp only []; omega
      · simp [runR, applyR, h0]
  have hA := runR_ok hN rA
  have rB : runR d (StD.mk ph co 0 0 0 0 (List.replicate pods.length (0, 0)) (List.replicate mnts.length (true, 0)) (List.replicate devs.length true) [] 0 0) (snapB (StD.mk ph co ck bo ba lb pods mnts devs lks gd pr)) = some (StD.mk ph co 0 bo 0 0 (List.replicate pods.length (0, 0)) (List.replicate mnts.length (true, 0)) (List.replicate devs.length true) [] 0 0) := by
    unfold snapB
    dsimp only
    by_cases h0 : bo = 0
    · rw [if_pos h0, h0]
      rfl
    · have hb := h.bo
      dsimp only at hb
      rw [if_neg h0]
      refine run_cons (goodR_of ?_ rfl (ok_boot hA hb)) ?_
      · rw [recOkB_true]; simp only []; omega
      · simp [runR, applyR]
  have hB := runR_ok hA rB
  obtain ⟨c, rP⟩ := snap_pods hB h rfl pods.length (Nat.le_refl _)
  dsimp only at rP
  rw [part_full] at rP
  have hP := runR_ok hB rP
  have gC : goodR d (StD.mk ph co c bo 0 0 pods (List.replicate mnts.length (true, 0)) (List.replicate devs.length true) [] 0 0) ⟨8, ck, 0⟩ = true := goodR_of (by rw [recOkB_true]; have := h.ck; dsimp only at this ⊢; omega) rfl (ok_clock hP h.ck)
  have hC : StOk d (StD.mk ph co ck bo 0 0 pods (List.replicate mnts.length (true, 0)) (List.replicate devs.length true) [] 0 0) := ok_clock hP h.ck
  have rM := snap_mnts hC h rfl mnts.length (Nat.le_refl _)
  dsimp only at rM
  rw [part_full] at rM
  have hM := runR_ok hC rM
  have rV := snap_devs hM h rfl devs.length (Nat.le_refl _)
  dsimp only at rV
  rw [part_full] at rV
  have hV := runR_ok hM rV
  have rL : runR d (StD.mk ph co ck bo 0 0 pods mnts devs [] 0 0) (lks.map (fun x => (⟨6, x, 0⟩ : RecD))) = some (StD.mk ph co ck bo 0 0 pods mnts devs lks 0 0) := snap_lks (p := []) lks hV rfl h.rise h.lks
  have hL := runR_ok hV rL
  have g9 : goodR d (StD.mk ph co ck bo 0 0 pods mnts devs lks 0 0) ⟨9, ba, 0⟩ = true := goodR_of (by rw [recOkB_true]; have := h.ba; dsimp only at this ⊢; omega) rfl (ok_band hL h.ba)
  have h9 := ok_band hL h.ba
  have g11 := goodR_of (r := ⟨11, lb, 0⟩) (by rw [recOkB_true]; have := h.lb; dsimp only at this ⊢; omega) rfl (ok_lockBy h9 h.lb)
  have h11 := ok_lockBy h9 h.lb
  have ht := planOk_tries h.plan
  have g12 := goodR_of (r := ⟨12, gd, pr⟩) (by rw [recOkB_true]; have := h.gd; have := h.pr; dsimp only at *; omega) rfl (ok_probe h11 h.gd h.pr)
  have rE : runR d (StD.mk ph co ck bo 0 0 pods mnts devs lks 0 0) [⟨9, ba, 0⟩, ⟨11, lb, 0⟩, ⟨12, gd, pr⟩] = some (StD.mk ph co ck bo ba lb pods mnts devs lks gd pr) := run_cons g9 (run_cons g11 (run_cons g12 rfl))
  have rC : runR d (StD.mk ph co c bo 0 0 pods (List.replicate mnts.length (true, 0)) (List.replicate devs.length true) [] 0 0) [⟨8, ck, 0⟩] = some (StD.mk ph co ck bo 0 0 pods (List.replicate mnts.length (true, 0)) (List.replicate devs.length true) [] 0 0) := run_cons gC rfl
  unfold snapL
  dsimp only
  rw [runR_append, runR_append, rA, Option.bind_some, rB, Option.bind_some, runR_append, rP, Option.bind_some, runR_append, rC, Option.bind_some, runR_append, rM, Option.bind_some, runR_append, rV, Option.bind_some, runR_append, rL, Option.bind_some, rE]
end Go.Proofs.YtdkmhaghnfhajaaGreat
/- El -/
set_option linter.unusedVariables false
namespace Go.Proofs.YtdkmhaghnfhajaaGreat
open Go.RowKit

theorem writeN_of {l : List RecD} (h : writeB l = true) : writeN l = some (wroteN l) := by
  unfold writeN
  rw [if_pos (writeB_true h), wroteN_yes h]
theorem readN_wrote {l : List RecD} (h : writeB l = true) : readN (wroteN l) = some l := read_write (writeN_of h)
end Go.Proofs.YtdkmhaghnfhajaaGreat
/- Tk -/
set_option linter.unusedVariables false
namespace Go.Proofs.YtdkmhaghnfhajaaGreat
open Go.RowKit

/-- A record that is no probe and leads to no phase of coming back. -/
def plainR (r : RecD) : Bool := (r.k != 12) && (r.k != 1 || (r.a != 6 && r.a != 7))
/-- A machine that is coming back has probes left. -/
def Prb (d : PlanD) (s : StD) : Prop := (s.ph = 6 ∨ s.ph = 7) → s.pr < d.t
theorem plainR_true {r : RecD} (h : plainR r = true) : r.k ≠ 12 ∧ (r.k = 1 → r.a ≠ 6 ∧ r.a ≠ 7) := by
  obtain ⟨k, a, b⟩ := r
  dsimp only
  refine ⟨fun e => ?_, fun e => ?_⟩
  · subst e
    have h' : (false && ((12 : Int) != 1 || (a != 6 && a != 7))) = true := h
    cases h'
  · subst e
    have h' : (a != 6 && a != 7) = true := h
    rw [Bool.and_eq_true] at h'
    exact ⟨bne_iff_ne.1 h'.1, bne_iff_ne.1 h'.2⟩
theorem prb_apply {d : PlanD} {s : StD} {r : RecD} (h : Prb d s) (hr : plainR r = true) : Prb d (applyR s r) := by
  obtain ⟨h12, h1⟩ := plainR_true hr
  unfold applyR
  by_cases e : r.k = 1
  · rw [if_pos e]
    obtain ⟨h6, h7⟩ := h1 e
    split
    · rintro (hc | hc)
      · exact absurd (show (0 : Int) = 6 from hc) (by decide)
      · exact absurd (show (0 : Int) = 7 from hc) (by decide)
    · rintro (hc | hc)
      · exact absurd hc h6
      · exact absurd hc h7
  · rw [if_neg e]
    repeat' split
    all_goals first | exact h | contradiction
theorem prb_run {d : PlanD} : ∀ {l : List RecD} {s x : StD}, Prb d s → (∀ r ∈ l, plainR r = true) → runR d s l = some x → Prb d x
  | [], s, x, h, _, hx => by cases hx; exact h
  | r :: l, s, x, h, hl, hx => by
    simp only [runR] at hx
    split at hx
    · exact prb_run (prb_apply h (hl r (by simp))) (fun q hq => hl q (by simp [hq])) hx
    · cases hx
theorem run_fold {d : PlanD} : ∀ {l : List RecD} {s x : StD}, runR d s l = some x → x = l.foldl applyR s
  | [], s, x, hx => by cases hx; rfl
  | r :: l, s, x, hx => by
    simp only [runR] at hx
    split at hx
    · exact (run_fold hx : x = l.foldl applyR (applyR s r))
    · cases hx
theorem run_allOk {d : PlanD} : ∀ {l : List RecD} {s x : StD}, runR d s l = some x → allOk l = true
  | [], s, x, hx => rfl
  | r :: l, s, x, hx => by
    simp only [runR] at hx
    split at hx
    · rename_i hg
      simp only [goodR, Bool.and_eq_true] at hg
      have := run_allOk hx
      simp only [allOk, List.all_cons, Bool.and_eq_true] at this ⊢
      exact ⟨hg.1.1, this⟩
    · cases hx
theorem mem_recsOf {α : Type} {n : Nat} {g : Nat → Option α} {f : Nat → α → RecD} {r : RecD} (h : r ∈ recsOf n g f) : ∃ i x, r = f i x := by
  unfold recsOf at h
  obtain ⟨i, _, hi⟩ := List.mem_filterMap.1 h
  cases hg : g i with
  | none => rw [hg] at hi; cases hi
  | some x => rw [hg] at hi; cases hi; exact ⟨i, x, rfl⟩
def PlainP (p : List RecD × Int) : Prop := ∀ r ∈ p.1, plainR r = true
theorem plain_one {k a b : Int} (h : plainR ⟨k, a, b⟩ = true) : PlainP (oneR k a b) := by
  intro r hr
  simp only [oneR, List.mem_singleton] at hr
  rw [hr]; exact h
theorem plain_no (c : Int) : PlainP (noR c) := by intro r hr; simp [noR] at hr
theorem plain_three (x y : Int) : PlainP ([⟨11, x, 0⟩, ⟨9, y, 0⟩, ⟨1, 3, 0⟩], 0) := by
  intro r hr
  rcases List.mem_cons.1 hr with rfl | hr
  · rfl
  · rcases List.mem_cons.1 hr with rfl | hr
    · rfl
    · rcases List.mem_cons.1 hr with rfl | hr
      · rfl
      · cases hr
theorem plain_ite {c : Prop} [Decidable c] {p q : List RecD × Int} (hp : PlainP p) (hq : PlainP q) : PlainP (if c then p else q) := by
  split
  · exact hp
  · exact hq
theorem plain_command {d : PlanD} {s : StD} {k a b : Int} : PlainP (commandD d s k a b) := by
  unfold commandD phaseD evictD shutD cancelD lockD unlockD toldD busyD
  unfold phaseD
  repeat' first
    | exact plain_no _
    | exact plain_one rfl
    | exact plain_three _ _
    | apply plain_ite
theorem plain_tick {d : PlanD} {s : StD} : ∀ r ∈ tickL d s, plainR r = true := by
  intro r hr
  unfold tickL at hr
  rcases List.mem_cons.1 hr with rfl | hr
  · rfl
  · unfold shutL releaseL at hr
    repeat' split at hr
    all_goals first
      | (simp only [List.mem_singleton] at hr; rw [hr]; rfl)
      | (cases hr; done)
      | (obtain ⟨i, x, rfl⟩ := mem_recsOf hr; rfl)
      | (rcases List.mem_append.1 hr with hr | hr
         · obtain ⟨i, x, rfl⟩ := mem_recsOf hr
           unfold mntRec
           split <;> rfl
         · obtain ⟨i, x, rfl⟩ := mem_recsOf hr
           rfl)
theorem probe_prb {d : PlanD} {s x : StD} {good : Bool} (hx : runR d s (probeL d s good) = some x) : Prb d x := by
  have e := run_fold hx
  unfold probeL at e
  intro hc
  subst e
  repeat' split at hc
  · simp [applyR] at hc
  · simp [applyR] at hc
  · rename_i h1 h2 h3
    rw [if_neg h1, if_neg h2, if_pos h3]
    simp [applyR]
    omega
  · rename_i h1 h2 h3
    rw [if_neg h1, if_neg h2, if_neg h3]
    simp [applyR]
    omega
/-- What is planned of an order that is not refused goes. -/
theorem planned_runs {d : PlanD} {s : StD} {k a b : Int} (h : StOk d s) (hp : Prb d s) (hc : (plannedD d s k a b).2 = 0) : ∃ x, runR d s (plannedD d s k a b).1 = some x ∧ Prb d x := by
  have ht := planOk_tries h.plan
  unfold plannedD at hc ⊢
  split at hc
  · rename_i e
    rw [if_pos e]
    unfold planD at hc ⊢
    split at hc
    · rename_i e1
      rw [if_pos e1]
      unfold tickD at hc ⊢
      split at hc
      · exact absurd hc (by decide)
      · rename_i e2
        rw [if_neg e2]
        have hr := tick_run h (by omega)
        exact ⟨_, hr, prb_run hp plain_tick hr⟩
    · rename_i e1
      rw [if_neg e1]
      split at hc
      · rename_i e2
        rw [if_pos e2]
        unfold bootD at hc ⊢
        split at hc
        · rename_i e3
          rw [if_pos e3]
          split at hc
          · exact absurd hc (by decide)
          · rename_i e4
            rw [if_neg e4]
            refine ⟨_, boot_run h (inB_true.1 e3), fun _ => ?_⟩
            show (0 : Int) < d.t
            omega
        · exact absurd hc (by decide)
      · rename_i e2
        rw [if_neg e2]
        split at hc
        · rename_i e3
          rw [if_pos e3]
          unfold probeD at hc ⊢
          split at hc
          · rename_i e4
            rw [if_pos e4]
            obtain ⟨x, hx, -⟩ := probe_run (good := a == 1) h (hp e4)
            exact ⟨x, hx, probe_prb hx⟩
          · exact absurd hc (by decide)
        · rename_i e3
          rw [if_neg e3]
          obtain ⟨x, hx, -⟩ := command_run h hc
          exact ⟨x, hx, prb_run hp plain_command hx⟩
  · exact absurd hc (by decide)

/-- Lists of records, one list after the other. -/
def runLs (d : PlanD) : StD → List (List RecD) → Option StD
  | s, [] => some s
  | s, l :: ls => (runR d s l).bind fun x => runLs d x ls
theorem runLs_ok {d : PlanD} : ∀ {ls : List (List RecD)} {s x : StD}, StOk d s → runLs d s ls = some x → StOk d x
  | [], s, x, h, hx => by cases hx; exact h
  | l :: ls, s, x, h, hx => by
    simp only [runLs] at hx
    cases hr : runR d s l with
    | none => rw [hr] at hx; cases hx
    | some y => rw [hr] at hx; exact runLs_ok (runR_ok h hr) hx
theorem runLs_push {d : PlanD} : ∀ {ls : List (List RecD)} {s x : StD} {l : List RecD}, runLs d s ls = some x → runLs d s (ls ++ [l]) = runR d x l
  | [], s, x, l, hx => by
    cases hx
    simp only [List.nil_append, runLs]
    cases runR d s l <;> rfl
  | m :: ls, s, x, l, hx => by
    simp only [runLs, List.cons_append] at hx ⊢
    cases hr : runR d s m with
    | none => rw [hr] at hx; cases hx
    | some y => rw [hr] at hx; exact runLs_push hx
/-- An agent: its store is whole frames, and makes its state. -/
structure AgD (d : PlanD) (s : StD) (st : List Nat) : Prop where
  plan : planOkB d = true
  len : st.length ≤ 1200
  it : ∃ ls, framesN st = (ls, st.length) ∧ runLs d (newS d) ls = some s
  prb : Prb d s
theorem AgD.ok {d : PlanD} {s : StD} {st : List Nat} (h : AgD d s st) : StOk d s := by
  obtain ⟨ls, -, hr⟩ := h.it
  exact runLs_ok (newS_ok h.plan) hr
theorem ag_new {d : PlanD} (h : planOkB d = true) : AgD d (newS d) [] :=
  ⟨h, by simp, ⟨[], framesN_nil, rfl⟩, fun hc => by
    have : (newS d).ph = 0 := by unfold newS; rw [if_pos h]; rfl
    omega⟩
theorem snap_write {d : PlanD} {s : StD} (h : StOk d s) : writeB (snapL s) = true := by
  have ha := run_allOk (snap_run h)
  have hl := planOk_lock h.plan
  have h1 := snapA_le s
  have h2 := snapB_le s
  have h3 := upTo_le (n := s.pods.length) (snapP_le s)
  have h4 := upTo_le (n := s.mnts.length) (snapM_le s)
  have h5 := upTo_le (n := s.devs.length) (snapV_le s)
  have h6 := rise_len (a := 0) h.rise h.lks (by omega)
  have e0 := h.np
  have e2 := h.nm
  have e3 := h.nd
  have hlen : (snapL s).length ≤ 80 := by
    unfold snapL
    simp only [List.length_append, List.length_cons, List.length_nil, List.length_map]
    omega
  simp [writeB, ha, hlen]
/-- What an agent obeys keeps it right. -/
theorem ag_obey {d : PlanD} {s : StD} {st : List Nat} {k a b : Int} (h : AgD d s st) : AgD d (obeyD d s st k a b).1.1 (obeyD d s st k a b).1.2 := by
  unfold obeyD
  split
  · rename_i hc
    obtain ⟨x, hx, hp⟩ := planned_runs h.ok h.prb hc
    generalize (plannedD d s k a b).1 = l at hx ⊢
    cases hw : writeD s st l with
    | none => exact h
    | some y =>
      dsimp only
      rw [allS_some hx]
      dsimp only
      have hlen := writeD_len hw
      unfold writeD at hw
      split at hw
      · rename_i hwb
        split at hw
        · rename_i hsz
          cases hw
          obtain ⟨ls, hf, hr⟩ := h.it
          refine ⟨h.plan, hlen, ⟨ls ++ [l], ?_, by rw [runLs_push hr]; exact hx⟩, hp⟩
          rw [framedD_yes hwb]
          exact framesN_one hf (readN_wrote hwb)
        · split at hw
          · cases hw
            have hsw := snap_write h.ok
            refine ⟨h.plan, hlen, ⟨[snapL s] ++ [l], ?_, ?_⟩, hp⟩
            · rw [framedD_yes hwb, framedD_yes hsw]
              exact framesN_one (framesN_frame (readN_wrote hsw)) (readN_wrote hwb)
            · rw [runLs_push (x := s)]
              · exact hx
              · simp only [runLs, snap_run h.ok]
                rfl
          · cases hw
      · cases hw
  · exact h
end Go.Proofs.YtdkmhaghnfhajaaGreat
/- Nc -/
set_option linter.unusedVariables false
namespace Go.Proofs.YtdkmhaghnfhajaaGreat
open Go.RowKit

def GivesPSN (w : World) (e : Ending) (w' : World) : Prop :=
  ∃ v0 v1 v2 v3 d vs s k, e = .returned (.tuple #[.agg #[v0, v1, v2, v3, .int .i64 d.l, .int .i64 d.p, .int .i64 d.t], vs, .int .i64 k]) ∧ Lists w' w.heap.size v0 v1 v2 v3 d ∧ OwnSt w' w.heap.size vs s ∧ PlSmall d ∧ StSmall s ∧ Below w.heap.size w w'
theorem results_cells_num {P : Program} {fn : Func} {p q r : Tmp} {ty ty' : TypeId} (h : fn.results = #[.cell p ty, .cell q ty', .tmp r]) (tmps : Array Value) (w : World) (g g' : Nat) (t t' : TypeId) (cs cs' : Array Value) (fr fr' : Nat × Nat) (d d' : TypeDesc) (u : Value)
    (hp : tmps.getD p undef = .pointer (some ⟨g, 0, none⟩)) (hq : tmps.getD q undef = .pointer (some ⟨g', 0, none⟩)) (hr : tmps.getD r undef = u) (hg : w.heap[g]? = some (.cells cs t fr)) (hg' : w.heap[g']? = some (.cells cs' t' fr'))
    (hu : P.underlying ty = some d) (hd : (match d with | .struct _ | .array _ _ => true | _ => false) = true) (hi : (P.info? ty).map (·.size) = some cs.size)
    (hu' : P.underlying ty' = some d') (hd' : (match d' with | .struct _ | .array _ _ => true | _ => false) = true) (hi' : (P.info? ty').map (·.size) = some cs'.size) :
    (results fn tmps).run P w = .ok (.tuple #[.agg cs, .agg cs', u]) w := by
  have hp' : tmps[p]?.getD undef = .pointer (some ⟨g, 0, none⟩) := by simpa using hp
  have hq' : tmps[q]?.getD undef = .pointer (some ⟨g', 0, none⟩) := by simpa using hq
  have hr' : tmps[r]?.getD undef = u := by simpa using hr
  simp [results, h, hp', hq', hr', asAddr, run_loadVar_row w g t ty cs fr d hg hu hd hi, run_loadVar_row w g' t' ty' cs' fr' d' hg' hu' hd' hi']
/-- The numbers of a state beside its lists may be others. -/
theorem OwnSt.nums {w : World} {B : Nat} {v0 v1 v2 v3 : Value} {ph ck bo ba lb gd pr : Int} {co : Bool} {ps : List (Int × Int)} {ms : List (Bool × Int)} {ds : List Bool} {ls : List Int} (h : OwnSt w B (.agg #[.int .i64 ph, .bool co, .int .i64 ck, .int .i64 bo, .int .i64 ba, .int .i64 lb, v0, v1, v2, v3, .int .i64 gd, .int .i64 pr]) ⟨ph, co, ck, bo, ba, lb, ps, ms, ds, ls, gd, pr⟩)
    (ph' : Int) (co' : Bool) (ck' bo' ba' lb' gd' pr' : Int) : OwnSt w B (.agg #[.int .i64 ph', .bool co', .int .i64 ck', .int .i64 bo', .int .i64 ba', .int .i64 lb', v0, v1, v2, v3, .int .i64 gd', .int .i64 pr']) ⟨ph', co', ck', bo', ba', lb', ps, ms, ds, ls, gd', pr'⟩ := by
  obtain ⟨u0, u1, u2, u3, hy, z0, z1, z2, z3⟩ := h.it
  injection hy with hy
  have e0 : v0 = u0 := Option.some.inj (show some v0 = some u0 from congrArg (fun a : Array Value => a[6]?) hy)
  have e1 : v1 = u1 := Option.some.inj (show some v1 = some u1 from congrArg (fun a : Array Value => a[7]?) hy)
  have e2 : v2 = u2 := Option.some.inj (show some v2 = some u2 from congrArg (fun a : Array Value => a[8]?) hy)
  have e3 : v3 = u3 := Option.some.inj (show some v3 = some u3 from congrArg (fun a : Array Value => a[9]?) hy)
  subst e0 e1 e2 e3
  exact ⟨_, _, _, _, rfl, z0, z1, z2, z3⟩

set_option maxRecDepth 100000 in
set_option maxHeartbeats 8000000 in
theorem drawHealthyIn_any (A : Option Addr) (n c : Nat) (w : World) (hB : Bytes w w.heap.size A n) (hn : n ≤ 4096) : Calls Tryz.prog 27 #[.slice A n c] w (GivesPSN w) := by
  have HIP : Hid ((Tryz.prog.info? 29).map (·.size) = some 7) := Lib.hid (by kernel_rfl)
  have HIS : Hid ((Tryz.prog.info? 38).map (·.size) = some 12) := Lib.hid (by kernel_rfl)
  have b2 : ((w.alloc (.cells (planC none none none none 0 0 0 0 0 0 0 0 0 0 0) 29)).alloc (.cells (stC none none none none 0 0 0 0 0 0 0 0 0 false 0 0 0 0 0 0) 38)).heap[w.heap.size]? = some (.cells (planC none none none none 0 0 0 0 0 0 0 0 0 0 0) 29) := by
    have hb := (Below.refl (w.alloc (.cells (planC none none none none 0 0 0 0 0 0 0 0 0 0 0) 29)).heap.size (w.alloc (.cells (planC none none none none 0 0 0 0 0 0 0 0 0 0 0) 29))).alloc (Nat.le_refl _) (.cells (stC none none none none 0 0 0 0 0 0 0 0 0 false 0 0 0 0 0 0) 38)
    exact (hb.block w.heap.size (by simp)).trans (heap_alloc_new w _)
  have b3 := heap_alloc2_new w (.cells (planC none none none none 0 0 0 0 0 0 0 0 0 0 0) 29) (.cells (stC none none none none 0 0 0 0 0 0 0 0 0 false 0 0 0 0 0 0) 38)
  have KB : Below w.heap.size w ((w.alloc (.cells (planC none none none none 0 0 0 0 0 0 0 0 0 0 0) 29)).alloc (.cells (stC none none none none 0 0 0 0 0 0 0 0 0 false 0 0 0 0 0 0) 38)) := ((Below.refl _ _).alloc (Nat.le_refl _) _).alloc (by simp) _
  have HB := Lib.hid ((hB.below KB (Nat.le_refl _)).more KB.size)
  clear hB
  go_enter Tryz.func27, Tryz.ntmps27
  go_wp2_with fail
  generalize ((w.alloc (.cells (planC none none none none 0 0 0 0 0 0 0 0 0 0 0) 29)).alloc (.cells (stC none none none none 0 0 0 0 0 0 0 0 0 false 0 0 0 0 0 0) 38)) = w0 at b2 b3 KB HB ⊢
  refine (l1New_any A n c w0 HB.out hn).mono ?_
  rintro e w1 ⟨g, rfl, hg, hc1, K1⟩
  have hz3 := (Array.getElem?_eq_some_iff.1 b3).1
  replace b2 := (K1.block _ (Array.getElem?_eq_some_iff.1 b2).1).trans b2
  replace b3 := (K1.block _ (Array.getElem?_eq_some_iff.1 b3).1).trans b3
  replace KB := KB.trans (K1.mono KB.size)
  clear K1 HB
  go_wp2_with fail
  refine (l5DrawAny_any g w1 hc1).mono ?_
  rintro e w2 ⟨v0, v1, v2, v3, d, vs, s, rfl, Lp, Os, hd, hs, CU, hk⟩
  replace b2 := (hk.block _ (Array.getElem?_eq_some_iff.1 b2).1 (by show ¬ w.heap.size = g; omega)).trans b2
  replace b3 := (hk.block _ (Array.getElem?_eq_some_iff.1 b3).1 (by show ¬ w.heap.size + 1 = g; omega)).trans b3
  have hl2 : g < w2.heap.size := CU.lt
  have hz4 := (Array.getElem?_eq_some_iff.1 b3).1
  replace Lp := Lp.base KB.size
  replace Os := Os.base KB.size
  replace KB := KB.trans (hk.below (B := w.heap.size) KB.size (by rintro b hb rfl; omega))
  clear hk hc1
  obtain ⟨y0, y1, y2, y3, rfl, -⟩ := Os.it
  obtain ⟨⟨Y0, f0, rfl⟩, ⟨Y1, f1, rfl⟩, ⟨Y2, f2, rfl⟩, ⟨Y3, f3, rfl⟩⟩ := Os.shapes
  obtain ⟨Q0, e0, rfl, -, -⟩ := Lp.o0.formR
  obtain ⟨Q1, e1, rfl, -, -⟩ := Lp.o1.formR
  obtain ⟨Q2, e2, rfl, -, -⟩ := Lp.o2.formR
  obtain ⟨Q3, e3, rfl, -, -⟩ := Lp.o3.formR
  have hA : Below w2.heap.size w2 ((w2.alloc (.cells (planC none none none none 0 0 0 0 0 0 0 0 0 0 0) 29)).alloc (.cells (stC none none none none 0 0 0 0 0 0 0 0 0 false 0 0 0 0 0 0) 38)) := ((Below.refl _ _).alloc (Nat.le_refl _) _).alloc (by simp) _
  have H6 : ((w2.alloc (.cells (planC none none none none 0 0 0 0 0 0 0 0 0 0 0) 29)).alloc (.cells (stC none none none none 0 0 0 0 0 0 0 0 0 false 0 0 0 0 0 0) 38)).heap[w2.heap.size]? = some (.cells (planC none none none none 0 0 0 0 0 0 0 0 0 0 0) 29) := by
    have hb := (Below.refl (w2.alloc (.cells (planC none none none none 0 0 0 0 0 0 0 0 0 0 0) 29)).heap.size (w2.alloc (.cells (planC none none none none 0 0 0 0 0 0 0 0 0 0 0) 29))).alloc (Nat.le_refl _) (.cells (stC none none none none 0 0 0 0 0 0 0 0 0 false 0 0 0 0 0 0) 38)
    exact (hb.block w2.heap.size (by simp)).trans (heap_alloc_new w2 _)
  have H7 := heap_alloc2_new w2 (.cells (planC none none none none 0 0 0 0 0 0 0 0 0 0 0) 29) (.cells (stC none none none none 0 0 0 0 0 0 0 0 0 false 0 0 0 0 0 0) 38)
  have H7' := (setRow_other ((w2.alloc (.cells (planC none none none none 0 0 0 0 0 0 0 0 0 0 0) 29)).alloc (.cells (stC none none none none 0 0 0 0 0 0 0 0 0 false 0 0 0 0 0 0) 38)) w2.heap.size _ (planC Q0 Q1 Q2 Q3 d.n0 e0 d.n1 e1 d.n2 e2 d.n3 e3 d.l d.p d.t) (Nat.succ_ne_self _)).trans H7
  go_upto_region 3 with (first
    | ((with_reducible refine store_plan (x := 6) (y := 13) (g := w2.heap.size) (cs := planC Q0 Q1 Q2 Q3 d.n0 e0 d.n1 e1 d.n2 e2 d.n3 e3 d.l d.p d.t) ?_ ?_ H6 ?_ ?_ ?_ ?_)
       · rfl
       · rfl
       · exact HIP.out
       · rfl
       · simp [Value.oneCell'])
    | ((with_reducible refine store_state (x := 7) (y := 14) (g := w2.heap.size + 1) (cs := stC Y0 Y1 Y2 Y3 s.pods.length f0 s.mnts.length f1 s.devs.length f2 s.lks.length f3 s.ph s.co s.ck s.bo s.ba s.lb s.gd s.pr) ?_ ?_ H7' ?_ ?_ ?_ ?_)
       · rfl
       · rfl
       · exact HIS.out
       · rfl
       · simp [Value.oneCell']))
  have h2w := KB.size
  have hw2 : w2.heap.size < w2.heap.size + 1 := Nat.lt_succ_self _
  have hA2 := below_setRow (below_setRow hA (Nat.le_refl _) (planC Q0 Q1 Q2 Q3 d.n0 e0 d.n1 e1 d.n2 e2 d.n3 e3 d.l d.p d.t)) (Nat.le_succ _) (stC Y0 Y1 Y2 Y3 s.pods.length f0 s.mnts.length f1 s.devs.length f2 s.lks.length f3 s.ph s.co s.ck s.bo s.ba s.lb s.gd s.pr)
  have G6 := (setRow_other (((w2.alloc (.cells (planC none none none none 0 0 0 0 0 0 0 0 0 0 0) 29)).alloc (.cells (stC none none none none 0 0 0 0 0 0 0 0 0 false 0 0 0 0 0 0) 38)).setRow w2.heap.size (planC Q0 Q1 Q2 Q3 d.n0 e0 d.n1 e1 d.n2 e2 d.n3 e3 d.l d.p d.t)) (w2.heap.size + 1) w2.heap.size (stC Y0 Y1 Y2 Y3 s.pods.length f0 s.mnts.length f1 s.devs.length f2 s.lks.length f3 s.ph s.co s.ck s.bo s.ba s.lb s.gd s.pr) (by omega)).trans (setRow_heap _ _ _ (planC Q0 Q1 Q2 Q3 d.n0 e0 d.n1 e1 d.n2 e2 d.n3 e3 d.l d.p d.t) _ _ H6)
  have G7 := setRow_heap (((w2.alloc (.cells (planC none none none none 0 0 0 0 0 0 0 0 0 0 0) 29)).alloc (.cells (stC none none none none 0 0 0 0 0 0 0 0 0 false 0 0 0 0 0 0) 38)).setRow w2.heap.size (planC Q0 Q1 Q2 Q3 d.n0 e0 d.n1 e1 d.n2 e2 d.n3 e3 d.l d.p d.t)) (w2.heap.size + 1) _ (stC Y0 Y1 Y2 Y3 s.pods.length f0 s.mnts.length f1 s.devs.length f2 s.lks.length f3 s.ph s.co s.ck s.bo s.ba s.lb s.gd s.pr) _ _ H7'
  clear H6 H7 H7' hA
  replace b2 := (hA2.block _ (Array.getElem?_eq_some_iff.1 b2).1).trans b2
  replace b3 := (hA2.block _ (Array.getElem?_eq_some_iff.1 b3).1).trans b3
  replace Lp := Lp.below hA2
  replace Os := Os.below hA2
  replace KB := KB.trans (hA2.mono KB.size)
  replace CU := CU.below hA2
  have hg2 : g < w2.heap.size := by assumption
  clear hA2 hw2
  generalize (((w2.alloc (.cells (planC none none none none 0 0 0 0 0 0 0 0 0 0 0) 29)).alloc (.cells (stC none none none none 0 0 0 0 0 0 0 0 0 false 0 0 0 0 0 0) 38)).setRow w2.heap.size (planC Q0 Q1 Q2 Q3 d.n0 e0 d.n1 e1 d.n2 e2 d.n3 e3 d.l d.p d.t)).setRow (w2.heap.size + 1) (stC Y0 Y1 Y2 Y3 s.pods.length f0 s.mnts.length f1 s.devs.length f2 s.lks.length f3 s.ph s.co s.ck s.bo s.ba s.lb s.gd s.pr) = w3 at b2 b3 G6 G7 Lp Os KB CU ⊢
  obtain ⟨R7, hR7⟩ : ∃ R, w2.heap.size + 1 = R := ⟨_, rfl⟩
  rw [hR7] at G7 ⊢
  generalize w2.heap.size = R6 at G6 hR7 hz4 hl2 hg2 h2w ⊢
  have H6 := G6
  have H7 := G7
  clear G6 G7
  obtain ⟨ph, co, ck, bo, ba, lb, ps, ms, ds, ls, gd, pr⟩ := s
  dsimp only at Os H7 hs ⊢
  have hs0 : ps.length ≤ 12 := hs.s0
  refine wp_region_noPanic ?_
  refine wp_region_held_drew (S := fun W => (∀ o, W.cell? ⟨R6, o, none⟩ = (planC Q0 Q1 Q2 Q3 d.n0 e0 d.n1 e1 d.n2 e2 d.n3 e3 d.l d.p d.t)[o]?) ∧ (∀ o, W.cell? ⟨R7, o, none⟩ = (stC Y0 Y1 Y2 Y3 ps.length f0 ms.length f1 ds.length f2 ls.length f3 ph co ck bo ba lb gd pr)[o]?)) (by kernel_rfl) (by rw [← heap_drew w3] at H6 H7; exact ⟨fun o => cell_of_row _ _ o _ _ _ H6, fun o => cell_of_row _ _ o _ _ _ H7⟩) (fun _ => ?_)
  rw [← heap_drew w3] at b2 b3 H6 H7
  replace Lp := Lp.below (Below.refl _ _).drew
  replace Os := Os.below (Below.refl _ _).drew
  replace KB := KB.drew
  replace CU := CU.below (Below.refl _ _).drew
  generalize w3.drew = v0 at KB b2 b3 H6 H7 Lp Os CU ⊢
  refine wpAnyH_take (i := 0) (v := ?_) rfl (by kernel_rfl) (by kernel_rfl) (by kernel_rfl) (fun _ _ _ h => h) (Or.inl ⟨by rfl, ?_⟩) ⟨fun o => cell_of_row _ _ o _ _ _ H6, fun o => cell_of_row _ _ o _ _ _ H7⟩ ?_
  rotate_left 1
  · intro w hSw
    obtain ⟨hs6, hs7⟩ := hSw
    go_simp
    try with_reducible rfl
  change wpAnyH _ _ _ _ _ _ _ (Act.put _ (some 15) _) _
  dsimp only [Act.put]
  refine wpAnyH_take (i := 1) (v := ?_) rfl (by kernel_rfl) (by kernel_rfl) (by kernel_rfl) (fun _ _ _ h => h) (Or.inl ⟨by rfl, ?_⟩) ⟨fun o => cell_of_row _ _ o _ _ _ H6, fun o => cell_of_row _ _ o _ _ _ H7⟩ ?_
  rotate_left 1
  · intro w hSw
    obtain ⟨hs6, hs7⟩ := hSw
    go_simp
    try with_reducible rfl
  change wpAnyH _ _ _ _ _ _ _ (Act.put _ (some 16) _) _
  dsimp only [Act.put]
  refine wpAnyH_take (i := 2) (v := ?_) rfl (by kernel_rfl) (by kernel_rfl) (by kernel_rfl) (fun _ _ _ h => h) (Or.inl ⟨by rfl, ?_⟩) ⟨fun o => cell_of_row _ _ o _ _ _ H6, fun o => cell_of_row _ _ o _ _ _ H7⟩ ?_
  rotate_left 1
  · intro w hSw
    obtain ⟨hs6, hs7⟩ := hSw
    go_simp
    try with_reducible rfl
  change wpAnyH _ _ _ _ _ _ _ (Act.put _ (some 17) _) _
  dsimp only [Act.put]
  refine wpAnyH_ready (rs := [3]) (by kernel_rfl) (by simp) ?_
  refine AllReadyH.cons rfl (fun K' hK => ?_) AllReadyH.nil
  go_simp
  go_at_call 61
  refine (l1From_any g (-1) 4 v0 CU (by omega) (by omega) (by omega) (by omega)).mono ?_
  rintro e v1 ⟨k, rfl, -, -, CU9, hk⟩
  obtain ⟨gcs, hgc⟩ := CU.cells
  replace Lp := Lp.keeps hk hgc (by decide)
  replace Os := Os.keepsT hk hgc (by decide)
  replace b2 := (hk.block _ (Array.getElem?_eq_some_iff.1 b2).1 (by show ¬ w.heap.size = g; omega)).trans b2
  replace b3 := (hk.block _ (Array.getElem?_eq_some_iff.1 b3).1 (by show ¬ w.heap.size + 1 = g; omega)).trans b3
  replace H6 := (hk.block _ (Array.getElem?_eq_some_iff.1 H6).1 (by show ¬ R6 = g; omega)).trans H6
  replace H7 := (hk.block _ (Array.getElem?_eq_some_iff.1 H7).1 (by show ¬ R7 = g; omega)).trans H7
  replace KB := KB.trans (hk.below (B := w.heap.size) KB.size (by rintro b hb rfl; omega))
  clear hk CU CU9 hgc
  go_wp2_with fail
  refine hK.out _ _ ⟨fun o => cell_of_row _ _ o _ _ _ H6, fun o => cell_of_row _ _ o _ _ _ H7⟩ (fun _ => ?_)
  clear hK K'
  try (change wpAnyH _ _ _ _ _ _ _ (Act.put _ (some 18) _) _; dsimp only [Act.put])
  refine wpAnyH_ready (rs := [4]) (by kernel_rfl) (by simp) ?_
  refine AllReadyH.cons rfl (fun K' hK => ?_) AllReadyH.nil
  rw [if_pos (by rfl)]
  refine wp_store_row 29 (.tmp 2) (.tmp 15) rfl (w.heap.size) (planC Q0 Q1 Q2 Q3 d.n0 e0 d.n1 e1 d.n2 e2 d.n3 e3 d.l d.p d.t) rfl rfl 29 _ b2 HIP.out rfl (by simp [Value.oneCell']) ?_
  have kk := keepsRow_ v1 (w.heap.size) (planC Q0 Q1 Q2 Q3 d.n0 e0 d.n1 e1 d.n2 e2 d.n3 e3 d.l d.p d.t)
  replace KB := belowRow_ KB (B := w.heap.size) (by omega) (planC Q0 Q1 Q2 Q3 d.n0 e0 d.n1 e1 d.n2 e2 d.n3 e3 d.l d.p d.t)
  replace b3 := (setRow_other _ (w.heap.size) (w.heap.size + 1) (planC Q0 Q1 Q2 Q3 d.n0 e0 d.n1 e1 d.n2 e2 d.n3 e3 d.l d.p d.t) (by omega)).trans b3
  replace H6 := (setRow_other _ (w.heap.size) (R6) (planC Q0 Q1 Q2 Q3 d.n0 e0 d.n1 e1 d.n2 e2 d.n3 e3 d.l d.p d.t) (by omega)).trans H6
  replace H7 := (setRow_other _ (w.heap.size) (R7) (planC Q0 Q1 Q2 Q3 d.n0 e0 d.n1 e1 d.n2 e2 d.n3 e3 d.l d.p d.t) (by omega)).trans H7
  replace Lp := Lp.keeps kk b2 (by decide)
  replace Os := Os.keepsT kk b2 (by decide)
  replace b2 := setRow_heap _ _ _ (planC Q0 Q1 Q2 Q3 d.n0 e0 d.n1 e1 d.n2 e2 d.n3 e3 d.l d.p d.t) _ _ b2
  clear kk
  generalize v1.setRow (w.heap.size) (planC Q0 Q1 Q2 Q3 d.n0 e0 d.n1 e1 d.n2 e2 d.n3 e3 d.l d.p d.t) = v2 at KB b2 b3 H6 H7 Lp Os ⊢
  refine hK.out _ _ ⟨fun o => cell_of_row _ _ o _ _ _ H6, fun o => cell_of_row _ _ o _ _ _ H7⟩ (fun _ => ?_)
  clear hK K'
  try (change wpAnyH _ _ _ _ _ _ _ (Act.put _ none _) _; dsimp only [Act.put])
  refine wpAnyH_ready (rs := [5]) (by kernel_rfl) (by simp) ?_
  refine AllReadyH.cons rfl (fun K' hK => ?_) AllReadyH.nil
  rw [if_pos (by rfl)]
  refine wp_store_row 38 (.tmp 3) (.tmp 16) rfl (w.heap.size + 1) (stC Y0 Y1 Y2 Y3 ps.length f0 ms.length f1 ds.length f2 ls.length f3 ph co ck bo ba lb gd pr) rfl rfl 38 _ b3 HIS.out rfl (by simp [Value.oneCell']) ?_
  have kk := keepsRow_ v2 (w.heap.size + 1) (stC Y0 Y1 Y2 Y3 ps.length f0 ms.length f1 ds.length f2 ls.length f3 ph co ck bo ba lb gd pr)
  replace KB := belowRow_ KB (B := w.heap.size + 1) (by omega) (stC Y0 Y1 Y2 Y3 ps.length f0 ms.length f1 ds.length f2 ls.length f3 ph co ck bo ba lb gd pr)
  replace b2 := (setRow_other _ (w.heap.size + 1) (w.heap.size) (stC Y0 Y1 Y2 Y3 ps.length f0 ms.length f1 ds.length f2 ls.length f3 ph co ck bo ba lb gd pr) (by omega)).trans b2
  replace H6 := (setRow_other _ (w.heap.size + 1) (R6) (stC Y0 Y1 Y2 Y3 ps.length f0 ms.length f1 ds.length f2 ls.length f3 ph co ck bo ba lb gd pr) (by omega)).trans H6
  replace H7 := (setRow_other _ (w.heap.size + 1) (R7) (stC Y0 Y1 Y2 Y3 ps.length f0 ms.length f1 ds.length f2 ls.length f3 ph co ck bo ba lb gd pr) (by omega)).trans H7
  replace Lp := Lp.keeps kk b3 (by decide)
  replace Os := Os.keepsT kk b3 (by decide)
  replace b3 := setRow_heap _ _ _ (stC Y0 Y1 Y2 Y3 ps.length f0 ms.length f1 ds.length f2 ls.length f3 ph co ck bo ba lb gd pr) _ _ b3
  clear kk
  generalize v2.setRow (w.heap.size + 1) (stC Y0 Y1 Y2 Y3 ps.length f0 ms.length f1 ds.length f2 ls.length f3 ph co ck bo ba lb gd pr) = v3 at KB b2 b3 H6 H7 Lp Os ⊢
  refine hK.out _ _ ⟨fun o => cell_of_row _ _ o _ _ _ H6, fun o => cell_of_row _ _ o _ _ _ H7⟩ (fun _ => ?_)
  clear hK K'
  try (change wpAnyH _ _ _ _ _ _ _ (Act.put _ none _) _; dsimp only [Act.put])
  refine wpAnyH_ready (rs := [6]) (by kernel_rfl) (by simp) ?_
  refine AllReadyH.cons rfl (fun K' hK => ?_) AllReadyH.nil
  go_simp
  refine hK.out _ _ ⟨fun o => cell_of_row _ _ o _ _ _ H6, fun o => cell_of_row _ _ o _ _ _ H7⟩ (fun _ => ?_)
  clear hK K'
  try (change wpAnyH _ _ _ _ _ _ _ (Act.put _ (some 4) _) _; dsimp only [Act.put])
  refine wpAnyH_done (by kernel_rfl) ?_ _
  refine NoPanic.normal ?_
  go_wp2_with fail
  exact bodyPost_ret (v := .tuple #[.agg (planC Q0 Q1 Q2 Q3 d.n0 e0 d.n1 e1 d.n2 e2 d.n3 e3 d.l d.p d.t), .agg (stC Y0 Y1 Y2 Y3 ps.length f0 ms.length f1 ds.length f2 ls.length f3 ph co ck bo ba lb gd pr), .int .i64 k]) (results_cells_num Tryz.results27 _ _ _ _ _ _ _ _ _ _ _ _ _ rfl rfl rfl b2 b3 Tryz.underlying29 rfl HIP.out Tryz.underlying38 rfl HIS.out) rfl ⟨_, _, _, _, d, _, ⟨ph, co, ck, bo, ba, lb, ps, ms, ds, ls, gd, pr⟩, k, rfl, Lp, Os, hd, ⟨hs.s0, hs.s1, hs.s2, hs.s3⟩, KB⟩

set_option maxRecDepth 100000 in
set_option maxHeartbeats 8000000 in
theorem drawMayEvict_any (A : Option Addr) (n c : Nat) (w : World) (hB : Bytes w w.heap.size A n) (hn : n ≤ 4096) : Calls Tryz.prog 26 #[.slice A n c] w (GivesPSN w) := by
  have HIP : Hid ((Tryz.prog.info? 29).map (·.size) = some 7) := Lib.hid (by kernel_rfl)
  have HIS : Hid ((Tryz.prog.info? 38).map (·.size) = some 12) := Lib.hid (by kernel_rfl)
  have b2 : ((w.alloc (.cells (planC none none none none 0 0 0 0 0 0 0 0 0 0 0) 29)).alloc (.cells (stC none none none none 0 0 0 0 0 0 0 0 0 false 0 0 0 0 0 0) 38)).heap[w.heap.size]? = some (.cells (planC none none none none 0 0 0 0 0 0 0 0 0 0 0) 29) := by
    have hb := (Below.refl (w.alloc (.cells (planC none none none none 0 0 0 0 0 0 0 0 0 0 0) 29)).heap.size (w.alloc (.cells (planC none none none none 0 0 0 0 0 0 0 0 0 0 0) 29))).alloc (Nat.le_refl _) (.cells (stC none none none none 0 0 0 0 0 0 0 0 0 false 0 0 0 0 0 0) 38)
    exact (hb.block w.heap.size (by simp)).trans (heap_alloc_new w _)
  have b3 := heap_alloc2_new w (.cells (planC none none none none 0 0 0 0 0 0 0 0 0 0 0) 29) (.cells (stC none none none none 0 0 0 0 0 0 0 0 0 false 0 0 0 0 0 0) 38)
  have KB : Below w.heap.size w ((w.alloc (.cells (planC none none none none 0 0 0 0 0 0 0 0 0 0 0) 29)).alloc (.cells (stC none none none none 0 0 0 0 0 0 0 0 0 false 0 0 0 0 0 0) 38)) := ((Below.refl _ _).alloc (Nat.le_refl _) _).alloc (by simp) _
  have HB := Lib.hid ((hB.below KB (Nat.le_refl _)).more KB.size)
  clear hB
  go_enter Tryz.func26, Tryz.ntmps26
  go_wp2_with fail
  generalize ((w.alloc (.cells (planC none none none none 0 0 0 0 0 0 0 0 0 0 0) 29)).alloc (.cells (stC none none none none 0 0 0 0 0 0 0 0 0 false 0 0 0 0 0 0) 38)) = w0 at b2 b3 KB HB ⊢
  refine (l1New_any A n c w0 HB.out hn).mono ?_
  rintro e w1 ⟨g, rfl, hg, hc1, K1⟩
  have hz3 := (Array.getElem?_eq_some_iff.1 b3).1
  replace b2 := (K1.block _ (Array.getElem?_eq_some_iff.1 b2).1).trans b2
  replace b3 := (K1.block _ (Array.getElem?_eq_some_iff.1 b3).1).trans b3
  replace KB := KB.trans (K1.mono KB.size)
  clear K1 HB
  go_wp2_with fail
  refine (l5DrawAny_any g w1 hc1).mono ?_
  rintro e w2 ⟨v0, v1, v2, v3, d, vs, s, rfl, Lp, Os, hd, hs, CU, hk⟩
  replace b2 := (hk.block _ (Array.getElem?_eq_some_iff.1 b2).1 (by show ¬ w.heap.size = g; omega)).trans b2
  replace b3 := (hk.block _ (Array.getElem?_eq_some_iff.1 b3).1 (by show ¬ w.heap.size + 1 = g; omega)).trans b3
  have hl2 : g < w2.heap.size := CU.lt
  have hz4 := (Array.getElem?_eq_some_iff.1 b3).1
  replace Lp := Lp.base KB.size
  replace Os := Os.base KB.size
  replace KB := KB.trans (hk.below (B := w.heap.size) KB.size (by rintro b hb rfl; omega))
  clear hk hc1
  obtain ⟨y0, y1, y2, y3, rfl, -⟩ := Os.it
  obtain ⟨⟨Y0, f0, rfl⟩, ⟨Y1, f1, rfl⟩, ⟨Y2, f2, rfl⟩, ⟨Y3, f3, rfl⟩⟩ := Os.shapes
  obtain ⟨Q0, e0, rfl, -, -⟩ := Lp.o0.formR
  obtain ⟨Q1, e1, rfl, -, -⟩ := Lp.o1.formR
  obtain ⟨Q2, e2, rfl, -, -⟩ := Lp.o2.formR
  obtain ⟨Q3, e3, rfl, -, -⟩ := Lp.o3.formR
  have hA : Below w2.heap.size w2 ((w2.alloc (.cells (planC none none none none 0 0 0 0 0 0 0 0 0 0 0) 29)).alloc (.cells (stC none none none none 0 0 0 0 0 0 0 0 0 false 0 0 0 0 0 0) 38)) := ((Below.refl _ _).alloc (Nat.le_refl _) _).alloc (by simp) _
  have H6 : ((w2.alloc (.cells (planC none none none none 0 0 0 0 0 0 0 0 0 0 0) 29)).alloc (.cells (stC none none none none 0 0 0 0 0 0 0 0 0 false 0 0 0 0 0 0) 38)).heap[w2.heap.size]? = some (.cells (planC none none none none 0 0 0 0 0 0 0 0 0 0 0) 29) := by
    have hb := (Below.refl (w2.alloc (.cells (planC none none none none 0 0 0 0 0 0 0 0 0 0 0) 29)).heap.size (w2.alloc (.cells (planC none none none none 0 0 0 0 0 0 0 0 0 0 0) 29))).alloc (Nat.le_refl _) (.cells (stC none none none none 0 0 0 0 0 0 0 0 0 false 0 0 0 0 0 0) 38)
    exact (hb.block w2.heap.size (by simp)).trans (heap_alloc_new w2 _)
  have H7 := heap_alloc2_new w2 (.cells (planC none none none none 0 0 0 0 0 0 0 0 0 0 0) 29) (.cells (stC none none none none 0 0 0 0 0 0 0 0 0 false 0 0 0 0 0 0) 38)
  have H7' := (setRow_other ((w2.alloc (.cells (planC none none none none 0 0 0 0 0 0 0 0 0 0 0) 29)).alloc (.cells (stC none none none none 0 0 0 0 0 0 0 0 0 false 0 0 0 0 0 0) 38)) w2.heap.size _ (planC Q0 Q1 Q2 Q3 d.n0 e0 d.n1 e1 d.n2 e2 d.n3 e3 d.l d.p d.t) (Nat.succ_ne_self _)).trans H7
  go_upto_region 3 with (first
    | ((with_reducible refine store_plan (x := 6) (y := 13) (g := w2.heap.size) (cs := planC Q0 Q1 Q2 Q3 d.n0 e0 d.n1 e1 d.n2 e2 d.n3 e3 d.l d.p d.t) ?_ ?_ H6 ?_ ?_ ?_ ?_)
       · rfl
       · rfl
       · exact HIP.out
       · rfl
       · simp [Value.oneCell'])
    | ((with_reducible refine store_state (x := 7) (y := 14) (g := w2.heap.size + 1) (cs := stC Y0 Y1 Y2 Y3 s.pods.length f0 s.mnts.length f1 s.devs.length f2 s.lks.length f3 s.ph s.co s.ck s.bo s.ba s.lb s.gd s.pr) ?_ ?_ H7' ?_ ?_ ?_ ?_)
       · rfl
       · rfl
       · exact HIS.out
       · rfl
       · simp [Value.oneCell']))
  have h2w := KB.size
  have hw2 : w2.heap.size < w2.heap.size + 1 := Nat.lt_succ_self _
  have hA2 := below_setRow (below_setRow hA (Nat.le_refl _) (planC Q0 Q1 Q2 Q3 d.n0 e0 d.n1 e1 d.n2 e2 d.n3 e3 d.l d.p d.t)) (Nat.le_succ _) (stC Y0 Y1 Y2 Y3 s.pods.length f0 s.mnts.length f1 s.devs.length f2 s.lks.length f3 s.ph s.co s.ck s.bo s.ba s.lb s.gd s.pr)
  have G6 := (setRow_other (((w2.alloc (.cells (planC none none none none 0 0 0 0 0 0 0 0 0 0 0) 29)).alloc (.cells (stC none none none none 0 0 0 0 0 0 0 0 0 false 0 0 0 0 0 0) 38)).setRow w2.heap.size (planC Q0 Q1 Q2 Q3 d.n0 e0 d.n1 e1 d.n2 e2 d.n3 e3 d.l d.p d.t)) (w2.heap.size + 1) w2.heap.size (stC Y0 Y1 Y2 Y3 s.pods.length f0 s.mnts.length f1 s.devs.length f2 s.lks.length f3 s.ph s.co s.ck s.bo s.ba s.lb s.gd s.pr) (by omega)).trans (setRow_heap _ _ _ (planC Q0 Q1 Q2 Q3 d.n0 e0 d.n1 e1 d.n2 e2 d.n3 e3 d.l d.p d.t) _ _ H6)
  have G7 := setRow_heap (((w2.alloc (.cells (planC none none none none 0 0 0 0 0 0 0 0 0 0 0) 29)).alloc (.cells (stC none none none none 0 0 0 0 0 0 0 0 0 false 0 0 0 0 0 0) 38)).setRow w2.heap.size (planC Q0 Q1 Q2 Q3 d.n0 e0 d.n1 e1 d.n2 e2 d.n3 e3 d.l d.p d.t)) (w2.heap.size + 1) _ (stC Y0 Y1 Y2 Y3 s.pods.length f0 s.mnts.length f1 s.devs.length f2 s.lks.length f3 s.ph s.co s.ck s.bo s.ba s.lb s.gd s.pr) _ _ H7'
  clear H6 H7 H7' hA
  replace b2 := (hA2.block _ (Array.getElem?_eq_some_iff.1 b2).1).trans b2
  replace b3 := (hA2.block _ (Array.getElem?_eq_some_iff.1 b3).1).trans b3
  replace Lp := Lp.below hA2
  replace Os := Os.below hA2
  replace KB := KB.trans (hA2.mono KB.size)
  replace CU := CU.below hA2
  have hg2 : g < w2.heap.size := by assumption
  clear hA2 hw2
  generalize (((w2.alloc (.cells (planC none none none none 0 0 0 0 0 0 0 0 0 0 0) 29)).alloc (.cells (stC none none none none 0 0 0 0 0 0 0 0 0 false 0 0 0 0 0 0) 38)).setRow w2.heap.size (planC Q0 Q1 Q2 Q3 d.n0 e0 d.n1 e1 d.n2 e2 d.n3 e3 d.l d.p d.t)).setRow (w2.heap.size + 1) (stC Y0 Y1 Y2 Y3 s.pods.length f0 s.mnts.length f1 s.devs.length f2 s.lks.length f3 s.ph s.co s.ck s.bo s.ba s.lb s.gd s.pr) = w3 at b2 b3 G6 G7 Lp Os KB CU ⊢
  obtain ⟨R7, hR7⟩ : ∃ R, w2.heap.size + 1 = R := ⟨_, rfl⟩
  rw [hR7] at G7 ⊢
  generalize w2.heap.size = R6 at G6 hR7 hz4 hl2 hg2 h2w ⊢
  have H6 := G6
  have H7 := G7
  clear G6 G7
  obtain ⟨ph, co, ck, bo, ba, lb, ps, ms, ds, ls, gd, pr⟩ := s
  dsimp only at Os H7 hs ⊢
  have hs0 : ps.length ≤ 12 := hs.s0
  go_wp2_with fail
  refine (l1Once_any g 2 w3 CU (by omega) (by omega)).mono ?_
  rintro e w4 ⟨b, rfl, CU4, hk⟩
  obtain ⟨gcs, hgc⟩ := CU.cells
  replace Lp := Lp.keeps hk hgc (by decide)
  replace Os := Os.keepsT hk hgc (by decide)
  replace b2 := (hk.block _ (Array.getElem?_eq_some_iff.1 b2).1 (by show ¬ w.heap.size = g; omega)).trans b2
  replace b3 := (hk.block _ (Array.getElem?_eq_some_iff.1 b3).1 (by show ¬ w.heap.size + 1 = g; omega)).trans b3
  replace H6 := (hk.block _ (Array.getElem?_eq_some_iff.1 H6).1 (by show ¬ R6 = g; omega)).trans H6
  replace H7 := (hk.block _ (Array.getElem?_eq_some_iff.1 H7).1 (by show ¬ R7 = g; omega)).trans H7
  replace KB := KB.trans (hk.below (B := w.heap.size) KB.size (by rintro b hb rfl; omega))
  clear hk CU hgc
  have CU := CU4
  clear CU4
  cases b
  · go_upto_region 6 with fail
    refine wp_region_noPanic ?_
    refine wp_region_held_drew (S := fun W => (∀ o, W.cell? ⟨R6, o, none⟩ = (planC Q0 Q1 Q2 Q3 d.n0 e0 d.n1 e1 d.n2 e2 d.n3 e3 d.l d.p d.t)[o]?) ∧ (∀ o, W.cell? ⟨R7, o, none⟩ = (stC Y0 Y1 Y2 Y3 ps.length f0 ms.length f1 ds.length f2 ls.length f3 ph co ck bo ba lb gd pr)[o]?)) (by kernel_rfl) (by rw [← heap_drew w4] at H6 H7; exact ⟨fun o => cell_of_row _ _ o _ _ _ H6, fun o => cell_of_row _ _ o _ _ _ H7⟩) (fun _ => ?_)
    rw [← heap_drew w4] at b2 b3 H6 H7
    replace Lp := Lp.below (Below.refl _ _).drew
    replace Os := Os.below (Below.refl _ _).drew
    replace KB := KB.drew
    replace CU := CU.below (Below.refl _ _).drew
    generalize w4.drew = v0 at KB b2 b3 H6 H7 Lp Os CU ⊢
    refine wpAnyH_take (i := 0) (v := ?_) rfl (by kernel_rfl) (by kernel_rfl) (by kernel_rfl) (fun _ _ _ h => h) (Or.inl ⟨by rfl, ?_⟩) ⟨fun o => cell_of_row _ _ o _ _ _ H6, fun o => cell_of_row _ _ o _ _ _ H7⟩ ?_
    rotate_left 1
    · intro w hSw
      obtain ⟨hs6, hs7⟩ := hSw
      go_simp
      try with_reducible rfl
    change wpAnyH _ _ _ _ _ _ _ (Act.put _ (some 19) _) _
    dsimp only [Act.put]
    refine wpAnyH_take (i := 1) (v := ?_) rfl (by kernel_rfl) (by kernel_rfl) (by kernel_rfl) (fun _ _ _ h => h) (Or.inl ⟨by rfl, ?_⟩) ⟨fun o => cell_of_row _ _ o _ _ _ H6, fun o => cell_of_row _ _ o _ _ _ H7⟩ ?_
    rotate_left 1
    · intro w hSw
      obtain ⟨hs6, hs7⟩ := hSw
      go_simp
      try with_reducible rfl
    change wpAnyH _ _ _ _ _ _ _ (Act.put _ (some 20) _) _
    dsimp only [Act.put]
    refine wpAnyH_take (i := 2) (v := ?_) rfl (by kernel_rfl) (by kernel_rfl) (by kernel_rfl) (fun _ _ _ h => h) (Or.inl ⟨by rfl, ?_⟩) ⟨fun o => cell_of_row _ _ o _ _ _ H6, fun o => cell_of_row _ _ o _ _ _ H7⟩ ?_
    rotate_left 1
    · intro w hSw
      obtain ⟨hs6, hs7⟩ := hSw
      go_simp
      try with_reducible rfl
    change wpAnyH _ _ _ _ _ _ _ (Act.put _ (some 21) _) _
    dsimp only [Act.put]
    refine wpAnyH_take (i := 3) (v := ?_) rfl (by kernel_rfl) (by kernel_rfl) (by kernel_rfl) (fun _ _ _ h => h) (Or.inl ⟨by rfl, ?_⟩) ⟨fun o => cell_of_row _ _ o _ _ _ H6, fun o => cell_of_row _ _ o _ _ _ H7⟩ ?_
    rotate_left 1
    · intro w hSw
      obtain ⟨hs6, hs7⟩ := hSw
      go_simp
      try with_reducible rfl
    change wpAnyH _ _ _ _ _ _ _ (Act.put _ (some 22) _) _
    dsimp only [Act.put]
    refine wpAnyH_take (i := 4) (v := ?_) rfl (by kernel_rfl) (by kernel_rfl) (by kernel_rfl) (fun _ _ _ h => h) (Or.inl ⟨by rfl, ?_⟩) ⟨fun o => cell_of_row _ _ o _ _ _ H6, fun o => cell_of_row _ _ o _ _ _ H7⟩ ?_
    rotate_left 1
    · intro w hSw
      obtain ⟨hs6, hs7⟩ := hSw
      go_simp
      try with_reducible rfl
    change wpAnyH _ _ _ _ _ _ _ (Act.put _ (some 23) _) _
    dsimp only [Act.put]
    refine wpAnyH_take (i := 5) (v := ?_) rfl (by kernel_rfl) (by kernel_rfl) (by kernel_rfl) (fun _ _ _ h => h) (Or.inl ⟨by rfl, ?_⟩) ⟨fun o => cell_of_row _ _ o _ _ _ H6, fun o => cell_of_row _ _ o _ _ _ H7⟩ ?_
    rotate_left 1
    · intro w hSw
      obtain ⟨hs6, hs7⟩ := hSw
      go_simp
      try with_reducible rfl
    change wpAnyH _ _ _ _ _ _ _ (Act.put _ (some 24) _) _
    dsimp only [Act.put]
    refine wpAnyH_ready (rs := [6]) (by kernel_rfl) (by simp) ?_
    refine AllReadyH.cons rfl (fun K' hK => ?_) AllReadyH.nil
    go_simp
    go_at_call 61
    refine (l1From_any g (-1) ps.length v0 CU (by omega) (by omega) (by omega) (by omega)).mono ?_
    rintro e v1 ⟨k, rfl, -, -, CU9, hk⟩
    obtain ⟨gcs, hgc⟩ := CU.cells
    replace Lp := Lp.keeps hk hgc (by decide)
    replace Os := Os.keepsT hk hgc (by decide)
    replace b2 := (hk.block _ (Array.getElem?_eq_some_iff.1 b2).1 (by show ¬ w.heap.size = g; omega)).trans b2
    replace b3 := (hk.block _ (Array.getElem?_eq_some_iff.1 b3).1 (by show ¬ w.heap.size + 1 = g; omega)).trans b3
    replace H6 := (hk.block _ (Array.getElem?_eq_some_iff.1 H6).1 (by show ¬ R6 = g; omega)).trans H6
    replace H7 := (hk.block _ (Array.getElem?_eq_some_iff.1 H7).1 (by show ¬ R7 = g; omega)).trans H7
    replace KB := KB.trans (hk.below (B := w.heap.size) KB.size (by rintro b hb rfl; omega))
    clear hk CU CU9 hgc
    go_wp2_with fail
    refine hK.out _ _ ⟨fun o => cell_of_row _ _ o _ _ _ H6, fun o => cell_of_row _ _ o _ _ _ H7⟩ (fun _ => ?_)
    clear hK K'
    try (change wpAnyH _ _ _ _ _ _ _ (Act.put _ (some 25) _) _; dsimp only [Act.put])
    refine wpAnyH_ready (rs := [7]) (by kernel_rfl) (by simp) ?_
    refine AllReadyH.cons rfl (fun K' hK => ?_) AllReadyH.nil
    rw [if_pos (by rfl)]
    refine wp_store_row 29 (.tmp 2) (.tmp 19) rfl (w.heap.size) (planC Q0 Q1 Q2 Q3 d.n0 e0 d.n1 e1 d.n2 e2 d.n3 e3 d.l d.p d.t) rfl rfl 29 _ b2 HIP.out rfl (by simp [Value.oneCell']) ?_
    have kk := keepsRow_ v1 (w.heap.size) (planC Q0 Q1 Q2 Q3 d.n0 e0 d.n1 e1 d.n2 e2 d.n3 e3 d.l d.p d.t)
    replace KB := belowRow_ KB (B := w.heap.size) (by omega) (planC Q0 Q1 Q2 Q3 d.n0 e0 d.n1 e1 d.n2 e2 d.n3 e3 d.l d.p d.t)
    replace b3 := (setRow_other _ (w.heap.size) (w.heap.size + 1) (planC Q0 Q1 Q2 Q3 d.n0 e0 d.n1 e1 d.n2 e2 d.n3 e3 d.l d.p d.t) (by omega)).trans b3
    replace H6 := (setRow_other _ (w.heap.size) (R6) (planC Q0 Q1 Q2 Q3 d.n0 e0 d.n1 e1 d.n2 e2 d.n3 e3 d.l d.p d.t) (by omega)).trans H6
    replace H7 := (setRow_other _ (w.heap.size) (R7) (planC Q0 Q1 Q2 Q3 d.n0 e0 d.n1 e1 d.n2 e2 d.n3 e3 d.l d.p d.t) (by omega)).trans H7
    replace Lp := Lp.keeps kk b2 (by decide)
    replace Os := Os.keepsT kk b2 (by decide)
    replace b2 := setRow_heap _ _ _ (planC Q0 Q1 Q2 Q3 d.n0 e0 d.n1 e1 d.n2 e2 d.n3 e3 d.l d.p d.t) _ _ b2
    clear kk
    generalize v1.setRow (w.heap.size) (planC Q0 Q1 Q2 Q3 d.n0 e0 d.n1 e1 d.n2 e2 d.n3 e3 d.l d.p d.t) = v2 at KB b2 b3 H6 H7 Lp Os ⊢
    refine hK.out _ _ ⟨fun o => cell_of_row _ _ o _ _ _ H6, fun o => cell_of_row _ _ o _ _ _ H7⟩ (fun _ => ?_)
    clear hK K'
    try (change wpAnyH _ _ _ _ _ _ _ (Act.put _ none _) _; dsimp only [Act.put])
    refine wpAnyH_ready (rs := [8]) (by kernel_rfl) (by simp) ?_
    refine AllReadyH.cons rfl (fun K' hK => ?_) AllReadyH.nil
    rw [if_pos (by rfl)]
    refine wp_store_row 38 (.tmp 3) (.tmp 20) rfl (w.heap.size + 1) (stC Y0 Y1 Y2 Y3 ps.length f0 ms.length f1 ds.length f2 ls.length f3 ph co ck bo ba lb gd pr) rfl rfl 38 _ b3 HIS.out rfl (by simp [Value.oneCell']) ?_
    have kk := keepsRow_ v2 (w.heap.size + 1) (stC Y0 Y1 Y2 Y3 ps.length f0 ms.length f1 ds.length f2 ls.length f3 ph co ck bo ba lb gd pr)
    replace KB := belowRow_ KB (B := w.heap.size + 1) (by omega) (stC Y0 Y1 Y2 Y3 ps.length f0 ms.length f1 ds.length f2 ls.length f3 ph co ck bo ba lb gd pr)
    replace b2 := (setRow_other _ (w.heap.size + 1) (w.heap.size) (stC Y0 Y1 Y2 Y3 ps.length f0 ms.length f1 ds.length f2 ls.length f3 ph co ck bo ba lb gd pr) (by omega)).trans b2
    replace H6 := (setRow_other _ (w.heap.size + 1) (R6) (stC Y0 Y1 Y2 Y3 ps.length f0 ms.length f1 ds.length f2 ls.length f3 ph co ck bo ba lb gd pr) (by omega)).trans H6
    replace H7 := (setRow_other _ (w.heap.size + 1) (R7) (stC Y0 Y1 Y2 Y3 ps.length f0 ms.length f1 ds.length f2 ls.length f3 ph co ck bo ba lb gd pr) (by omega)).trans H7
    replace Lp := Lp.keeps kk b3 (by decide)
    replace Os := Os.keepsT kk b3 (by decide)
    replace b3 := setRow_heap _ _ _ (stC Y0 Y1 Y2 Y3 ps.length f0 ms.length f1 ds.length f2 ls.length f3 ph co ck bo ba lb gd pr) _ _ b3
    clear kk
    generalize v2.setRow (w.heap.size + 1) (stC Y0 Y1 Y2 Y3 ps.length f0 ms.length f1 ds.length f2 ls.length f3 ph co ck bo ba lb gd pr) = v3 at KB b2 b3 H6 H7 Lp Os ⊢
    refine hK.out _ _ ⟨fun o => cell_of_row _ _ o _ _ _ H6, fun o => cell_of_row _ _ o _ _ _ H7⟩ (fun _ => ?_)
    clear hK K'
    try (change wpAnyH _ _ _ _ _ _ _ (Act.put _ none _) _; dsimp only [Act.put])
    refine wpAnyH_ready (rs := [9]) (by kernel_rfl) (by simp) ?_
    refine AllReadyH.cons rfl (fun K' hK => ?_) AllReadyH.nil
    go_simp
    refine hK.out _ _ ⟨fun o => cell_of_row _ _ o _ _ _ H6, fun o => cell_of_row _ _ o _ _ _ H7⟩ (fun _ => ?_)
    clear hK K'
    try (change wpAnyH _ _ _ _ _ _ _ (Act.put _ (some 4) _) _; dsimp only [Act.put])
    refine wpAnyH_done (by kernel_rfl) ?_ _
    refine NoPanic.normal ?_
    go_wp2_with fail
    exact bodyPost_ret (v := .tuple #[.agg (planC Q0 Q1 Q2 Q3 d.n0 e0 d.n1 e1 d.n2 e2 d.n3 e3 d.l d.p d.t), .agg (stC Y0 Y1 Y2 Y3 ps.length f0 ms.length f1 ds.length f2 ls.length f3 ph co ck bo ba lb gd pr), .int .i64 k]) (results_cells_num Tryz.results26 _ _ _ _ _ _ _ _ _ _ _ _ _ rfl rfl rfl b2 b3 Tryz.underlying29 rfl HIP.out Tryz.underlying38 rfl HIS.out) rfl ⟨_, _, _, _, d, _, ⟨ph, co, ck, bo, ba, lb, ps, ms, ds, ls, gd, pr⟩, k, rfl, Lp, Os, hd, ⟨hs.s0, hs.s1, hs.s2, hs.s3⟩, KB⟩
  · have hC7 : ∀ o, w4.cell? ⟨R7, o, none⟩ = (stC Y0 Y1 Y2 Y3 ps.length f0 ms.length f1 ds.length f2 ls.length f3 ph co ck bo ba lb gd pr)[o]? := fun o => cell_of_row _ _ o _ _ _ H7
    have hF7 : ∀ o, w4.frozen? ⟨R7, o, none⟩ = false := fun o => frozen_of_row _ _ _ _ _ H7
    go_upto_region 6 with fail
    have h7a := heap_setCell_same w4 R7 0 _ _ (.int .i64 2) H7
    have h7b := heap_setCell_same (w4.setCell ⟨R7, 0, none⟩ (.int .i64 2)) R7 1 _ _ (.bool true) h7a
    have kk : Keeps (· = R7) w4 ((w4.setCell ⟨R7, 0, none⟩ (.int .i64 2)).setCell ⟨R7, 1, none⟩ (.bool true)) := Keeps.set (S := (· = R7)) (Keeps.set (S := (· = R7)) (Keeps.refl _ _) rfl _) rfl _
    replace Lp := Lp.keeps kk H7 (by decide)
    replace Os := (Os.keepsT kk H7 (by decide)).nums 2 true ck bo ba lb gd pr
    replace b2 := (kk.block _ (Array.getElem?_eq_some_iff.1 b2).1 (by show ¬ w.heap.size = R7; omega)).trans b2
    replace b3 := (kk.block _ (Array.getElem?_eq_some_iff.1 b3).1 (by show ¬ w.heap.size + 1 = R7; omega)).trans b3
    replace H6 := (kk.block _ (Array.getElem?_eq_some_iff.1 H6).1 (by show ¬ R6 = R7; omega)).trans H6
    replace KB := KB.trans (kk.below (B := w.heap.size) KB.size (by rintro b hb rfl; omega))
    replace CU := CU.keeps kk (fun b hb e => by omega)
    replace H7 : ((w4.setCell ⟨R7, 0, none⟩ (.int .i64 2)).setCell ⟨R7, 1, none⟩ (.bool true)).heap[R7]? = some (.cells (stC Y0 Y1 Y2 Y3 ps.length f0 ms.length f1 ds.length f2 ls.length f3 2 true ck bo ba lb gd pr) 38) := h7b
    clear h7a h7b kk hC7 hF7
    generalize (w4.setCell ⟨R7, 0, none⟩ (.int .i64 2)).setCell ⟨R7, 1, none⟩ (.bool true) = w5 at KB b2 b3 H6 H7 Lp Os CU ⊢
    refine wp_region_noPanic ?_
    refine wp_region_held_drew (S := fun W => (∀ o, W.cell? ⟨R6, o, none⟩ = (planC Q0 Q1 Q2 Q3 d.n0 e0 d.n1 e1 d.n2 e2 d.n3 e3 d.l d.p d.t)[o]?) ∧ (∀ o, W.cell? ⟨R7, o, none⟩ = (stC Y0 Y1 Y2 Y3 ps.length f0 ms.length f1 ds.length f2 ls.length f3 2 true ck bo ba lb gd pr)[o]?)) (by kernel_rfl) (by rw [← heap_drew w5] at H6 H7; exact ⟨fun o => cell_of_row _ _ o _ _ _ H6, fun o => cell_of_row _ _ o _ _ _ H7⟩) (fun _ => ?_)
    rw [← heap_drew w5] at b2 b3 H6 H7
    replace Lp := Lp.below (Below.refl _ _).drew
    replace Os := Os.below (Below.refl _ _).drew
    replace KB := KB.drew
    replace CU := CU.below (Below.refl _ _).drew
    generalize w5.drew = v0 at KB b2 b3 H6 H7 Lp Os CU ⊢
    refine wpAnyH_take (i := 0) (v := ?_) rfl (by kernel_rfl) (by kernel_rfl) (by kernel_rfl) (fun _ _ _ h => h) (Or.inl ⟨by rfl, ?_⟩) ⟨fun o => cell_of_row _ _ o _ _ _ H6, fun o => cell_of_row _ _ o _ _ _ H7⟩ ?_
    rotate_left 1
    · intro w hSw
      obtain ⟨hs6, hs7⟩ := hSw
      go_simp
      try with_reducible rfl
    change wpAnyH _ _ _ _ _ _ _ (Act.put _ (some 19) _) _
    dsimp only [Act.put]
    refine wpAnyH_take (i := 1) (v := ?_) rfl (by kernel_rfl) (by kernel_rfl) (by kernel_rfl) (fun _ _ _ h => h) (Or.inl ⟨by rfl, ?_⟩) ⟨fun o => cell_of_row _ _ o _ _ _ H6, fun o => cell_of_row _ _ o _ _ _ H7⟩ ?_
    rotate_left 1
    · intro w hSw
      obtain ⟨hs6, hs7⟩ := hSw
      go_simp
      try with_reducible rfl
    change wpAnyH _ _ _ _ _ _ _ (Act.put _ (some 20) _) _
    dsimp only [Act.put]
    refine wpAnyH_take (i := 2) (v := ?_) rfl (by kernel_rfl) (by kernel_rfl) (by kernel_rfl) (fun _ _ _ h => h) (Or.inl ⟨by rfl, ?_⟩) ⟨fun o => cell_of_row _ _ o _ _ _ H6, fun o => cell_of_row _ _ o _ _ _ H7⟩ ?_
    rotate_left 1
    · intro w hSw
      obtain ⟨hs6, hs7⟩ := hSw
      go_simp
      try with_reducible rfl
    change wpAnyH _ _ _ _ _ _ _ (Act.put _ (some 21) _) _
    dsimp only [Act.put]
    refine wpAnyH_take (i := 3) (v := ?_) rfl (by kernel_rfl) (by kernel_rfl) (by kernel_rfl) (fun _ _ _ h => h) (Or.inl ⟨by rfl, ?_⟩) ⟨fun o => cell_of_row _ _ o _ _ _ H6, fun o => cell_of_row _ _ o _ _ _ H7⟩ ?_
    rotate_left 1
    · intro w hSw
      obtain ⟨hs6, hs7⟩ := hSw
      go_simp
      try with_reducible rfl
    change wpAnyH _ _ _ _ _ _ _ (Act.put _ (some 22) _) _
    dsimp only [Act.put]
    refine wpAnyH_take (i := 4) (v := ?_) rfl (by kernel_rfl) (by kernel_rfl) (by kernel_rfl) (fun _ _ _ h => h) (Or.inl ⟨by rfl, ?_⟩) ⟨fun o => cell_of_row _ _ o _ _ _ H6, fun o => cell_of_row _ _ o _ _ _ H7⟩ ?_
    rotate_left 1
    · intro w hSw
      obtain ⟨hs6, hs7⟩ := hSw
      go_simp
      try with_reducible rfl
    change wpAnyH _ _ _ _ _ _ _ (Act.put _ (some 23) _) _
    dsimp only [Act.put]
    refine wpAnyH_take (i := 5) (v := ?_) rfl (by kernel_rfl) (by kernel_rfl) (by kernel_rfl) (fun _ _ _ h => h) (Or.inl ⟨by rfl, ?_⟩) ⟨fun o => cell_of_row _ _ o _ _ _ H6, fun o => cell_of_row _ _ o _ _ _ H7⟩ ?_
    rotate_left 1
    · intro w hSw
      obtain ⟨hs6, hs7⟩ := hSw
      go_simp
      try with_reducible rfl
    change wpAnyH _ _ _ _ _ _ _ (Act.put _ (some 24) _) _
    dsimp only [Act.put]
    refine wpAnyH_ready (rs := [6]) (by kernel_rfl) (by simp) ?_
    refine AllReadyH.cons rfl (fun K' hK => ?_) AllReadyH.nil
    go_simp
    go_at_call 61
    refine (l1From_any g (-1) ps.length v0 CU (by omega) (by omega) (by omega) (by omega)).mono ?_
    rintro e v1 ⟨k, rfl, -, -, CU9, hk⟩
    obtain ⟨gcs, hgc⟩ := CU.cells
    replace Lp := Lp.keeps hk hgc (by decide)
    replace Os := Os.keepsT hk hgc (by decide)
    replace b2 := (hk.block _ (Array.getElem?_eq_some_iff.1 b2).1 (by show ¬ w.heap.size = g; omega)).trans b2
    replace b3 := (hk.block _ (Array.getElem?_eq_some_iff.1 b3).1 (by show ¬ w.heap.size + 1 = g; omega)).trans b3
    replace H6 := (hk.block _ (Array.getElem?_eq_some_iff.1 H6).1 (by show ¬ R6 = g; omega)).trans H6
    replace H7 := (hk.block _ (Array.getElem?_eq_some_iff.1 H7).1 (by show ¬ R7 = g; omega)).trans H7
    replace KB := KB.trans (hk.below (B := w.heap.size) KB.size (by rintro b hb rfl; omega))
    clear hk CU CU9 hgc
    go_wp2_with fail
    refine hK.out _ _ ⟨fun o => cell_of_row _ _ o _ _ _ H6, fun o => cell_of_row _ _ o _ _ _ H7⟩ (fun _ => ?_)
    clear hK K'
    try (change wpAnyH _ _ _ _ _ _ _ (Act.put _ (some 25) _) _; dsimp only [Act.put])
    refine wpAnyH_ready (rs := [7]) (by kernel_rfl) (by simp) ?_
    refine AllReadyH.cons rfl (fun K' hK => ?_) AllReadyH.nil
    rw [if_pos (by rfl)]
    refine wp_store_row 29 (.tmp 2) (.tmp 19) rfl (w.heap.size) (planC Q0 Q1 Q2 Q3 d.n0 e0 d.n1 e1 d.n2 e2 d.n3 e3 d.l d.p d.t) rfl rfl 29 _ b2 HIP.out rfl (by simp [Value.oneCell']) ?_
    have kk := keepsRow_ v1 (w.heap.size) (planC Q0 Q1 Q2 Q3 d.n0 e0 d.n1 e1 d.n2 e2 d.n3 e3 d.l d.p d.t)
    replace KB := belowRow_ KB (B := w.heap.size) (by omega) (planC Q0 Q1 Q2 Q3 d.n0 e0 d.n1 e1 d.n2 e2 d.n3 e3 d.l d.p d.t)
    replace b3 := (setRow_other _ (w.heap.size) (w.heap.size + 1) (planC Q0 Q1 Q2 Q3 d.n0 e0 d.n1 e1 d.n2 e2 d.n3 e3 d.l d.p d.t) (by omega)).trans b3
    replace H6 := (setRow_other _ (w.heap.size) (R6) (planC Q0 Q1 Q2 Q3 d.n0 e0 d.n1 e1 d.n2 e2 d.n3 e3 d.l d.p d.t) (by omega)).trans H6
    replace H7 := (setRow_other _ (w.heap.size) (R7) (planC Q0 Q1 Q2 Q3 d.n0 e0 d.n1 e1 d.n2 e2 d.n3 e3 d.l d.p d.t) (by omega)).trans H7
    replace Lp := Lp.keeps kk b2 (by decide)
    replace Os := Os.keepsT kk b2 (by decide)
    replace b2 := setRow_heap _ _ _ (planC Q0 Q1 Q2 Q3 d.n0 e0 d.n1 e1 d.n2 e2 d.n3 e3 d.l d.p d.t) _ _ b2
    clear kk
    generalize v1.setRow (w.heap.size) (planC Q0 Q1 Q2 Q3 d.n0 e0 d.n1 e1 d.n2 e2 d.n3 e3 d.l d.p d.t) = v2 at KB b2 b3 H6 H7 Lp Os ⊢
    refine hK.out _ _ ⟨fun o => cell_of_row _ _ o _ _ _ H6, fun o => cell_of_row _ _ o _ _ _ H7⟩ (fun _ => ?_)
    clear hK K'
    try (change wpAnyH _ _ _ _ _ _ _ (Act.put _ none _) _; dsimp only [Act.put])
    refine wpAnyH_ready (rs := [8]) (by kernel_rfl) (by simp) ?_
    refine AllReadyH.cons rfl (fun K' hK => ?_) AllReadyH.nil
    rw [if_pos (by rfl)]
    refine wp_store_row 38 (.tmp 3) (.tmp 20) rfl (w.heap.size + 1) (stC Y0 Y1 Y2 Y3 ps.length f0 ms.length f1 ds.length f2 ls.length f3 2 true ck bo ba lb gd pr) rfl rfl 38 _ b3 HIS.out rfl (by simp [Value.oneCell']) ?_
    have kk := keepsRow_ v2 (w.heap.size + 1) (stC Y0 Y1 Y2 Y3 ps.length f0 ms.length f1 ds.length f2 ls.length f3 2 true ck bo ba lb gd pr)
    replace KB := belowRow_ KB (B := w.heap.size + 1) (by omega) (stC Y0 Y1 Y2 Y3 ps.length f0 ms.length f1 ds.length f2 ls.length f3 2 true ck bo ba lb gd pr)
    replace b2 := (setRow_other _ (w.heap.size + 1) (w.heap.size) (stC Y0 Y1 Y2 Y3 ps.length f0 ms.length f1 ds.length f2 ls.length f3 2 true ck bo ba lb gd pr) (by omega)).trans b2
    replace H6 := (setRow_other _ (w.heap.size + 1) (R6) (stC Y0 Y1 Y2 Y3 ps.length f0 ms.length f1 ds.length f2 ls.length f3 2 true ck bo ba lb gd pr) (by omega)).trans H6
    replace H7 := (setRow_other _ (w.heap.size + 1) (R7) (stC Y0 Y1 Y2 Y3 ps.length f0 ms.length f1 ds.length f2 ls.length f3 2 true ck bo ba lb gd pr) (by omega)).trans H7
    replace Lp := Lp.keeps kk b3 (by decide)
    replace Os := Os.keepsT kk b3 (by decide)
    replace b3 := setRow_heap _ _ _ (stC Y0 Y1 Y2 Y3 ps.length f0 ms.length f1 ds.length f2 ls.length f3 2 true ck bo ba lb gd pr) _ _ b3
    clear kk
    generalize v2.setRow (w.heap.size + 1) (stC Y0 Y1 Y2 Y3 ps.length f0 ms.length f1 ds.length f2 ls.length f3 2 true ck bo ba lb gd pr) = v3 at KB b2 b3 H6 H7 Lp Os ⊢
    refine hK.out _ _ ⟨fun o => cell_of_row _ _ o _ _ _ H6, fun o => cell_of_row _ _ o _ _ _ H7⟩ (fun _ => ?_)
    clear hK K'
    try (change wpAnyH _ _ _ _ _ _ _ (Act.put _ none _) _; dsimp only [Act.put])
    refine wpAnyH_ready (rs := [9]) (by kernel_rfl) (by simp) ?_
    refine AllReadyH.cons rfl (fun K' hK => ?_) AllReadyH.nil
    go_simp
    refine hK.out _ _ ⟨fun o => cell_of_row _ _ o _ _ _ H6, fun o => cell_of_row _ _ o _ _ _ H7⟩ (fun _ => ?_)
    clear hK K'
    try (change wpAnyH _ _ _ _ _ _ _ (Act.put _ (some 4) _) _; dsimp only [Act.put])
    refine wpAnyH_done (by kernel_rfl) ?_ _
    refine NoPanic.normal ?_
    go_wp2_with fail
    exact bodyPost_ret (v := .tuple #[.agg (planC Q0 Q1 Q2 Q3 d.n0 e0 d.n1 e1 d.n2 e2 d.n3 e3 d.l d.p d.t), .agg (stC Y0 Y1 Y2 Y3 ps.length f0 ms.length f1 ds.length f2 ls.length f3 2 true ck bo ba lb gd pr), .int .i64 k]) (results_cells_num Tryz.results26 _ _ _ _ _ _ _ _ _ _ _ _ _ rfl rfl rfl b2 b3 Tryz.underlying29 rfl HIP.out Tryz.underlying38 rfl HIS.out) rfl ⟨_, _, _, _, d, _, ⟨2, true, ck, bo, ba, lb, ps, ms, ds, ls, gd, pr⟩, k, rfl, Lp, Os, hd, ⟨hs.s0, hs.s1, hs.s2, hs.s3⟩, KB⟩
end Go.Proofs.YtdkmhaghnfhajaaGreat
/- Xb -/
set_option linter.unusedVariables false
namespace Go.Proofs.YtdkmhaghnfhajaaGreat
open Go.RowKit Go.Shelf

end Go.Proofs.YtdkmhaghnfhajaaGreat
/- Xc -/
set_option linter.unusedVariables false
namespace Go.Proofs.YtdkmhaghnfhajaaGreat
open Go.RowKit

/-- A block of so many cells. -/
def Row1 (w : World) (g cap : Nat) : Prop := ∃ cur, w.heap[g]? = some (.cells cur 2) ∧ cur.size = cap
theorem Row1.set {w : World} {g cap : Nat} (h : Row1 w g cap) (b i : Nat) (v : Value) : Row1 (w.setCell ⟨b, i, none⟩ v) g cap := by
  obtain ⟨cur, hc, hs⟩ := h
  by_cases e : g = b
  · subst e
    exact ⟨_, heap_setCell_same w g i cur _ v hc, by simpa using hs⟩
  · exact ⟨cur, (heap_setCell_other w ⟨b, i, none⟩ g v e).trans hc, hs⟩
theorem Row1.sets {g cap : Nat} (b : Nat) : ∀ (vs : List Value) (o : Nat) {w : World}, Row1 w g cap → Row1 (w.setCells b o vs) g cap
  | [], _, _, h => h
  | v :: vs, o, _, h => Row1.sets b vs (o + 1) (h.set b o v)
theorem Row1.own {w : World} {g cap n B : Nat} {xs : List Value} (h : Row1 w g cap) (hx : ∀ j v, xs[j]? = some v → w.cell? ⟨g, j, none⟩ = some v) (hl : xs.length = n) (hB : B ≤ g) (hn : n ≤ cap) (hm : cap ≤ maxLen) :
    w.ownsRow B 2 1 (.slice (some ⟨g, 0, none⟩) n cap) n xs := by
  obtain ⟨cur, hc, hs⟩ := h
  refine ⟨by omega, .inr ⟨g, cap, cur, rfl, hB, hc, hn, hm, by omega, ?_⟩⟩
  apply List.ext_getElem?
  intro j
  by_cases hj : j < n
  · have h1 := hx j _ (List.getElem?_eq_getElem (show j < xs.length by omega))
    rw [cell_of_row _ _ _ _ _ _ hc] at h1
    rw [List.getElem?_take_of_lt (by omega), Array.getElem?_toList, h1, List.getElem?_eq_getElem (by omega)]
  · rw [List.getElem?_eq_none (by rw [List.length_take]; omega), List.getElem?_eq_none (by omega)]
section
variable (l : List Int) (x : Int) (w : World) (B vb : Nat)

end
end Go.Proofs.YtdkmhaghnfhajaaGreat
/- Xd -/
set_option linter.unusedVariables false
namespace Go.Proofs.YtdkmhaghnfhajaaGreat
open Go.RowKit Go.Shelf Go.Sort

end Go.Proofs.YtdkmhaghnfhajaaGreat
/- Xe -/
set_option linter.unusedVariables false
namespace Go.Proofs.YtdkmhaghnfhajaaGreat
open Go.RowKit

end Go.Proofs.YtdkmhaghnfhajaaGreat
/- Xf -/
set_option linter.unusedVariables false
namespace Go.Proofs.YtdkmhaghnfhajaaGreat
open Go.RowKit

end Go.Proofs.YtdkmhaghnfhajaaGreat
/- Xg -/
set_option linter.unusedVariables false
namespace Go.Proofs.YtdkmhaghnfhajaaGreat
open Go.RowKit

end Go.Proofs.YtdkmhaghnfhajaaGreat
/- Xh -/
set_option linter.unusedVariables false
namespace Go.Proofs.YtdkmhaghnfhajaaGreat
open Go.RowKit

end Go.Proofs.YtdkmhaghnfhajaaGreat
/- Xi -/
set_option linter.unusedVariables false
namespace Go.Proofs.YtdkmhaghnfhajaaGreat
open Go.RowKit

end Go.Proofs.YtdkmhaghnfhajaaGreat
