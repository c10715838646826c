/-
  The model's draws of a plan, a state and a number of a mount or a device (chapter 9).
-/
import Derived.Test.YtdkmhaghnfhajaaGreatDoorMZ14
import Derived.Test.YtdkmhaghnfhajaaGreatDoorMZ7
import Derived.Test.YtdkmhaghnfhajaaGreatDoorMZ16
import Derived.Test.YtdkmhaghnfhajaaGreatDoorMZ0
import Derived.Deep.DeepCutAuto
/- Tj -/
set_option linter.unusedVariables false
namespace Go.Proofs.YtdkmhaghnfhajaaGreatDoor
open Go.RowKit

/-- A list, as far as k its own, behind that all z. -/
def part {α : Type} (l : List α) (z : α) (k : Nat) : List α := l.mapIdx fun i q => if i < k then q else z
theorem part_get {α : Type} {l : List α} {z : α} {k i : Nat} : (part l z k)[i]? = l[i]?.map fun q => if i < k then q else z := by simp [part, List.getElem?_mapIdx]
theorem part_length {α : Type} (l : List α) (z : α) (k : Nat) : (part l z k).length = l.length := by simp [part]
theorem part_zero {α : Type} (l : List α) (z : α) : part l z 0 = List.replicate l.length z := by
  refine List.ext_getElem? fun i => ?_
  rw [part_get, List.getElem?_replicate]
  by_cases h : i < l.length
  · rw [List.getElem?_eq_getElem h, if_pos h]
    simp
  · rw [List.getElem?_eq_none (by omega), if_neg h]
    rfl
theorem part_full {α : Type} (l : List α) (z : α) : part l z l.length = l := by
  refine List.ext_getElem? fun i => ?_
  rw [part_get]
  by_cases h : i < l.length
  · rw [List.getElem?_eq_getElem h]
    simp [h]
  · rw [List.getElem?_eq_none (by omega)]
    rfl
theorem part_set {α : Type} {l : List α} {z q : α} {k : Nat} (hq : l[k]? = some q) : (part l z k).set k q = part l z (k + 1) := by
  refine List.ext_getElem? fun i => ?_
  rw [List.getElem?_set, part_length, part_get, part_get]
  by_cases e : k = i
  · subst e
    rw [if_pos rfl, if_pos (List.getElem?_eq_some_iff.1 hq).1, hq]
    simp
  · rw [if_neg e]
    congr 1
    funext q
    by_cases e2 : i < k
    · rw [if_pos e2, if_pos (by omega)]
    · rw [if_neg e2, if_neg (by omega)]
theorem part_same {α : Type} {l : List α} {z : α} {k : Nat} (hq : l[k]? = some z) : part l z (k + 1) = part l z k := by
  rw [← part_set hq]
  refine List.ext_getElem? fun i => ?_
  rw [List.getElem?_set, part_length, part_get]
  by_cases e : k = i
  · subst e
    rw [if_pos rfl, if_pos (List.getElem?_eq_some_iff.1 hq).1, hq]
    simp
  · rw [if_neg e]
theorem part_at {α : Type} {l : List α} {z q : α} {k : Nat} (hq : l[k]? = some q) : (part l z k)[k]? = some z := by
  rw [part_get, hq]
  simp
theorem run_cons {d : PlanD} {s x : StD} {r : RecD} {l : List RecD} (h : goodR d s r = true) (hl : runR d (applyR s r) l = some x) : runR d s (r :: l) = some x := by
  rw [runR, if_pos h, hl]

theorem snap_pods {d : PlanD} {s M : StD} (hM : StOk d M) (hs : StOk d s) (hp : M.pods = List.replicate s.pods.length (0, 0)) : ∀ n, n ≤ s.pods.length →
    ∃ c, runR d M (upTo n (snapP s)) = some { M with pods := part s.pods (0, 0) n, ck := c }
  | 0, _ => ⟨M.ck, by rw [upTo_zero, part_zero, ← hp]; rfl⟩
  | n + 1, hn => by
    obtain ⟨c, ih⟩ := snap_pods hM hs hp n (by omega)
    have h12 := (planOk_lock hs.plan).2.2.1
    have hX := runR_ok hM ih
    obtain ⟨q, hq⟩ : ∃ q, s.pods[n]? = some q := ⟨_, List.getElem?_eq_getElem (by omega)⟩
    have hA : podA s.pods n = q := by simp [podA, List.getD, hq]
    have hb := hs.pods q (List.mem_of_getElem? hq)
    have hn0 : n < d.n0 := by rw [← hs.np]; omega
    rw [upTo_next, runR_append, ih, Option.bind_some]
    unfold snapP
    rw [hA]
    by_cases h0 : q.1 = 0 ∧ q.2 = 0
    · rw [if_pos h0]
      obtain ⟨a, b⟩ := q
      obtain ⟨rfl, rfl⟩ := h0
      exact ⟨c, by rw [part_same hq]; rfl⟩
    · rw [if_neg h0]
      refine ⟨q.2, run_cons (goodR_of ?_ rfl (ok_clock hX hb.2)) ?_⟩
      · rw [recOkB_true]; simp only []; omega
      · refine run_cons (goodR_of ?_ ?_ (ok_pod (ok_clock hX hb.2) hb.1)) ?_
        · rw [recOkB_true]; simp only []; omega
        · simp [thereB, applyR, part_length]; omega
        · simp only [runR, applyR]
          simp [← part_set hq]
theorem snap_mnts {d : PlanD} {s M : StD} (hM : StOk d M) (hs : StOk d s) (hm : M.mnts = List.replicate s.mnts.length (true, 0)) : ∀ n, n ≤ s.mnts.length →
    runR d M (upTo n (snapM s)) = some { M with mnts := part s.mnts (true, 0) n }
  | 0, _ => by rw [upTo_zero, part_zero, ← hm]; rfl
  | n + 1, hn => by
    have ih := snap_mnts hM hs hm n (by omega)
    have h12 := (planOk_lock hs.plan).2.2.2.2.1
    have hX := runR_ok hM ih
    obtain ⟨q, hq⟩ : ∃ q, s.mnts[n]? = some q := ⟨_, List.getElem?_eq_getElem (by omega)⟩
    have hA : mntA s.mnts n = q := by simp [mntA, List.getD, hq]
    have hb := hs.mnts q (List.mem_of_getElem? hq)
    have hn2 : n < d.n2 := by rw [← hs.nm]; omega
    rw [upTo_next, runR_append, ih, Option.bind_some]
    unfold snapM
    rw [hA]
    obtain ⟨held, busy⟩ := q
    cases held
    · obtain rfl : busy = 0 := hb.2 rfl
      simp only [Bool.false_eq_true, if_false, if_true, List.append_nil]
      refine run_cons (goodR_of ?_ ?_ (ok_free hX)) ?_
      · rw [recOkB_true]; simp only []; omega
      · simp [thereB, part_length]; omega
      · simp only [runR, applyR]
        simp [← part_set hq]
    · simp only [if_true, List.nil_append]
      by_cases h0 : busy = 0
      · subst h0
        rw [if_pos rfl, part_same hq]
        rfl
      · rw [if_neg h0]
        have hg : ((part s.mnts (true, 0) n).getD n (false, 0)).1 = true := by rw [List.getD, part_at hq]; rfl
        refine run_cons (goodR_of ?_ ?_ (ok_busy hX hb.1 (by simpa using hg))) ?_
        · rw [recOkB_true]; simp only []; omega
        · simp [thereB, part_length]; omega
        · simp only [runR, applyR]
          simp [← part_set hq, part_at hq]
theorem snap_devs {d : PlanD} {s M : StD} (hM : StOk d M) (hs : StOk d s) (hv : M.devs = List.replicate s.devs.length true) : ∀ n, n ≤ s.devs.length →
    runR d M (upTo n (snapV s)) = some { M with devs := part s.devs true n }
  | 0, _ => by rw [upTo_zero, part_zero, ← hv]; rfl
  | n + 1, hn => by
    have ih := snap_devs hM hs hv n (by omega)
    have h12 := (planOk_lock hs.plan).2.2.2.2.2
    have hX := runR_ok hM ih
    obtain ⟨q, hq⟩ : ∃ q, s.devs[n]? = some q := ⟨_, List.getElem?_eq_getElem (by omega)⟩
    have hA : devA s.devs n = q := by simp [devA, List.getD, hq]
    have hn3 : n < d.n3 := by rw [← hs.nd]; omega
    rw [upTo_next, runR_append, ih, Option.bind_some]
    unfold snapV
    rw [hA]
    cases q
    · simp only [Bool.false_eq_true, if_false]
      refine run_cons (goodR_of ?_ ?_ (ok_give hX)) ?_
      · rw [recOkB_true]; simp only []; omega
      · simp [thereB, part_length]; omega
      · simp only [runR, applyR]
        simp [← part_set hq]
    · simp only [if_true]
      rw [part_same hq]
      rfl
theorem withN_last {x : Int} : ∀ {p : List Int}, (∀ y ∈ p, y < x) → withN x p = p ++ [x]
  | [], _ => rfl
  | y :: p, h => by
    have hy := h y (by simp)
    unfold withN
    rw [if_neg (by omega), if_neg (by omega), withN_last fun z hz => h z (by simp [hz])]
    rfl
theorem snap_lks {d : PlanD} : ∀ (q : List Int) {M : StD} {p : List Int}, StOk d M → M.lks = p → (p ++ q).Pairwise (· < ·) → (∀ x ∈ q, 0 ≤ x ∧ x ≤ 7) → runR d M (q.map (fun x => (⟨6, x, 0⟩ : RecD))) = some { M with lks := p ++ q }
  | [], M, p, _, hp, _, _ => by rw [List.append_nil, ← hp]; rfl
  | x :: q, M, p, hM, hp, hr, hq => by
    have hx := hq x (by simp)
    have hlt : ∀ y ∈ p, y < x := fun y hy => (List.pairwise_append.1 hr).2.2 y hy x (by simp)
    have hl : (applyR M ⟨6, x, 0⟩).lks = p ++ [x] := by
      subst hp
      simp [applyR, withN_last hlt]
    rw [List.map_cons]
    refine run_cons (goodR_of ?_ rfl (ok_lock hM hx)) ?_
    · rw [recOkB_true]; simp only []; omega
    · rw [snap_lks q (ok_lock hM hx) hl (by simpa using hr) fun z hz => hq z (by simp [hz])]
      simp [applyR]

/-- Chapter 14: a snapshot makes its state. -/
theorem snap_run {d : PlanD} {s : StD} (h : StOk d s) : runR d (newS d) (snapL s) = some s := by
  have hN := newS_ok h.plan
  obtain ⟨ph, co, ck, bo, ba, lb, pods, mnts, devs, lks, gd, pr⟩ := s
  have hn : newS d = (StD.mk 0 false 0 0 0 0 (List.replicate pods.length (0, 0)) (List.replicate mnts.length (true, 0)) (List.replicate devs.length true) [] 0 0) := by
    unfold newS
    rw [if_pos h.plan, ← h.np, ← h.nm, ← h.nd]
    rfl
  rw [hn] at hN ⊢
  have rA : runR d (StD.mk 0 false 0 0 0 0 (List.replicate pods.length (0, 0)) (List.replicate mnts.length (true, 0)) (List.replicate devs.length true) [] 0 0) (snapA (StD.mk ph co ck bo ba lb pods mnts devs lks gd pr)) = some (StD.mk ph co 0 0 0 0 (List.replicate pods.length (0, 0)) (List.replicate mnts.length (true, 0)) (List.replicate devs.length true) [] 0 0) := by
    unfold snapA
    dsimp only
    by_cases h0 : ph = 0
    · have hc : co = false := by rw [show co = _ from h.co, h0]; rfl
      rw [if_pos h0, h0, hc]
      rfl
    · have hc : co = true := by rw [show co = _ from h.co]; simp [h0]
      have hp := h.ph
      dsimp only at hp
      rw [if_neg h0, hc]
      refine run_cons (goodR_of ?_ rfl (ok_phase hN (by omega))) ?_
      · rw [recOkB_true]; simp only []; omega
      · simp [runR, applyR, h0]
  have hA := runR_ok hN rA
  have rB : runR d (StD.mk ph co 0 0 0 0 (List.replicate pods.length (0, 0)) (List.replicate mnts.length (true, 0)) (List.replicate devs.length true) [] 0 0) (snapB (StD.mk ph co ck bo ba lb pods mnts devs lks gd pr)) = some (StD.mk ph co 0 bo 0 0 (List.replicate pods.length (0, 0)) (List.replicate mnts.length (true, 0)) (List.replicate devs.length true) [] 0 0) := by
    unfold snapB
    dsimp only
    by_cases h0 : bo = 0
    · rw [if_pos h0, h0]
      rfl
    · have hb := h.bo
      dsimp only at hb
      rw [if_neg h0]
      refine run_cons (goodR_of ?_ rfl (ok_boot hA hb)) ?_
      · rw [recOkB_true]; simp only []; omega
      · simp [runR, applyR]
  have hB := runR_ok hA rB
  obtain ⟨c, rP⟩ := snap_pods hB h rfl pods.length (Nat.le_refl _)
  dsimp only at rP
  rw [part_full] at rP
  have hP := runR_ok hB rP
  have gC : goodR d (StD.mk ph co c bo 0 0 pods (List.replicate mnts.length (true, 0)) (List.replicate devs.length true) [] 0 0) ⟨8, ck, 0⟩ = true := goodR_of (by rw [recOkB_true]; have := h.ck; dsimp only at this ⊢; omega) rfl (ok_clock hP h.ck)
  have hC : StOk d (StD.mk ph co ck bo 0 0 pods (List.replicate mnts.length (true, 0)) (List.replicate devs.length true) [] 0 0) := ok_clock hP h.ck
  have rM := snap_mnts hC h rfl mnts.length (Nat.le_refl _)
  dsimp only at rM
  rw [part_full] at rM
  have hM := runR_ok hC rM
  have rV := snap_devs hM h rfl devs.length (Nat.le_refl _)
  dsimp only at rV
  rw [part_full] at rV
  have hV := runR_ok hM rV
  have rL : runR d (StD.mk ph co ck bo 0 0 pods mnts devs [] 0 0) (lks.map (fun x => (⟨6, x, 0⟩ : RecD))) = some (StD.mk ph co ck bo 0 0 pods mnts devs lks 0 0) := snap_lks (p := []) lks hV rfl h.rise h.lks
  have hL := runR_ok hV rL
  have g9 : goodR d (StD.mk ph co ck bo 0 0 pods mnts devs lks 0 0) ⟨9, ba, 0⟩ = true := goodR_of (by rw [recOkB_true]; have := h.ba; dsimp only at this ⊢; omega) rfl (ok_band hL h.ba)
  have h9 := ok_band hL h.ba
  have g11 := goodR_of (r := ⟨11, lb, 0⟩) (by rw [recOkB_true]; have := h.lb; dsimp only at this ⊢; omega) rfl (ok_lockBy h9 h.lb)
  have h11 := ok_lockBy h9 h.lb
  have ht := planOk_tries h.plan
  have g12 := goodR_of (r := ⟨12, gd, pr⟩) (by rw [recOkB_true]; have := h.gd; have := h.pr; dsimp only at *; omega) rfl (ok_probe h11 h.gd h.pr)
  have rE : runR d (StD.mk ph co ck bo 0 0 pods mnts devs lks 0 0) [⟨9, ba, 0⟩, ⟨11, lb, 0⟩, ⟨12, gd, pr⟩] = some (StD.mk ph co ck bo ba lb pods mnts devs lks gd pr) := run_cons g9 (run_cons g11 (run_cons g12 rfl))
  have rC : runR d (StD.mk ph co c bo 0 0 pods (List.replicate mnts.length (true, 0)) (List.replicate devs.length true) [] 0 0) [⟨8, ck, 0⟩] = some (StD.mk ph co ck bo 0 0 pods (List.replicate mnts.length (true, 0)) (List.replicate devs.length true) [] 0 0) := run_cons gC rfl
  unfold snapL
  dsimp only
  rw [runR_append, runR_append, rA, Option.bind_some, rB, Option.bind_some, runR_append, rP, Option.bind_some, runR_append, rC, Option.bind_some, runR_append, rM, Option.bind_some, runR_append, rV, Option.bind_some, runR_append, rL, Option.bind_some, rE]
end Go.Proofs.YtdkmhaghnfhajaaGreatDoor
/- El -/
set_option linter.unusedVariables false
namespace Go.Proofs.YtdkmhaghnfhajaaGreatDoor
open Go.RowKit

end Go.Proofs.YtdkmhaghnfhajaaGreatDoor
/- Tk -/
set_option linter.unusedVariables false
namespace Go.Proofs.YtdkmhaghnfhajaaGreatDoor
open Go.RowKit

/-- A machine that is coming back has probes left. -/
def Prb (d : PlanD) (s : StD) : Prop := (s.ph = 6 ∨ s.ph = 7) → s.pr < d.t
theorem run_fold {d : PlanD} : ∀ {l : List RecD} {s x : StD}, runR d s l = some x → x = l.foldl applyR s
  | [], s, x, hx => by cases hx; rfl
  | r :: l, s, x, hx => by
    simp only [runR] at hx
    split at hx
    · exact (run_fold hx : x = l.foldl applyR (applyR s r))
    · cases hx
theorem run_allOk {d : PlanD} : ∀ {l : List RecD} {s x : StD}, runR d s l = some x → allOk l = true
  | [], s, x, hx => rfl
  | r :: l, s, x, hx => by
    simp only [runR] at hx
    split at hx
    · rename_i hg
      simp only [goodR, Bool.and_eq_true] at hg
      have := run_allOk hx
      simp only [allOk, List.all_cons, Bool.and_eq_true] at this ⊢
      exact ⟨hg.1.1, this⟩
    · cases hx
/-- Lists of records, one list after the other. -/
def runLs (d : PlanD) : StD → List (List RecD) → Option StD
  | s, [] => some s
  | s, l :: ls => (runR d s l).bind fun x => runLs d x ls
theorem runLs_ok {d : PlanD} : ∀ {ls : List (List RecD)} {s x : StD}, StOk d s → runLs d s ls = some x → StOk d x
  | [], s, x, h, hx => by cases hx; exact h
  | l :: ls, s, x, h, hx => by
    simp only [runLs] at hx
    cases hr : runR d s l with
    | none => rw [hr] at hx; cases hx
    | some y => rw [hr] at hx; exact runLs_ok (runR_ok h hr) hx
/-- An agent: its store is whole frames, and makes its state. -/
structure AgD (d : PlanD) (s : StD) (st : List Nat) : Prop where
  plan : planOkB d = true
  len : st.length ≤ 1200
  it : ∃ ls, framesN st = (ls, st.length) ∧ runLs d (newS d) ls = some s
  prb : Prb d s
theorem AgD.ok {d : PlanD} {s : StD} {st : List Nat} (h : AgD d s st) : StOk d s := by
  obtain ⟨ls, -, hr⟩ := h.it
  exact runLs_ok (newS_ok h.plan) hr
theorem snap_write {d : PlanD} {s : StD} (h : StOk d s) : writeB (snapL s) = true := by
  have ha := run_allOk (snap_run h)
  have hl := planOk_lock h.plan
  have h1 := snapA_le s
  have h2 := snapB_le s
  have h3 := upTo_le (n := s.pods.length) (snapP_le s)
  have h4 := upTo_le (n := s.mnts.length) (snapM_le s)
  have h5 := upTo_le (n := s.devs.length) (snapV_le s)
  have h6 := rise_len (a := 0) h.rise h.lks (by omega)
  have e0 := h.np
  have e2 := h.nm
  have e3 := h.nd
  have hlen : (snapL s).length ≤ 80 := by
    unfold snapL
    simp only [List.length_append, List.length_cons, List.length_nil, List.length_map]
    omega
  simp [writeB, ha, hlen]
end Go.Proofs.YtdkmhaghnfhajaaGreatDoor
/- Hd -/
set_option linter.unusedVariables false
namespace Go.Proofs.YtdkmhaghnfhajaaGreatDoor
open Go.RowKit

def GivesPSN (w : World) (e : Ending) (w' : World) : Prop :=
  ∃ v0 v1 v2 v3 d vs s k, e = .returned (.tuple #[.agg #[v0, v1, v2, v3, .int .i64 d.l, .int .i64 d.p, .int .i64 d.t], vs, .int .i64 k]) ∧ Lists w' w.heap.size v0 v1 v2 v3 d ∧ OwnSt w' w.heap.size vs s ∧ PlSmall d ∧ StSmall s ∧ Below w.heap.size w w'
theorem results_cells_num {P : Program} {fn : Func} {p q r : Tmp} {ty ty' : TypeId} (h : fn.results = #[.cell p ty, .cell q ty', .tmp r]) (tmps : Array Value) (w : World) (g g' : Nat) (t t' : TypeId) (cs cs' : Array Value) (fr fr' : Nat × Nat) (d d' : TypeDesc) (u : Value)
    (hp : tmps.getD p undef = .pointer (some ⟨g, 0, none⟩)) (hq : tmps.getD q undef = .pointer (some ⟨g', 0, none⟩)) (hr : tmps.getD r undef = u) (hg : w.heap[g]? = some (.cells cs t fr)) (hg' : w.heap[g']? = some (.cells cs' t' fr'))
    (hu : P.underlying ty = some d) (hd : (match d with | .struct _ | .array _ _ => true | _ => false) = true) (hi : (P.info? ty).map (·.size) = some cs.size)
    (hu' : P.underlying ty' = some d') (hd' : (match d' with | .struct _ | .array _ _ => true | _ => false) = true) (hi' : (P.info? ty').map (·.size) = some cs'.size) :
    (results fn tmps).run P w = .ok (.tuple #[.agg cs, .agg cs', u]) w := by
  have hp' : tmps[p]?.getD undef = .pointer (some ⟨g, 0, none⟩) := by simpa using hp
  have hq' : tmps[q]?.getD undef = .pointer (some ⟨g', 0, none⟩) := by simpa using hq
  have hr' : tmps[r]?.getD undef = u := by simpa using hr
  simp [results, h, hp', hq', hr', asAddr, run_loadVar_row w g t ty cs fr d hg hu hd hi, run_loadVar_row w g' t' ty' cs' fr' d' hg' hu' hd' hi']
/-- The numbers of a state beside its lists may be others. -/
theorem OwnSt.nums {w : World} {B : Nat} {v0 v1 v2 v3 : Value} {ph ck bo ba lb gd pr : Int} {co : Bool} {ps : List (Int × Int)} {ms : List (Bool × Int)} {ds : List Bool} {ls : List Int} (h : OwnSt w B (.agg #[.int .i64 ph, .bool co, .int .i64 ck, .int .i64 bo, .int .i64 ba, .int .i64 lb, v0, v1, v2, v3, .int .i64 gd, .int .i64 pr]) ⟨ph, co, ck, bo, ba, lb, ps, ms, ds, ls, gd, pr⟩)
    (ph' : Int) (co' : Bool) (ck' bo' ba' lb' gd' pr' : Int) : OwnSt w B (.agg #[.int .i64 ph', .bool co', .int .i64 ck', .int .i64 bo', .int .i64 ba', .int .i64 lb', v0, v1, v2, v3, .int .i64 gd', .int .i64 pr']) ⟨ph', co', ck', bo', ba', lb', ps, ms, ds, ls, gd', pr'⟩ := by
  obtain ⟨u0, u1, u2, u3, hy, z0, z1, z2, z3⟩ := h.it
  injection hy with hy
  have e0 : v0 = u0 := Option.some.inj (show some v0 = some u0 from congrArg (fun a : Array Value => a[6]?) hy)
  have e1 : v1 = u1 := Option.some.inj (show some v1 = some u1 from congrArg (fun a : Array Value => a[7]?) hy)
  have e2 : v2 = u2 := Option.some.inj (show some v2 = some u2 from congrArg (fun a : Array Value => a[8]?) hy)
  have e3 : v3 = u3 := Option.some.inj (show some v3 = some u3 from congrArg (fun a : Array Value => a[9]?) hy)
  subst e0 e1 e2 e3
  exact ⟨_, _, _, _, rfl, z0, z1, z2, z3⟩

theorem OwnSt.podRow {W : World} {B : Nat} {Y0 Y1 Y2 Y3 : Option Addr} {n0 f0 n1 f1 n2 f2 n3 f3 : Nat} {ph ck bo ba lb gd pr : Int} {co : Bool} {s : StD} (h : OwnSt W B (.agg (stC Y0 Y1 Y2 Y3 n0 f0 n1 f1 n2 f2 n3 f3 ph co ck bo ba lb gd pr)) s) {i : Nat} (hi : i < s.pods.length) :
    ∃ gr, Y0 = some ⟨gr, 0, none⟩ ∧ B ≤ gr ∧ gr < W.heap.size ∧ (∃ cs, W.heap[gr]? = some (.cells cs 62)) ∧ RowV W gr (podCs s.pods) := by
  obtain ⟨u0, u1, u2, u3, hy, z0, z1, z2, z3⟩ := h.it
  injection hy with hy
  obtain rfl : Value.slice Y0 n0 f0 = u0 := Option.some.inj (show some _ = some u0 from congrArg (fun a : Array Value => a[6]?) hy)
  obtain ⟨A, c, g, hv, hA, -, hBg, hgz, R, -, -⟩ := open_row z0
  injection hv with hv0 hv1 hv2
  obtain rfl := hA (by omega)
  subst hv0 hv1 hv2
  exact ⟨g, rfl, hBg, hgz (by omega), row_block z0, R⟩
theorem OwnSt.mntRow {W : World} {B : Nat} {Y0 Y1 Y2 Y3 : Option Addr} {n0 f0 n1 f1 n2 f2 n3 f3 : Nat} {ph ck bo ba lb gd pr : Int} {co : Bool} {s : StD} (h : OwnSt W B (.agg (stC Y0 Y1 Y2 Y3 n0 f0 n1 f1 n2 f2 n3 f3 ph co ck bo ba lb gd pr)) s) {i : Nat} (hi : i < s.mnts.length) :
    ∃ gr, Y1 = some ⟨gr, 0, none⟩ ∧ B ≤ gr ∧ gr < W.heap.size ∧ (∃ cs, W.heap[gr]? = some (.cells cs 83)) ∧ RowV W gr (mntCs s.mnts) := by
  obtain ⟨u0, u1, u2, u3, hy, z0, z1, z2, z3⟩ := h.it
  injection hy with hy
  obtain rfl : Value.slice Y1 n1 f1 = u1 := Option.some.inj (show some _ = some u1 from congrArg (fun a : Array Value => a[7]?) hy)
  obtain ⟨A, c, g, hv, hA, -, hBg, hgz, R, -, -⟩ := open_row z1
  injection hv with hv0 hv1 hv2
  obtain rfl := hA (by omega)
  subst hv0 hv1 hv2
  exact ⟨g, rfl, hBg, hgz (by omega), row_block z1, R⟩
theorem podCs_set1 (l : List (Int × Int)) {i : Nat} (hi : i < l.length) (r : Int) : podCs (l.set i (r, (podA l i).2)) = (podCs l).set (i * 2) (.int .i64 r) := by
  rw [podCs_set l hi]
  have h1 := (podCs_at l hi).2
  apply List.ext_getElem?
  intro j
  by_cases e : j = i * 2 + 1
  · subst e
    rw [List.getElem?_set_self (by rw [List.length_set, podCs_len]; omega), List.getElem?_set_ne (by omega), h1]
  · rw [List.getElem?_set_ne (by omega)]
theorem OwnSt.podSet {W : World} {B gr : Nat} {Y1 Y2 Y3 : Option Addr} {n0 f0 n1 f1 n2 f2 n3 f3 : Nat} {ph ck bo ba lb gd pr : Int} {co : Bool} {s : StD} (h : OwnSt W B (.agg (stC (some ⟨gr, 0, none⟩) Y1 Y2 Y3 n0 f0 n1 f1 n2 f2 n3 f3 ph co ck bo ba lb gd pr)) s) {i : Nat} (hi : i < s.pods.length) (r : Int) :
    OwnSt (W.setCell ⟨gr, i * 2, none⟩ (.int .i64 r)) B (.agg (stC (some ⟨gr, 0, none⟩) Y1 Y2 Y3 n0 f0 n1 f1 n2 f2 n3 f3 ph co ck bo ba lb gd pr)) ⟨s.ph, s.co, s.ck, s.bo, s.ba, s.lb, s.pods.set i (r, (podA s.pods i).2), s.mnts, s.devs, s.lks, s.gd, s.pr⟩ := by
  obtain ⟨u0, u1, u2, u3, hy, z0, z1, z2, z3⟩ := h.it
  have hy0 := hy
  injection hy with hy
  obtain rfl : Value.slice (some ⟨gr, 0, none⟩) n0 f0 = u0 := Option.some.inj (show some _ = some u0 from congrArg (fun a : Array Value => a[6]?) hy)
  have hnn : n0 = s.pods.length := by
    obtain ⟨A, c, g, hv, -⟩ := open_row z0
    injection hv
  subst hnn
  obtain ⟨cs, hgr⟩ := row_block z0
  have kk : Keeps (· = gr) W (W.setCell ⟨gr, i * 2, none⟩ (.int .i64 r)) := Keeps.set (S := (· = gr)) (Keeps.refl _ _) rfl _
  refine ⟨_, u1, u2, u3, hy0, ?_, ownsRow_keeps z1 kk (row_apart z1 hgr (by decide)), ownsRow_keeps z2 kk (row_apart z2 hgr (by decide)), ownsRow_keeps z3 kk (row_apart z3 hgr (by decide))⟩
  dsimp only
  rw [List.length_set, podCs_set1 _ hi]
  exact (World.ownsRow.stored z0 (i * 2) (.int .i64 r)).1
end Go.Proofs.YtdkmhaghnfhajaaGreatDoor
