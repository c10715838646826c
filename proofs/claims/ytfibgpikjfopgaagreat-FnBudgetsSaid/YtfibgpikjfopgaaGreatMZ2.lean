/-
  The model's l6With, at a list that rises.
-/
import Derived.Test.YtfibgpikjfopgaaGreatMZ1
import Derived.Test.YtfibgpikjfopgaaGreatMZ0
import Derived.BigQuiet
import Derived.Deep.QuietTactic
import Derived.StillTailTactics
import Derived.Deep.RegionHeld3
import Derived.Laws.AppendOwnNone
import Derived.Deep.AppendLies
import Derived.OwnWalk
/- Ta -/
set_option linter.unusedVariables false
namespace Go.Proofs.YtfibgpikjfopgaaGreat
open Go.RowKit

structure StD where
  ph : Int
  co : Bool
  ck : Int
  bo : Int
  ba : Int
  lb : Int
  pods : List (Int × Int)
  mnts : List (Bool × Int)
  devs : List Bool
  lks : List Int
  gd : Int
  pr : Int
deriving DecidableEq

def zeroS : StD := ⟨0, false, 0, 0, 0, 0, [], [], [], [], 0, 0⟩

/-- A state is right. -/
structure StOk (d : PlanD) (s : StD) : Prop where
  plan : planOkB d = true
  ph : 0 ≤ s.ph ∧ s.ph ≤ 8
  co : s.co = decide (s.ph ≠ 0)
  ck : 0 ≤ s.ck ∧ s.ck ≤ 1000000
  bo : 0 ≤ s.bo ∧ s.bo ≤ 1000000
  ba : 0 ≤ s.ba ∧ s.ba ≤ 6
  lb : 0 ≤ s.lb ∧ s.lb ≤ 1000000
  gd : 0 ≤ s.gd ∧ s.gd ≤ s.pr
  pr : s.pr ≤ d.t
  np : s.pods.length = d.n0
  nm : s.mnts.length = d.n2
  nd : s.devs.length = d.n3
  pods : ∀ q ∈ s.pods, (0 ≤ q.1 ∧ q.1 ≤ 6) ∧ (0 ≤ q.2 ∧ q.2 ≤ 1000000)
  mnts : ∀ q ∈ s.mnts, (0 ≤ q.2 ∧ q.2 ≤ 5) ∧ (q.1 = false → q.2 = 0)
  lks : ∀ x ∈ s.lks, 0 ≤ x ∧ x ≤ 7
  rise : s.lks.Pairwise (· < ·)

def stOkB (d : PlanD) (s : StD) : Bool :=
  planOkB d && inB s.ph 0 8 && (s.co == decide (s.ph ≠ 0)) && inB s.ck 0 1000000 && inB s.bo 0 1000000 && inB s.ba 0 6 && inB s.lb 0 1000000 && inB s.gd 0 s.pr && decide (s.pr ≤ d.t) &&
  decide (s.pods.length = d.n0) && decide (s.mnts.length = d.n2) && decide (s.devs.length = d.n3) &&
  s.pods.all (fun q => inB q.1 0 6 && inB q.2 0 1000000) && s.mnts.all (fun q => inB q.2 0 5 && (q.1 || q.2 == 0)) && s.lks.all (fun x => inB x 0 7) && decide (s.lks.Pairwise (· < ·))
theorem stOkB_iff {d : PlanD} {s : StD} : stOkB d s = true ↔ StOk d s := by
  simp only [stOkB, Bool.and_eq_true, inB_true, beq_iff_eq, decide_eq_true_eq, List.all_eq_true, Bool.or_eq_true]
  constructor
  · rintro ⟨⟨⟨⟨⟨⟨⟨⟨⟨⟨⟨⟨⟨⟨⟨h1, h2⟩, h3⟩, h4⟩, h5⟩, h6⟩, h7⟩, h8⟩, h9⟩, h10⟩, h11⟩, h12⟩, h13⟩, h14⟩, h15⟩, h16⟩
    exact ⟨h1, h2, h3, h4, h5, h6, h7, h8, h9, h10, h11, h12, h13, fun q hq => ⟨(h14 q hq).1, fun hf => ((h14 q hq).2.resolve_left (by rw [hf]; decide))⟩, h15, h16⟩
  · rintro ⟨h1, h2, h3, h4, h5, h6, h7, h8, h9, h10, h11, h12, h13, h14, h15, h16⟩
    refine ⟨⟨⟨⟨⟨⟨⟨⟨⟨⟨⟨⟨⟨⟨⟨h1, h2⟩, h3⟩, h4⟩, h5⟩, h6⟩, h7⟩, h8⟩, h9⟩, h10⟩, h11⟩, h12⟩, h13⟩, fun q hq => ⟨(h14 q hq).1, ?_⟩⟩, h15⟩, h16⟩
    cases hb : q.1
    · exact .inr ((h14 q hq).2 hb)
    · exact .inl rfl

/-- Chapter 5's new state. -/
def newS (d : PlanD) : StD := if planOkB d then { zeroS with pods := List.replicate d.n0 (0, 0), mnts := List.replicate d.n2 (true, 0), devs := List.replicate d.n3 true } else zeroS
theorem planOk_tries {d : PlanD} (h : planOkB d = true) : 1 ≤ d.p ∧ d.p ≤ 9 ∧ d.p ≤ d.t ∧ d.t ≤ 30 := by
  simp only [planOkB, timesB, sizesB, Bool.and_eq_true, inB_true, decide_eq_true_eq] at h
  obtain ⟨⟨⟨⟨⟨h1, h2⟩, -⟩, -⟩, -⟩, -⟩ := h
  omega
theorem newS_ok {d : PlanD} (h : planOkB d = true) : StOk d (newS d) := by
  have := planOk_tries h
  unfold newS
  rw [if_pos h]
  refine ⟨h, ?_, rfl, ?_, ?_, ?_, ?_, ?_, ?_, ?_, ?_, ?_, ?_, ?_, ?_, ?_⟩ <;> simp [zeroS]
  omega

def aliveB (x : Int) : Bool := inB x 0 3
def liveL (s : StD) : List Int := picks s.pods.length (fun i => aliveB (s.pods.getD i (0, 0)).1)

/-- A list that rises, with a number, and without it. -/
def withN (n : Int) : List Int → List Int
  | [] => [n]
  | x :: l => if n < x then n :: x :: l else if n = x then x :: l else x :: withN n l
def withoutN (l : List Int) (n : Int) : List Int := l.filter (fun x => x != n)
theorem withN_mem {n x : Int} {l : List Int} : x ∈ withN n l ↔ x = n ∨ x ∈ l := by
  induction l with
  | nil => simp [withN]
  | cons y l ih =>
    unfold withN
    split
    · simp
    · split
      · rename_i h; subst h; simp
      · simp only [List.mem_cons, ih]
        constructor
        · rintro (h | h | h) <;> simp [h]
        · rintro (h | h | h) <;> simp [h]
theorem withN_rise {n : Int} {l : List Int} (h : l.Pairwise (· < ·)) : (withN n l).Pairwise (· < ·) := by
  induction l with
  | nil => simp [withN]
  | cons y l ih =>
    obtain ⟨h1, h2⟩ := List.pairwise_cons.1 h
    unfold withN
    split
    · rename_i hn
      refine List.pairwise_cons.2 ⟨fun z hz => ?_, h⟩
      rcases List.mem_cons.1 hz with rfl | hz
      · exact hn
      · have := h1 z hz; omega
    · split
      · exact h
      · refine List.pairwise_cons.2 ⟨fun z hz => ?_, ih h2⟩
        rcases withN_mem.1 hz with rfl | hz
        · omega
        · exact h1 z hz
theorem withoutN_mem {n x : Int} {l : List Int} (h : x ∈ withoutN l n) : x ∈ l ∧ x ≠ n := by
  simpa [withoutN] using h
theorem withoutN_rise {n : Int} {l : List Int} (h : l.Pairwise (· < ·)) : (withoutN l n).Pairwise (· < ·) := h.sublist List.filter_sublist

/-- What one record makes of a state. -/
def applyR (s : StD) (r : RecD) : StD :=
  if r.k = 1 then (if r.a = 0 then { s with ph := 0, co := false, gd := 0, pr := 0, lks := [] } else { s with ph := r.a, co := true })
  else if r.k = 2 then { s with pods := s.pods.set r.a.toNat (r.b, s.ck) }
  else if r.k = 3 then { s with mnts := s.mnts.set r.a.toNat ((s.mnts.getD r.a.toNat (false, 0)).1, r.b) }
  else if r.k = 4 then { s with mnts := s.mnts.set r.a.toNat (false, 0) }
  else if r.k = 5 then { s with devs := s.devs.set r.a.toNat false }
  else if r.k = 6 then { s with lks := withN r.a s.lks }
  else if r.k = 7 then { s with lks := withoutN s.lks r.a }
  else if r.k = 8 then { s with ck := r.a }
  else if r.k = 9 then { s with ba := r.a }
  else if r.k = 10 then { s with bo := r.a }
  else if r.k = 11 then { s with lb := r.a }
  else if r.k = 12 then { s with gd := r.a, pr := r.b }
  else s
/-- Is there what a record names? -/
def thereB (s : StD) (r : RecD) : Bool :=
  if r.k = 2 then decide (r.a < s.pods.length) else if r.k = 3 ∨ r.k = 4 then decide (r.a < s.mnts.length) else if r.k = 5 then decide (r.a < s.devs.length) else true

/-- Chapter 6: one record; all of them. -/
def goodR (d : PlanD) (s : StD) (r : RecD) : Bool := recOkB r && thereB s r && stOkB d (applyR s r)
def appliedS (d : PlanD) (s : StD) (r : RecD) : StD × Bool := if stOkB d s then (if goodR d s r then (applyR s r, true) else (s, false)) else (zeroS, false)
def runR (d : PlanD) : StD → List RecD → Option StD
  | s, [] => some s
  | s, r :: l => if goodR d s r then runR d (applyR s r) l else none
def appliedL (d : PlanD) (s : StD) (l : List RecD) : StD × Bool :=
  if stOkB d s then (match runR d s l with | some x => (x, true) | none => (s, false)) else (zeroS, false)
theorem runR_append {d : PlanD} {l m : List RecD} {s : StD} : runR d s (l ++ m) = (runR d s l).bind (fun x => runR d x m) := by
  induction l generalizing s with
  | nil => rfl
  | cons r l ih =>
    simp only [List.cons_append, runR]
    split
    · exact ih
    · rfl
theorem runR_ok {d : PlanD} {l : List RecD} {s x : StD} (h : StOk d s) (hr : runR d s l = some x) : StOk d x := by
  induction l generalizing s with
  | nil => cases hr; exact h
  | cons r l ih =>
    simp only [runR] at hr
    split at hr
    · rename_i hg
      simp only [goodR, Bool.and_eq_true] at hg
      exact ih (stOkB_iff.1 hg.2) hr
    · cases hr

theorem set_all {α : Type} {l : List α} {i : Nat} {x : α} {p : α → Prop} (h : ∀ q ∈ l, p q) (hx : p x) : ∀ q ∈ l.set i x, p q := fun q hq => by
  rcases List.mem_or_eq_of_mem_set hq with h1 | h1
  · exact h q h1
  · subst h1; exact hx

section
variable {d : PlanD} {s : StD} (h : StOk d s)
include h
theorem ok_clock {c : Int} (hc : 0 ≤ c ∧ c ≤ 1000000) : StOk d (applyR s ⟨8, c, 0⟩) := by
  obtain ⟨h1, h2, h3, h4, h5, h6, h7, h8, h9, h10, h11, h12, h13, h14, h15, h16⟩ := h
  exact ⟨h1, h2, h3, hc, h5, h6, h7, h8, h9, h10, h11, h12, h13, h14, h15, h16⟩
theorem ok_band {c : Int} (hc : 0 ≤ c ∧ c ≤ 6) : StOk d (applyR s ⟨9, c, 0⟩) := by
  obtain ⟨h1, h2, h3, h4, h5, h6, h7, h8, h9, h10, h11, h12, h13, h14, h15, h16⟩ := h
  exact ⟨h1, h2, h3, h4, h5, hc, h7, h8, h9, h10, h11, h12, h13, h14, h15, h16⟩
theorem ok_boot {c : Int} (hc : 0 ≤ c ∧ c ≤ 1000000) : StOk d (applyR s ⟨10, c, 0⟩) := by
  obtain ⟨h1, h2, h3, h4, h5, h6, h7, h8, h9, h10, h11, h12, h13, h14, h15, h16⟩ := h
  exact ⟨h1, h2, h3, h4, hc, h6, h7, h8, h9, h10, h11, h12, h13, h14, h15, h16⟩
theorem ok_lockBy {c : Int} (hc : 0 ≤ c ∧ c ≤ 1000000) : StOk d (applyR s ⟨11, c, 0⟩) := by
  obtain ⟨h1, h2, h3, h4, h5, h6, h7, h8, h9, h10, h11, h12, h13, h14, h15, h16⟩ := h
  exact ⟨h1, h2, h3, h4, h5, h6, hc, h8, h9, h10, h11, h12, h13, h14, h15, h16⟩
theorem ok_probe {a b : Int} (ha : 0 ≤ a ∧ a ≤ b) (hb : b ≤ d.t) : StOk d (applyR s ⟨12, a, b⟩) := by
  obtain ⟨h1, h2, h3, h4, h5, h6, h7, h8, h9, h10, h11, h12, h13, h14, h15, h16⟩ := h
  exact ⟨h1, h2, h3, h4, h5, h6, h7, ha, hb, h10, h11, h12, h13, h14, h15, h16⟩
theorem ok_idle {b : Int} : StOk d (applyR s ⟨1, 0, b⟩) := by
  have := planOk_tries h.plan
  obtain ⟨h1, h2, h3, h4, h5, h6, h7, h8, h9, h10, h11, h12, h13, h14, h15, h16⟩ := h
  exact ⟨h1, ⟨Int.le_refl _, show (0 : Int) ≤ 8 by decide⟩, rfl, h4, h5, h6, h7, ⟨Int.le_refl _, Int.le_refl _⟩, show (0 : Int) ≤ d.t by omega, h10, h11, h12, h13, h14, fun x hx => (by cases hx), List.Pairwise.nil⟩
theorem ok_phase {c b : Int} (hc : 1 ≤ c ∧ c ≤ 8) : StOk d (applyR s ⟨1, c, b⟩) := by
  obtain ⟨h1, h2, h3, h4, h5, h6, h7, h8, h9, h10, h11, h12, h13, h14, h15, h16⟩ := h
  have hn : ¬ c = 0 := by omega
  simp only [applyR, if_pos, if_neg hn]
  exact ⟨h1, ⟨by show 0 ≤ c; omega, hc.2⟩, by show true = decide (c ≠ 0); simp [hn], h4, h5, h6, h7, h8, h9, h10, h11, h12, h13, h14, h15, h16⟩
theorem ok_pod {i st : Int} (hs : 0 ≤ st ∧ st ≤ 6) : StOk d (applyR s ⟨2, i, st⟩) := by
  obtain ⟨h1, h2, h3, h4, h5, h6, h7, h8, h9, h10, h11, h12, h13, h14, h15, h16⟩ := h
  exact ⟨h1, h2, h3, h4, h5, h6, h7, h8, h9, by simpa [applyR] using h10, h11, h12, set_all h13 ⟨hs, h4⟩, h14, h15, h16⟩
theorem ok_busy {i n : Int} (hn : 0 ≤ n ∧ n ≤ 5) (hh : (s.mnts.getD i.toNat (false, 0)).1 = true) : StOk d (applyR s ⟨3, i, n⟩) := by
  obtain ⟨h1, h2, h3, h4, h5, h6, h7, h8, h9, h10, h11, h12, h13, h14, h15, h16⟩ := h
  exact ⟨h1, h2, h3, h4, h5, h6, h7, h8, h9, h10, by simpa [applyR] using h11, h12, h13, set_all h14 ⟨hn, fun hf => by rw [hh] at hf; cases hf⟩, h15, h16⟩
theorem ok_free {i b : Int} : StOk d (applyR s ⟨4, i, b⟩) := by
  obtain ⟨h1, h2, h3, h4, h5, h6, h7, h8, h9, h10, h11, h12, h13, h14, h15, h16⟩ := h
  exact ⟨h1, h2, h3, h4, h5, h6, h7, h8, h9, h10, by simpa [applyR] using h11, h12, h13, set_all h14 ⟨⟨Int.le_refl _, by decide⟩, fun _ => rfl⟩, h15, h16⟩
theorem ok_give {i b : Int} : StOk d (applyR s ⟨5, i, b⟩) := by
  obtain ⟨h1, h2, h3, h4, h5, h6, h7, h8, h9, h10, h11, h12, h13, h14, h15, h16⟩ := h
  exact ⟨h1, h2, h3, h4, h5, h6, h7, h8, h9, h10, h11, by simpa [applyR] using h12, h13, h14, h15, h16⟩
theorem ok_lock {x b : Int} (hx : 0 ≤ x ∧ x ≤ 7) : StOk d (applyR s ⟨6, x, b⟩) := by
  obtain ⟨h1, h2, h3, h4, h5, h6, h7, h8, h9, h10, h11, h12, h13, h14, h15, h16⟩ := h
  exact ⟨h1, h2, h3, h4, h5, h6, h7, h8, h9, h10, h11, h12, h13, h14, fun y hy => by
    rcases withN_mem.1 hy with rfl | hy
    · exact hx
    · exact h15 y hy, withN_rise h16⟩
theorem ok_unlock {x b : Int} : StOk d (applyR s ⟨7, x, b⟩) := by
  obtain ⟨h1, h2, h3, h4, h5, h6, h7, h8, h9, h10, h11, h12, h13, h14, h15, h16⟩ := h
  exact ⟨h1, h2, h3, h4, h5, h6, h7, h8, h9, h10, h11, h12, h13, h14, fun y hy => h15 y (withoutN_mem hy).1, withoutN_rise h16⟩
end

/-- Chapter 7. -/
def podStep (hook grace : Int) (q : Int × Int) (clock : Int) : Int :=
  if q.1 = 0 then (if 0 < hook then 1 else 2) else if q.1 = 1 then (if hook ≤ clock - q.2 then 2 else 1) else if q.1 = 2 then (if grace ≤ clock - q.2 then 3 else 2) else if q.1 = 3 then 4 else q.1
def afterHook (x : Int) : Int := if x = 1 then 2 else -1
def afterExit (x : Int) : Int := if x = 0 ∨ x = 1 then 5 else if x = 2 ∨ x = 3 then 4 else -1
end Go.Proofs.YtfibgpikjfopgaaGreat
/- Tb -/
set_option linter.unusedVariables false
namespace Go.Proofs.YtfibgpikjfopgaaGreat
open Go.RowKit

/-- Of each index below n for which g tells something, in order, what r makes of it. -/
def recsOf {α : Type} (n : Nat) (g : Nat → Option α) (r : Nat → α → RecD) : List RecD := (List.range n).filterMap fun i => (g i).map (r i)
theorem recsOf_zero {α : Type} (g : Nat → Option α) (r : Nat → α → RecD) : recsOf 0 g r = [] := rfl
theorem recsOf_none {α : Type} {n : Nat} {g : Nat → Option α} {r : Nat → α → RecD} (h : g n = none) : recsOf (n + 1) g r = recsOf n g r := by
  simp [recsOf, List.range_succ, List.filterMap_append, h]
theorem recsOf_some {α : Type} {n : Nat} {g : Nat → Option α} {r : Nat → α → RecD} {x : α} (h : g n = some x) : recsOf (n + 1) g r = recsOf n g r ++ [r n x] := by
  simp [recsOf, List.range_succ, List.filterMap_append, h]
theorem recsOf_le {α : Type} (n : Nat) (g : Nat → Option α) (r : Nat → α → RecD) : (recsOf n g r).length ≤ n := by
  induction n with
  | zero => exact Nat.le_refl _
  | succ n ih =>
    cases h : g n
    · rw [recsOf_none h]; omega
    · rw [recsOf_some h, List.length_append]; simp; omega

/-- A list whose elements below n are changed where g tells. -/
def turn {α β : Type} (l : List β) (n : Nat) (g : Nat → Option α) (f : Nat → β → α → β) : List β := l.mapIdx fun i q => if i < n then (match g i with | some x => f i q x | none => q) else q
theorem turn_length {α β : Type} (l : List β) (n : Nat) (g : Nat → Option α) (f : Nat → β → α → β) : (turn l n g f).length = l.length := by simp [turn]
theorem turn_get {α β : Type} {l : List β} {n : Nat} {g : Nat → Option α} {f : Nat → β → α → β} {i : Nat} : (turn l n g f)[i]? = (l[i]?).map fun q => if i < n then (match g i with | some x => f i q x | none => q) else q := by
  simp [turn, List.getElem?_mapIdx]
theorem turn_zero {α β : Type} (l : List β) (g : Nat → Option α) (f : Nat → β → α → β) : turn l 0 g f = l := by
  refine List.ext_getElem? fun i => ?_
  rw [turn_get]
  simp
theorem turn_none {α β : Type} {l : List β} {n : Nat} {g : Nat → Option α} {f : Nat → β → α → β} (h : g n = none) : turn l (n + 1) g f = turn l n g f := by
  refine List.ext_getElem? fun i => ?_
  rw [turn_get, turn_get]
  congr 1
  funext q
  by_cases e : i = n
  · subst e; simp [h]
  · by_cases e2 : i < n
    · rw [if_pos (by omega), if_pos e2]
    · rw [if_neg (by omega), if_neg e2]
theorem turn_some {α β : Type} {l : List β} {n : Nat} {g : Nat → Option α} {f : Nat → β → α → β} {x : α} {q : β} (h : g n = some x) (hq : l[n]? = some q) : turn l (n + 1) g f = (turn l n g f).set n (f n q x) := by
  refine List.ext_getElem? fun i => ?_
  rw [turn_get, List.getElem?_set, turn_length]
  by_cases e : n = i
  · subst e
    rw [if_pos rfl, hq, if_pos (List.getElem?_eq_some_iff.1 hq).1]
    simp [h]
  · rw [if_neg e, turn_get]
    congr 1
    funext q
    by_cases e2 : i < n
    · rw [if_pos (by omega), if_pos e2]
    · rw [if_neg (by omega), if_neg e2]
theorem turn_at {α β : Type} {l : List β} {n : Nat} {g : Nat → Option α} {f : Nat → β → α → β} : (turn l n g f)[n]? = l[n]? := by
  rw [turn_get]
  simp

theorem runR_one {d : PlanD} {s : StD} {r : RecD} (h : goodR d s r = true) : runR d s [r] = some (applyR s r) := by simp [runR, h]
theorem goodR_of {d : PlanD} {s : StD} {r : RecD} (h1 : recOkB r = true) (h2 : thereB s r = true) (h3 : StOk d (applyR s r)) : goodR d s r = true := by
  simp [goodR, h1, h2, stOkB_iff.2 h3]

/-- Pods' records, one after the other. -/
theorem run_pods {d : PlanD} {s : StD} (h : StOk d s) {g : Nat → Option Int} (hg : ∀ i x, i < d.n0 → g i = some x → 0 ≤ x ∧ x ≤ 6) : ∀ n, n ≤ d.n0 →
    runR d s (recsOf n g (fun i x => ⟨2, i, x⟩)) = some { s with pods := turn s.pods n g (fun _ _ x => (x, s.ck)) }
  | 0, _ => by rw [recsOf_zero, turn_zero]; rfl
  | n + 1, hn => by
    have ih := run_pods h hg n (by omega)
    have h12 := (planOk_lock h.plan).2.2.1
    cases hx : g n with
    | none => rw [recsOf_none hx, turn_none hx]; exact ih
    | some x =>
      have hb := hg n x (by omega) hx
      have hok := runR_ok h ih
      have hl : n < s.pods.length := by rw [h.np]; omega
      obtain ⟨q, hq⟩ : ∃ q, s.pods[n]? = some q := ⟨_, List.getElem?_eq_getElem hl⟩
      rw [recsOf_some hx, runR_append, ih, Option.bind_some]
      refine (runR_one (goodR_of ?_ ?_ (ok_pod hok hb))).trans ?_
      · rw [recOkB_true]; simp only []; omega
      · simp [thereB, turn_length, hl]
      · simp only [applyR]
        simp [turn_some (f := fun _ _ x => (x, s.ck)) hx hq]

/-- Mounts' records: busy ones less busy, others free. -/
def mntRec (i : Nat) (q : Bool × Int) : RecD := if q.1 then ⟨3, i, q.2⟩ else ⟨4, i, 0⟩
theorem run_mnts {d : PlanD} {s : StD} (h : StOk d s) {g : Nat → Option (Bool × Int)} (hg : ∀ i q, i < d.n2 → g i = some q → (0 ≤ q.2 ∧ q.2 ≤ 5) ∧ (q.1 = true → (s.mnts.getD i (false, 0)).1 = true) ∧ (q.1 = false → q.2 = 0)) : ∀ n, n ≤ d.n2 →
    runR d s (recsOf n g mntRec) = some { s with mnts := turn s.mnts n g (fun _ _ x => x) }
  | 0, _ => by rw [recsOf_zero, turn_zero]; rfl
  | n + 1, hn => by
    have ih := run_mnts h hg n (by omega)
    have h12 := (planOk_lock h.plan).2.2.2.2.1
    cases hx : g n with
    | none => rw [recsOf_none hx, turn_none hx]; exact ih
    | some x =>
      have hb := hg n x (by omega) hx
      have hok := runR_ok h ih
      have hl : n < s.mnts.length := by rw [h.nm]; omega
      obtain ⟨q, hq⟩ : ∃ q, s.mnts[n]? = some q := ⟨_, List.getElem?_eq_getElem hl⟩
      have hq3 : s.mnts.getD n (false, 0) = q := by rw [List.getD, hq]; rfl
      rw [recsOf_some hx, runR_append, ih, Option.bind_some]
      obtain ⟨held, busy⟩ := x
      cases held
      · have hz : busy = 0 := hb.2.2 rfl
        subst hz
        refine (runR_one (r := mntRec n (false, 0)) (goodR_of ?_ ?_ (ok_free hok))).trans ?_
        · rw [recOkB_true]; simp only [mntRec, Bool.false_eq_true, if_false]; omega
        · simp [thereB, mntRec, turn_length, hl]
        · simp [applyR, mntRec, turn_some (f := fun _ _ x => x) hx hq]
      · have hh : q.1 = true := by rw [← hq3]; exact hb.2.1 rfl
        refine (runR_one (r := mntRec n (true, busy)) (goodR_of ?_ ?_ (ok_busy hok hb.1 (by simpa [turn_at, hq] using hh)))).trans ?_
        · rw [recOkB_true]; simp only [mntRec, if_true]; omega
        · simp [thereB, mntRec, turn_length, hl]
        · simp only [applyR, mntRec]
          simp [turn_some (f := fun _ _ x => x) hx hq, hh, turn_at, hq]

theorem run_devs {d : PlanD} {s : StD} (h : StOk d s) {g : Nat → Option Unit} : ∀ n, n ≤ d.n3 →
    runR d s (recsOf n g (fun i _ => ⟨5, i, 0⟩)) = some { s with devs := turn s.devs n g (fun _ _ _ => false) }
  | 0, _ => by rw [recsOf_zero, turn_zero]; rfl
  | n + 1, hn => by
    have ih := run_devs h (g := g) n (by omega)
    have h12 := (planOk_lock h.plan).2.2.2.2.2
    cases hx : g n with
    | none => rw [recsOf_none hx, turn_none hx]; exact ih
    | some x =>
      have hok := runR_ok h ih
      have hl : n < s.devs.length := by rw [h.nd]; omega
      obtain ⟨q, hq⟩ : ∃ q, s.devs[n]? = some q := ⟨_, List.getElem?_eq_getElem hl⟩
      rw [recsOf_some hx, runR_append, ih, Option.bind_some]
      refine (runR_one (goodR_of ?_ ?_ (ok_give hok))).trans ?_
      · rw [recOkB_true]; simp only []; omega
      · simp [thereB, turn_length, hl]
      · simp only [applyR]
        simp [turn_some (f := fun _ _ _ => false) hx hq]
end Go.Proofs.YtfibgpikjfopgaaGreat
/- Tc -/
set_option linter.unusedVariables false
namespace Go.Proofs.YtfibgpikjfopgaaGreat
open Go.RowKit

def podAt (s : StD) (i : Nat) : Int × Int := s.pods.getD i (0, 0)
def mntAt (s : StD) (i : Nat) : Bool × Int := s.mnts.getD i (false, 0)
def devAt (s : StD) (i : Nat) : Bool := s.devs.getD i false
def bandOf (d : PlanD) (i : Nat) : Int := d.x0 (i * 4 + 1)
def graceOf (d : PlanD) (i : Nat) : Int := d.x0 (i * 4 + 2)
def hookOf (d : PlanD) (i : Nat) : Int := d.x0 (i * 4 + 3)
def mpod (d : PlanD) (i : Nat) : Nat := (d.x2 (i * 2)).toNat
def mpar (d : PlanD) (i : Nat) : Int := d.x2 (i * 2 + 1)
def dmnt (d : PlanD) (i : Nat) : Nat := (d.x3 i).toNat

def stepG (d : PlanD) (s : StD) (b c : Int) (i : Nat) : Option Int :=
  if bandOf d i = b ∧ aliveB (podAt s i).1 = true then (if podStep (hookOf d i) (graceOf d i) (podAt s i) c = (podAt s i).1 then none else some (podStep (hookOf d i) (graceOf d i) (podAt s i) c)) else none
def liveB (d : PlanD) (s : StD) (b : Int) : Bool := (List.range d.n0).any fun i => decide (bandOf d i = b) && aliveB (podAt s i).1
def nextB (d : PlanD) (b : Int) : Int := if nextL d b < 0 then 6 else nextL d b
def shutL (d : PlanD) (s : StD) (c : Int) : List RecD :=
  if s.lks ≠ [] ∧ c < s.lb then [] else if s.ba = 6 then [⟨1, 4, 0⟩] else if liveB d s s.ba then recsOf d.n0 (stepG d s s.ba c) (fun i x => ⟨2, i, x⟩) else [⟨9, nextB d s.ba, 0⟩]
def freeB (d : PlanD) (s : StD) (i : Nat) : Bool := (mntAt s i).1 && !aliveB (podAt s (mpod d i)).1 && (List.range d.n2).all fun j => !(decide (mpar d j = i) && (mntAt s j).1)
def giveB (d : PlanD) (s : StD) (i : Nat) : Bool := devAt s i && !(mntAt s (dmnt d i)).1
def freeG (d : PlanD) (s : StD) (i : Nat) : Option (Bool × Int) := if freeB d s i then some (if 0 < (mntAt s i).2 then (true, (mntAt s i).2 - 1) else (false, 0)) else none
def giveG (d : PlanD) (s : StD) (i : Nat) : Option Unit := if giveB d s i then some () else none
def heldB (s : StD) : Bool := s.mnts.any (fun q => q.1) || s.devs.any (fun x => x)
def releaseL (d : PlanD) (s : StD) : List RecD := if heldB s then recsOf d.n2 (freeG d s) mntRec ++ recsOf d.n3 (giveG d s) (fun i _ => ⟨5, i, 0⟩) else [⟨1, 5, 0⟩]
def tickL (d : PlanD) (s : StD) : List RecD := ⟨8, s.ck + 1, 0⟩ :: (if s.ph = 3 then shutL d s (s.ck + 1) else if s.ph = 4 then releaseL d s else [])

/-- What a tick makes of a state. -/
def tickS (d : PlanD) (s : StD) : StD :=
  if s.ph = 3 then
    (if s.lks ≠ [] ∧ s.ck + 1 < s.lb then { s with ck := s.ck + 1 } else if s.ba = 6 then { s with ck := s.ck + 1, ph := 4, co := true }
     else if liveB d s s.ba then { s with ck := s.ck + 1, pods := turn s.pods d.n0 (stepG d s s.ba (s.ck + 1)) (fun _ _ x => (x, s.ck + 1)) } else { s with ck := s.ck + 1, ba := nextB d s.ba })
  else if s.ph = 4 then
    (if heldB s then { s with ck := s.ck + 1, mnts := turn s.mnts d.n2 (freeG d s) (fun _ _ x => x), devs := turn s.devs d.n3 (giveG d s) (fun _ _ _ => false) } else { s with ck := s.ck + 1, ph := 5, co := true })
  else { s with ck := s.ck + 1 }

theorem podAt_ok {d : PlanD} {s : StD} (h : StOk d s) {i : Nat} (hi : i < d.n0) : (0 ≤ (podAt s i).1 ∧ (podAt s i).1 ≤ 6) ∧ (0 ≤ (podAt s i).2 ∧ (podAt s i).2 ≤ 1000000) := by
  have hl : i < s.pods.length := by rw [h.np]; exact hi
  have e : podAt s i = s.pods[i] := by simp [podAt, List.getD, hl]
  rw [e]
  exact h.pods _ (List.getElem_mem hl)
theorem mntAt_ok {d : PlanD} {s : StD} (h : StOk d s) {i : Nat} (hi : i < d.n2) : (0 ≤ (mntAt s i).2 ∧ (mntAt s i).2 ≤ 5) ∧ ((mntAt s i).1 = false → (mntAt s i).2 = 0) := by
  have hl : i < s.mnts.length := by rw [h.nm]; exact hi
  have e : mntAt s i = s.mnts[i] := by simp [mntAt, List.getD, hl]
  rw [e]
  exact h.mnts _ (List.getElem_mem hl)
theorem nextL_cases (d : PlanD) (b : Int) : nextL d b = -1 ∧ (∀ x ∈ bandsL d, x ≤ b) ∨ (nextL d b ∈ bandsL d ∧ b < nextL d b ∧ ∀ x ∈ bandsL d, b < x → nextL d b ≤ x) := by
  unfold nextL firstOver
  cases hf : (bandsL d).find? (fun x => decide (b < x)) with
  | none =>
    refine .inl ⟨rfl, fun x hx => ?_⟩
    have := List.find?_eq_none.1 hf x hx
    simp at this
    omega
  | some y =>
    refine .inr ⟨List.mem_of_find?_eq_some hf, by simpa using List.find?_some hf, fun x hx hb => ?_⟩
    obtain ⟨_, k, hk, e, hall⟩ := List.find?_eq_some_iff_getElem.1 hf
    obtain ⟨j, hj, rfl⟩ := List.getElem_of_mem hx
    show y ≤ _
    rw [← e]
    by_cases hjk : j < k
    · have := hall j hjk
      simp at this
      omega
    · have hp := List.pairwise_iff_getElem.1 (bandsL_rise d)
      by_cases e2 : k = j
      · subst e2; exact Int.le_refl _
      · exact Int.le_of_lt (hp k j hk hj (by omega))
theorem bandsL_mem {d : PlanD} {x : Int} (h : x ∈ bandsL d) : 0 ≤ x ∧ x ≤ 5 := by
  obtain ⟨i, hi, rfl, _⟩ := picks_mem h
  omega
theorem nextB_in (d : PlanD) (b : Int) : 0 ≤ nextB d b ∧ nextB d b ≤ 6 := by
  unfold nextB
  rcases nextL_cases d b with ⟨h, _⟩ | ⟨h, _⟩
  · rw [h]; decide
  · have := bandsL_mem h
    split <;> omega

theorem alive_step {hook grace : Int} {q : Int × Int} {c : Int} (h : aliveB q.1 = true) : 0 ≤ podStep hook grace q c ∧ podStep hook grace q c ≤ 6 := by
  simp only [aliveB, inB_true] at h
  unfold podStep
  repeat' split
  all_goals omega
theorem stepG_in {d : PlanD} {s : StD} {b c : Int} {i : Nat} {x : Int} (h : stepG d s b c i = some x) : 0 ≤ x ∧ x ≤ 6 := by
  unfold stepG at h
  split at h
  · rename_i ha
    split at h
    · cases h
    · cases h
      exact alive_step ha.2
  · cases h

theorem freeG_in {d : PlanD} {s : StD} (h : StOk d s) {i : Nat} {q : Bool × Int} (hi : i < d.n2) (hq : freeG d s i = some q) : (0 ≤ q.2 ∧ q.2 ≤ 5) ∧ (q.1 = true → (mntAt s i).1 = true) ∧ (q.1 = false → q.2 = 0) := by
  have hm := mntAt_ok h hi
  unfold freeG at hq
  split at hq
  · rename_i hf
    simp only [freeB, Bool.and_eq_true] at hf
    cases hq
    split
    · exact ⟨by constructor <;> (simp only []; omega), fun _ => hf.1.1, fun hx => (by cases hx)⟩
    · exact ⟨by decide, fun hx => (by cases hx), fun _ => rfl⟩
  · cases hq

theorem tick_run {d : PlanD} {s : StD} (h : StOk d s) (hc : s.ck < 1000000) : runR d s (tickL d s) = some (tickS d s) := by
  have hck := h.ck
  have hok1 : StOk d (applyR s ⟨8, s.ck + 1, 0⟩) := ok_clock h (by omega)
  have hg1 : goodR d s ⟨8, s.ck + 1, 0⟩ = true := goodR_of (by rw [recOkB_true]; simp only []; omega) rfl hok1
  have e1 : applyR s ⟨8, s.ck + 1, 0⟩ = { s with ck := s.ck + 1 } := rfl
  unfold tickL tickS
  rw [runR, if_pos hg1, e1]
  rw [e1] at hok1
  by_cases h3 : s.ph = 3
  · rw [if_pos h3, if_pos h3]
    unfold shutL
    split
    · rfl
    · split
      · exact runR_one (goodR_of (by decide) rfl (ok_phase hok1 (by decide)))
      · split
        · have := run_pods hok1 (g := stepG d s s.ba (s.ck + 1)) (fun i x _ hx => stepG_in hx) d.n0 (Nat.le_refl _)
          exact this
        · have hb := nextB_in d s.ba
          refine runR_one (goodR_of (by rw [recOkB_true]; simp only []; omega) rfl (ok_band hok1 hb))
  · rw [if_neg h3, if_neg h3]
    by_cases h4 : s.ph = 4
    · rw [if_pos h4, if_pos h4]
      unfold releaseL
      split
      · have hr := run_mnts hok1 (g := freeG d s) (fun i q hi hq => freeG_in h hi hq) d.n2 (Nat.le_refl _)
        rw [runR_append, hr, Option.bind_some]
        exact run_devs (runR_ok hok1 hr) (g := giveG d s) d.n3 (Nat.le_refl _)
      · exact runR_one (goodR_of (by decide) rfl (ok_phase hok1 (by decide)))
    · rw [if_neg h4, if_neg h4]
      rfl
theorem tick_ok {d : PlanD} {s : StD} (h : StOk d s) (hc : s.ck < 1000000) : StOk d (tickS d s) := runR_ok h (tick_run h hc)

/-- How many ticks of its own a pod needs at most. -/
def potP (hook grace : Int) (q : Int × Int) (ck : Int) : Int :=
  if q.1 = 0 then 2 + hook + max 1 grace else if q.1 = 1 then max 1 (q.2 + hook - ck) + max 1 grace + 1 else if q.1 = 2 then max 1 (q.2 + grace - ck) + 1 else if q.1 = 3 then 1 else 0
theorem potP_pos {hook grace : Int} {q : Int × Int} {ck : Int} (h : aliveB q.1 = true) (h0 : 0 ≤ hook) : 1 ≤ potP hook grace q ck := by
  simp only [aliveB, inB_true] at h
  unfold potP
  repeat' split
  all_goals omega
/-- A tick is one less of it. -/
theorem potP_tick {hook grace : Int} {q : Int × Int} {ck : Int} (h : aliveB q.1 = true) (h0 : 0 ≤ hook) (h1 : 0 ≤ grace) (hs : q.2 ≤ ck) :
    potP hook grace (if podStep hook grace q (ck + 1) = q.1 then q else (podStep hook grace q (ck + 1), ck + 1)) (ck + 1) ≤ potP hook grace q ck - 1 := by
  simp only [aliveB, inB_true] at h
  obtain ⟨st, t⟩ := q
  simp only [] at h hs ⊢
  have hst : st = 0 ∨ st = 1 ∨ st = 2 ∨ st = 3 := by omega
  rcases hst with rfl | rfl | rfl | rfl
  · by_cases hh : 0 < hook
    · simp [podStep, potP, hh]; omega
    · simp [podStep, potP, hh]; omega
  · by_cases hh : hook ≤ ck + 1 - t
    · simp [podStep, potP, hh]; omega
    · simp [podStep, potP, hh]; omega
  · by_cases hh : grace ≤ ck + 1 - t
    · simp [podStep, potP, hh]; omega
    · simp [podStep, potP, hh]; omega
  · simp [podStep, potP]
/-- Dead or alive, what is dead stays so. -/
theorem dead_step {hook grace : Int} {q : Int × Int} {c : Int} (h : aliveB q.1 = false) : podStep hook grace q c = q.1 := by
  simp only [aliveB, inB, Bool.and_eq_false_iff, decide_eq_false_iff_not] at h
  unfold podStep
  rw [if_neg (by omega), if_neg (by omega), if_neg (by omega), if_neg (by omega)]

theorem turn_getD {α β : Type} {l : List β} {n : Nat} {g : Nat → Option α} {f : Nat → β → α → β} {i : Nat} {z : β} (hi : i < l.length) (hn : i < n) :
    (turn l n g f).getD i z = (match g i with | some x => f i (l.getD i z) x | none => l.getD i z) := by
  have e : l[i]? = some l[i] := List.getElem?_eq_getElem hi
  simp only [List.getD, turn_get, e, Option.map_some, Option.getD_some, if_pos hn]
  all_goals (cases g i <;> rfl)

theorem sumB_le {f g : Nat → Int} : ∀ {n : Nat}, (∀ i, i < n → f i ≤ g i) → sumB n f ≤ sumB n g
  | 0, _ => Int.le_refl _
  | n + 1, h => by
    have := sumB_le (n := n) fun i hi => h i (by omega)
    have := h n (by omega)
    simp only [sumB]
    omega
theorem sumB_lt {f g : Nat → Int} {k : Nat} : ∀ {n : Nat}, k < n → (∀ i, i < n → f i ≤ g i) → f k < g k → sumB n f < sumB n g
  | 0, hk, _, _ => by omega
  | n + 1, hk, h, hl => by
    by_cases e : k = n
    · subst e
      have := sumB_le (n := k) fun i hi => h i (by omega)
      simp only [sumB]
      omega
    · have := sumB_lt (n := n) (by omega) (fun i hi => h i (by omega)) hl
      have := h n (by omega)
      simp only [sumB]
      omega
theorem sumB_nonneg {f : Nat → Int} : ∀ {n : Nat}, (∀ i, i < n → 0 ≤ f i) → 0 ≤ sumB n f
  | 0, _ => Int.le_refl _
  | n + 1, h => by
    have := sumB_nonneg (n := n) fun i hi => h i (by omega)
    have := h n (by omega)
    simp only [sumB]
    omega
theorem sumB_max {f : Nat → Int} {m : Int} : ∀ {n : Nat}, (∀ i, i < n → f i ≤ m) → sumB n f ≤ m * n
  | 0, _ => by simp [sumB]
  | n + 1, h => by
    have := sumB_max (n := n) (m := m) fun i hi => h i (by omega)
    have := h n (by omega)
    have e : m * ((n + 1 : Nat) : Int) = m * n + m := by rw [Int.natCast_succ, Int.mul_add, Int.mul_one]
    simp only [sumB]
    omega
theorem sumB_over {f : Nat → Int} {b : Int} {nb : Nat} (hb : b < nb) (h0 : ∀ k : Nat, b < k → k < nb → f k = 0) : ∀ n : Nat,
    sumB n (fun k => if b < k then f k else 0) = sumB n (fun k => if (nb : Int) < k then f k else 0) + (if nb < n then f nb else 0)
  | 0 => by simp [sumB]
  | n + 1 => by
    have ih := sumB_over hb h0 n
    simp only [sumB]
    rw [ih]
    have hz : f n = 0 ∨ ¬ (b < n ∧ n < nb) := by
      by_cases e : b < n ∧ n < nb
      · exact .inl (h0 n e.1 e.2)
      · exact .inr e
    by_cases e : n = nb
    · subst e
      repeat' split
      all_goals omega
    · repeat' split
      all_goals omega
end Go.Proofs.YtfibgpikjfopgaaGreat
/- Td -/
set_option linter.unusedVariables false
namespace Go.Proofs.YtfibgpikjfopgaaGreat
open Go.RowKit

structure HoldsP (d : PlanD) (s : StD) : Prop where
  pod : ∀ i, i < d.n2 → (mntAt s i).1 = false → aliveB (podAt s (mpod d i)).1 = false
  par : ∀ i, i < d.n2 → 0 ≤ mpar d i → (mntAt s i).1 = true → (mntAt s (mpar d i).toNat).1 = true
  dev : ∀ i, i < d.n3 → devAt s i = false → (mntAt s (dmnt d i)).1 = false
structure Going (d : PlanD) (s : StD) : Prop where
  ok : StOk d s
  ph : 3 ≤ s.ph ∧ s.ph ≤ 5
  since : ∀ i, i < d.n0 → (podAt s i).2 ≤ s.ck
  later : s.ph = 3 → ∀ i, i < d.n0 → s.ba < bandOf d i → aliveB (podAt s i).1 = true → (podAt s i).1 = 0
  earlier : s.ph = 3 → ∀ i, i < d.n0 → bandOf d i < s.ba → aliveB (podAt s i).1 = false
  dead : 4 ≤ s.ph → ∀ i, i < d.n0 → aliveB (podAt s i).1 = false
  holds : HoldsP d s
  down : s.ph = 5 → heldB s = false
def over (d : PlanD) (b : Int) : Int := sumB 6 (fun k => if b < k then bandT d k else 0)
def mw (q : Bool × Int) : Int := if q.1 then q.2 + 1 else 0
def relW (d : PlanD) (s : StD) : Int := sumB d.n2 (fun i => mw (mntAt s i)) + sumB d.n3 (fun i => if devAt s i then 1 else 0)
structure Left (d : PlanD) (s : StD) (n : Int) : Prop where
  shut : s.ph = 3 → ∃ lw pw : Int, 0 ≤ lw ∧ 0 ≤ pw ∧ (s.lks = [] ∨ s.lb - 1 - s.ck ≤ lw) ∧ (∀ i, i < d.n0 → bandOf d i = s.ba → aliveB (podAt s i).1 = true → potP (hookOf d i) (graceOf d i) (podAt s i) s.ck ≤ pw) ∧
    lw + pw + (if s.ba = 6 then 0 else 1 + over d s.ba) + 6 * d.n2 + d.n3 + 2 ≤ n
  rel : s.ph = 4 → relW d s + 1 ≤ n
  done : s.ph = 5 → 0 ≤ n

theorem pod_facts {d : PlanD} (h : planOkB d = true) {i : Nat} (hi : i < d.n0) : (0 ≤ bandOf d i ∧ bandOf d i ≤ 5) ∧ (0 ≤ hookOf d i ∧ hookOf d i ≤ 500) ∧ (0 ≤ graceOf d i ∧ graceOf d i ≤ 500) := by
  have := planOk_pods h i hi
  simp only [podB, Bool.and_eq_true, inB_true] at this
  exact ⟨this.1.1.2, this.2, this.1.2⟩
theorem mount_facts {d : PlanD} (h : planOkB d = true) {i : Nat} (hi : i < d.n2) : mpod d i < d.n0 ∧ -1 ≤ mpar d i ∧ mpar d i < i := by
  simp only [planOkB, Bool.and_eq_true] at h
  have := allB_true.1 h.1.2 i hi
  simp only [mountB, Bool.and_eq_true, inB_true] at this
  unfold mpod mpar
  omega
theorem device_facts {d : PlanD} (h : planOkB d = true) {i : Nat} (hi : i < d.n3) : dmnt d i < d.n2 := by
  simp only [planOkB, Bool.and_eq_true] at h
  have := allB_true.1 h.2 i hi
  simp only [deviceB, inB_true] at this
  unfold dmnt
  omega
theorem hits_in {n : Nat} {f : Nat → Int} {i : Nat} (hi : i < n) : (i : Int) ∈ hits n f (f i) := by
  simp only [hits, List.mem_map, List.mem_filter, List.mem_range]
  exact ⟨i, ⟨hi, by simp⟩, rfl⟩
theorem band_mem {d : PlanD} (h : planOkB d = true) {i : Nat} (hi : i < d.n0) : bandOf d i ∈ bandsL d := by
  have hb := (pod_facts h hi).1
  simp only [bandsL, picks, List.mem_map, List.mem_filter, List.mem_range]
  refine ⟨(bandOf d i).toNat, ⟨by omega, ?_⟩, by omega⟩
  simp only [hasB, decide_eq_true_eq]
  refine List.length_pos_of_mem (a := (i : Int)) ?_
  have e : ((bandOf d i).toNat : Int) = bandOf d i := by omega
  rw [e]
  unfold podsL
  rw [found_yes h]
  exact hits_in (f := fun i => d.x0 (i * 4 + 1)) hi
theorem foldl_ge (d : PlanD) : ∀ (l : List Int) (a : Int), a ≤ l.foldl (fun n i => max n (timeOf d i.toNat)) a
  | [], a => Int.le_refl _
  | x :: l, a => Int.le_trans (show a ≤ max a (timeOf d x.toNat) by omega) (foldl_ge d l _)
theorem foldl_mem (d : PlanD) {y : Int} : ∀ (l : List Int) (a : Int), y ∈ l → timeOf d y.toNat ≤ l.foldl (fun n i => max n (timeOf d i.toNat)) a
  | [], a, h => by cases h
  | x :: l, a, h => by
    rcases List.mem_cons.1 h with rfl | h
    · exact Int.le_trans (show timeOf d y.toNat ≤ max a (timeOf d y.toNat) by omega) (foldl_ge d l _)
    · exact foldl_mem d l _ h
/-- A pod's whole time is in its band's. -/
theorem time_in {d : PlanD} (h : planOkB d = true) {i : Nat} (hi : i < d.n0) : hookOf d i + graceOf d i + 4 ≤ bandT d (bandOf d i) := by
  rw [bandT, if_pos h]
  unfold most podsL
  rw [found_yes h]
  have := foldl_mem d (y := (i : Int)) _ 0 (hits_in (f := fun i => d.x0 (i * 4 + 1)) hi)
  simpa [timeOf, hookOf, graceOf, bandOf] using this
theorem over_nonneg {d : PlanD} (h : planOkB d = true) (b : Int) : 0 ≤ over d b :=
  sumB_nonneg fun k _ => by
    have := bandT_bound h k
    show 0 ≤ (if b < (k : Int) then bandT d k else 0)
    split <;> omega
/-- The times of the bands behind b: the next one's, and of those behind that. -/
theorem over_next {d : PlanD} (h : planOkB d = true) {b : Int} (hn : nextL d b ∈ bandsL d) (hb : b < nextL d b) (hl : ∀ x ∈ bandsL d, b < x → nextL d b ≤ x) : over d b = bandT d (nextL d b) + over d (nextL d b) := by
  have hr := bandsL_mem hn
  generalize nextL d b = y at *
  obtain ⟨m, rfl⟩ : ∃ m : Nat, y = m := ⟨y.toNat, by omega⟩
  unfold over
  rw [sumB_over (f := fun k : Nat => bandT d k) hb (fun k h1 h2 => ?_) 6, if_pos (by omega)]
  · omega
  · refine bandT_none h fun hp => ?_
    have hm : (k : Int) ∈ bandsL d := by
      simp only [bandsL, picks, List.mem_map, List.mem_filter, List.mem_range]
      exact ⟨k, ⟨by omega, by simpa [hasB] using hp⟩, rfl⟩
    have := hl _ hm h1
    omega
theorem mw_in {d : PlanD} {s : StD} (h : StOk d s) {i : Nat} (hi : i < d.n2) : 0 ≤ mw (mntAt s i) ∧ mw (mntAt s i) ≤ 6 := by
  have := (mntAt_ok h hi).1
  unfold mw
  split <;> omega
theorem relW_in {d : PlanD} {s : StD} (h : StOk d s) : 0 ≤ relW d s ∧ relW d s ≤ 6 * d.n2 + d.n3 := by
  have h1 := sumB_nonneg (n := d.n2) (f := fun i => mw (mntAt s i)) fun i hi => (mw_in h hi).1
  have h2 := sumB_max (n := d.n2) (m := 6) (f := fun i => mw (mntAt s i)) fun i hi => (mw_in h hi).2
  have h3 := sumB_nonneg (n := d.n3) (f := fun i => if devAt s i then 1 else 0) fun i hi => by show (0 : Int) ≤ (if devAt s i then 1 else 0); split <;> omega
  have h4 := sumB_max (n := d.n3) (m := 1) (f := fun i => if devAt s i then 1 else 0) fun i hi => by show (if devAt s i then 1 else 0 : Int) ≤ 1; split <;> omega
  unfold relW
  omega

theorem liveB_iff {d : PlanD} {s : StD} {b : Int} : liveB d s b = true ↔ ∃ i, i < d.n0 ∧ bandOf d i = b ∧ aliveB (podAt s i).1 = true := by
  simp [liveB]
theorem liveB_no {d : PlanD} {s : StD} {b : Int} (h : liveB d s b = false) {i : Nat} (hi : i < d.n0) (hb : bandOf d i = b) : aliveB (podAt s i).1 = false := by
  cases ha : aliveB (podAt s i).1
  · rfl
  · have := liveB_iff.2 ⟨i, hi, hb, ha⟩
    rw [h] at this
    cases this
/-- A pod behind a step of its band. -/
theorem podAt_turn {d : PlanD} {s : StD} (h : StOk d s) {b c : Int} {i : Nat} (hi : i < d.n0) :
    (turn s.pods d.n0 (stepG d s b c) (fun _ _ x => (x, c))).getD i (0, 0) = if bandOf d i = b ∧ aliveB (podAt s i).1 = true then (if podStep (hookOf d i) (graceOf d i) (podAt s i) c = (podAt s i).1 then podAt s i else (podStep (hookOf d i) (graceOf d i) (podAt s i) c, c)) else podAt s i := by
  have hl : i < s.pods.length := by rw [h.np]; exact hi
  rw [turn_getD hl hi]
  unfold stepG
  by_cases h1 : bandOf d i = b ∧ aliveB (podAt s i).1 = true
  · rw [if_pos h1, if_pos h1]
    by_cases h2 : podStep (hookOf d i) (graceOf d i) (podAt s i) c = (podAt s i).1
    · rw [if_pos h2, if_pos h2]; rfl
    · rw [if_neg h2, if_neg h2]
  · rw [if_neg h1, if_neg h1]; rfl
theorem potP_mono {hook grace : Int} {q : Int × Int} {ck : Int} : potP hook grace q (ck + 1) ≤ potP hook grace q ck := by
  unfold potP
  repeat' split
  all_goals omega

theorem mntAt_turn {d : PlanD} {s : StD} (h : StOk d s) {i : Nat} (hi : i < d.n2) :
    (turn s.mnts d.n2 (freeG d s) (fun _ _ x => x)).getD i (false, 0) = if freeB d s i then (if 0 < (mntAt s i).2 then (true, (mntAt s i).2 - 1) else (false, 0)) else mntAt s i := by
  have hl : i < s.mnts.length := by rw [h.nm]; exact hi
  rw [turn_getD hl hi]
  unfold freeG
  by_cases h1 : freeB d s i
  · rw [if_pos h1, if_pos h1]
  · rw [if_neg h1, if_neg h1]; rfl
theorem devAt_turn {d : PlanD} {s : StD} (h : StOk d s) {i : Nat} (hi : i < d.n3) :
    (turn s.devs d.n3 (giveG d s) (fun _ _ _ => false)).getD i false = if giveB d s i then false else devAt s i := by
  have hl : i < s.devs.length := by rw [h.nd]; exact hi
  rw [turn_getD hl hi]
  unfold giveG
  by_cases h1 : giveB d s i
  · rw [if_pos h1, if_pos h1]
  · rw [if_neg h1, if_neg h1]; rfl
theorem greatest {n : Nat} {p : Nat → Bool} (h : ∃ i, i < n ∧ p i = true) : ∃ i, i < n ∧ p i = true ∧ ∀ j, j < n → i < j → p j = false := by
  induction n with
  | zero => obtain ⟨i, hi, _⟩ := h; omega
  | succ n ih =>
    cases hp : p n
    · obtain ⟨i, hi, hpi⟩ := h
      have hne : i ≠ n := fun e => by rw [e, hp] at hpi; cases hpi
      obtain ⟨k, hk, hpk, hall⟩ := ih ⟨i, by omega, hpi⟩
      refine ⟨k, by omega, hpk, fun j hj hkj => ?_⟩
      by_cases e : j = n
      · rw [e]; exact hp
      · exact hall j (by omega) hkj
    · exact ⟨n, by omega, hp, fun j hj hlt => by omega⟩
theorem heldB_iff {d : PlanD} {s : StD} (h : StOk d s) : heldB s = true ↔ (∃ i, i < d.n2 ∧ (mntAt s i).1 = true) ∨ ∃ i, i < d.n3 ∧ devAt s i = true := by
  unfold heldB
  rw [Bool.or_eq_true, List.any_eq_true, List.any_eq_true]
  have hm := h.nm
  have hd := h.nd
  constructor
  · rintro (⟨q, hq, h1⟩ | ⟨q, hq, h1⟩)
    · obtain ⟨i, hi, rfl⟩ := List.getElem_of_mem hq
      exact .inl ⟨i, by omega, by simpa [mntAt, List.getD, hi] using h1⟩
    · obtain ⟨i, hi, rfl⟩ := List.getElem_of_mem hq
      exact .inr ⟨i, by omega, by simpa [devAt, List.getD, hi] using h1⟩
  · rintro (⟨i, hi, h1⟩ | ⟨i, hi, h1⟩)
    · have hl : i < s.mnts.length := by omega
      exact .inl ⟨s.mnts[i], List.getElem_mem hl, by simpa [mntAt, List.getD, hl] using h1⟩
    · have hl : i < s.devs.length := by omega
      exact .inr ⟨s.devs[i], List.getElem_mem hl, by simpa [devAt, List.getD, hl] using h1⟩
/-- Where nobody is alive, something may be given back, till all is. -/
theorem some_goes {d : PlanD} {s : StD} (h : StOk d s) (hd : ∀ i, i < d.n0 → aliveB (podAt s i).1 = false) (hh : heldB s = true) : (∃ i, i < d.n2 ∧ freeB d s i = true) ∨ ∃ i, i < d.n3 ∧ giveB d s i = true := by
  by_cases hm : ∃ i, i < d.n2 ∧ (mntAt s i).1 = true
  · obtain ⟨i, hi, h1, hall⟩ := greatest (p := fun i => (mntAt s i).1) hm
    refine .inl ⟨i, hi, ?_⟩
    simp only [freeB, Bool.and_eq_true, h1, hd _ (mount_facts h.plan hi).1, List.all_eq_true, List.mem_range, Bool.not_false, true_and]
    intro j hj
    cases h2 : (mntAt s j).1
    · simp
    · have h3 : ¬ i < j := fun hlt => by
        have h4 : (mntAt s j).1 = false := hall j hj hlt
        rw [h2] at h4
        cases h4
      have := (mount_facts h.plan hj).2.2
      have hne : ¬ mpar d j = i := by omega
      simp [hne]
  · rcases (heldB_iff h).1 hh with h1 | ⟨i, hi, h1⟩
    · exact absurd h1 hm
    · refine .inr ⟨i, hi, ?_⟩
      have h2 : (mntAt s (dmnt d i)).1 = false := by
        cases h3 : (mntAt s (dmnt d i)).1
        · rfl
        · exact absurd ⟨_, device_facts h.plan hi, h3⟩ hm
      simp [giveB, h1, h2]
end Go.Proofs.YtfibgpikjfopgaaGreat
/- Te -/
set_option linter.unusedVariables false
namespace Go.Proofs.YtfibgpikjfopgaaGreat
open Go.RowKit

section
variable {d : PlanD} {s : StD}
theorem tick_lock (h3 : s.ph = 3) (h : s.lks ≠ [] ∧ s.ck + 1 < s.lb) : tickS d s = { s with ck := s.ck + 1 } := by unfold tickS; rw [if_pos h3, if_pos h]
theorem tick_last (h3 : s.ph = 3) (h : ¬ (s.lks ≠ [] ∧ s.ck + 1 < s.lb)) (hb : s.ba = 6) : tickS d s = { s with ck := s.ck + 1, ph := 4, co := true } := by unfold tickS; rw [if_pos h3, if_neg h, if_pos hb]
theorem tick_live (h3 : s.ph = 3) (h : ¬ (s.lks ≠ [] ∧ s.ck + 1 < s.lb)) (hb : ¬ s.ba = 6) (hl : liveB d s s.ba = true) :
    tickS d s = { s with ck := s.ck + 1, pods := turn s.pods d.n0 (stepG d s s.ba (s.ck + 1)) (fun _ _ x => (x, s.ck + 1)) } := by unfold tickS; rw [if_pos h3, if_neg h, if_neg hb, if_pos hl]
theorem tick_next (h3 : s.ph = 3) (h : ¬ (s.lks ≠ [] ∧ s.ck + 1 < s.lb)) (hb : ¬ s.ba = 6) (hl : liveB d s s.ba = false) : tickS d s = { s with ck := s.ck + 1, ba := nextB d s.ba } := by
  unfold tickS; rw [if_pos h3, if_neg h, if_neg hb, if_neg (by rw [hl]; decide)]
theorem tick_give (h4 : s.ph = 4) (h : heldB s = true) :
    tickS d s = { s with ck := s.ck + 1, mnts := turn s.mnts d.n2 (freeG d s) (fun _ _ x => x), devs := turn s.devs d.n3 (giveG d s) (fun _ _ _ => false) } := by unfold tickS; rw [if_neg (by omega), if_pos h4, if_pos h]
theorem tick_down (h4 : s.ph = 4) (h : heldB s = false) : tickS d s = { s with ck := s.ck + 1, ph := 5, co := true } := by unfold tickS; rw [if_neg (by omega), if_pos h4, if_neg (by rw [h]; decide)]
end

theorem step_alive {d : PlanD} {s : StD} (h : StOk d s) {b c : Int} {i : Nat} (hi : i < d.n0) (ha : aliveB ((turn s.pods d.n0 (stepG d s b c) (fun _ _ x => (x, c))).getD i (0, 0)).1 = true) : aliveB (podAt s i).1 = true := by
  rw [podAt_turn h hi] at ha
  split at ha
  · rename_i h1; exact h1.2
  · exact ha
theorem step_dead {d : PlanD} {s : StD} (h : StOk d s) {b c : Int} {i : Nat} (hi : i < d.n0) (hd : aliveB (podAt s i).1 = false) : aliveB ((turn s.pods d.n0 (stepG d s b c) (fun _ _ x => (x, c))).getD i (0, 0)).1 = false := by
  cases ha : aliveB ((turn s.pods d.n0 (stepG d s b c) (fun _ _ x => (x, c))).getD i (0, 0)).1
  · rfl
  · rw [step_alive h hi ha] at hd; cases hd

theorem holds_clock {d : PlanD} {s s' : StD} (H : HoldsP d s) (hp : s'.pods = s.pods) (hm : s'.mnts = s.mnts) (hd : s'.devs = s.devs) : HoldsP d s' := by
  obtain ⟨h1, h2, h3⟩ := H
  unfold podAt mntAt devAt at *
  refine ⟨?_, ?_, ?_⟩
  · intro i hi; have := h1 i hi; unfold podAt mntAt; rw [hp, hm]; exact this
  · intro i hi; have := h2 i hi; unfold mntAt; rw [hm]; exact this
  · intro i hi; have := h3 i hi; unfold devAt mntAt; rw [hd, hm]; exact this

theorem tick_going {d : PlanD} {s : StD} (G : Going d s) (h5 : s.ph ≠ 5) (hc : s.ck < 1000000) : Going d (tickS d s) := by
  have hok := tick_ok G.ok hc
  obtain ⟨h, hph, hs, hla, hea, hde, hho, hdo⟩ := G
  have hp := h.plan
  by_cases h3 : s.ph = 3
  · by_cases hlk : s.lks ≠ [] ∧ s.ck + 1 < s.lb
    · have e := tick_lock (d := d) h3 hlk
      rw [e] at hok ⊢
      exact ⟨hok, hph, fun i hi => Int.le_trans (hs i hi) (show s.ck ≤ s.ck + 1 by omega), hla, hea, hde, holds_clock hho rfl rfl rfl, hdo⟩
    · by_cases hb : s.ba = 6
      · have e := tick_last (d := d) h3 hlk hb
        rw [e] at hok ⊢
        refine ⟨hok, ⟨show (3 : Int) ≤ 4 by decide, show (4 : Int) ≤ 5 by decide⟩, fun i hi => Int.le_trans (hs i hi) (show s.ck ≤ s.ck + 1 by omega), fun hx => ?_, fun hx => ?_, fun _ i hi => ?_, holds_clock hho rfl rfl rfl, fun hx => ?_⟩
        · exact absurd hx (by show ¬ (4 : Int) = 3; decide)
        · exact absurd hx (by show ¬ (4 : Int) = 3; decide)
        · exact hea h3 i hi (by have := (pod_facts hp hi).1; omega)
        · exact absurd hx (by show ¬ (4 : Int) = 5; decide)
      · cases hl : liveB d s s.ba
        · have e := tick_next (d := d) h3 hlk hb hl
          rw [e] at hok ⊢
          refine ⟨hok, hph, fun i hi => Int.le_trans (hs i hi) (show s.ck ≤ s.ck + 1 by omega), fun _ i hi hlt => ?_, fun _ i hi hlt => ?_, hde, holds_clock hho rfl rfl rfl, hdo⟩
          · refine hla h3 i hi ?_
            have hlt : nextB d s.ba < bandOf d i := hlt
            unfold nextB at hlt
            have hbi := (pod_facts hp hi).1
            rcases nextL_cases d s.ba with ⟨hn, _⟩ | ⟨hn, hgt, _⟩
            · rw [hn, if_pos (by decide)] at hlt; omega
            · have := bandsL_mem hn
              rw [if_neg (by omega)] at hlt
              omega
          · have hlt : bandOf d i < nextB d s.ba := hlt
            by_cases h1 : bandOf d i < s.ba
            · exact hea h3 i hi h1
            · by_cases h2 : bandOf d i = s.ba
              · exact liveB_no hl hi h2
              · exfalso
                have hm := band_mem hp hi
                unfold nextB at hlt
                rcases nextL_cases d s.ba with ⟨hn, hall⟩ | ⟨hn, hgt, hall⟩
                · have := hall _ hm; omega
                · have h6 := bandsL_mem hn
                  rw [if_neg (by omega)] at hlt
                  have := hall _ hm (by omega)
                  omega
        · have e := tick_live (d := d) h3 hlk hb hl
          rw [e] at hok ⊢
          refine ⟨hok, hph, fun i hi => ?_, fun _ i hi hlt ha => ?_, fun _ i hi hlt => step_dead h hi (hea h3 i hi hlt), fun hx => absurd hx (by show ¬ 4 ≤ s.ph; omega), ⟨fun i hi hf => step_dead h (mount_facts hp hi).1 (hho.pod i hi hf), hho.par, hho.dev⟩, hdo⟩
          · show ((turn s.pods d.n0 (stepG d s s.ba (s.ck + 1)) (fun _ _ x => (x, s.ck + 1))).getD i (0, 0)).2 ≤ s.ck + 1
            have := hs i hi
            rw [podAt_turn h hi]
            repeat' split
            all_goals (try simp only []); omega
          · have ha' := step_alive h hi ha
            show ((turn s.pods d.n0 (stepG d s s.ba (s.ck + 1)) (fun _ _ x => (x, s.ck + 1))).getD i (0, 0)).1 = 0
            have hlt : s.ba < bandOf d i := hlt
            rw [podAt_turn h hi, if_neg (by omega)]
            exact hla h3 i hi hlt ha'
  · have h4 : s.ph = 4 := by omega
    cases hh : heldB s
    · have e := tick_down (d := d) h4 hh
      rw [e] at hok ⊢
      refine ⟨hok, ⟨show (3 : Int) ≤ 5 by decide, show (5 : Int) ≤ 5 by decide⟩, fun i hi => Int.le_trans (hs i hi) (show s.ck ≤ s.ck + 1 by omega), fun hx => ?_, fun hx => ?_, fun _ => hde (by omega), holds_clock hho rfl rfl rfl, fun _ => hh⟩
      · exact absurd hx (by show ¬ (5 : Int) = 3; decide)
      · exact absurd hx (by show ¬ (5 : Int) = 3; decide)
    · have e := tick_give (d := d) h4 hh
      rw [e] at hok ⊢
      refine ⟨hok, hph, fun i hi => Int.le_trans (hs i hi) (show s.ck ≤ s.ck + 1 by omega), fun hx => absurd hx (by show ¬ s.ph = 3; omega), fun hx => absurd hx (by show ¬ s.ph = 3; omega), hde, ⟨?_, ?_, ?_⟩, fun hx => absurd hx (by show ¬ s.ph = 5; omega)⟩
      · intro i hi _
        exact hde (by omega) _ (mount_facts hp hi).1
      · intro i hi h0 ht
        have hmf := mount_facts hp hi
        have hpi : (mpar d i).toNat < d.n2 := by omega
        have ht' : ((turn s.mnts d.n2 (freeG d s) (fun _ _ x => x)).getD i (false, 0)).1 = true := ht
        show ((turn s.mnts d.n2 (freeG d s) (fun _ _ x => x)).getD (mpar d i).toNat (false, 0)).1 = true
        rw [mntAt_turn h hi] at ht'
        have hwas : (mntAt s i).1 = true := by
          split at ht'
          · rename_i hf
            simp only [freeB, Bool.and_eq_true] at hf
            exact hf.1.1
          · exact ht'
        rw [mntAt_turn h hpi, if_neg (fun hf => ?_)]
        · exact hho.par i hi h0 hwas
        · simp only [freeB, Bool.and_eq_true, List.all_eq_true, List.mem_range] at hf
          have := hf.2 i hi
          rw [hwas] at this
          have e2 : mpar d i = ((mpar d i).toNat : Int) := by omega
          rw [← e2] at this
          simp at this
      · intro i hi hd
        have hdm := device_facts hp hi
        have hd' : (turn s.devs d.n3 (giveG d s) (fun _ _ _ => false)).getD i false = false := hd
        show ((turn s.mnts d.n2 (freeG d s) (fun _ _ x => x)).getD (dmnt d i) (false, 0)).1 = false
        rw [devAt_turn h hi] at hd'
        have hwas : (mntAt s (dmnt d i)).1 = false := by
          split at hd'
          · rename_i hg
            simp only [giveB, Bool.and_eq_true, Bool.not_eq_true'] at hg
            exact hg.2
          · exact hho.dev i hi hd'
        rw [mntAt_turn h hdm, if_neg (fun hf => ?_)]
        · exact hwas
        · simp only [freeB, Bool.and_eq_true] at hf
          rw [hwas] at hf
          exact absurd hf.1.1 (by decide)

theorem tick_left {d : PlanD} {s : StD} {n : Int} (G : Going d s) (L : Left d s n) (h5 : s.ph ≠ 5) : Left d (tickS d s) (n - 1) := by
  obtain ⟨h, hph, hs, hla, hea, hde, hho, hdo⟩ := G
  have hp := h.plan
  by_cases h3 : s.ph = 3
  · obtain ⟨lw, pw, l0, p0, hlw, hpw, hn⟩ := L.shut h3
    by_cases hlk : s.lks ≠ [] ∧ s.ck + 1 < s.lb
    · have e := tick_lock (d := d) h3 hlk
      rw [e]
      refine ⟨fun _ => ⟨lw - 1, pw, ?_, p0, .inr ?_, fun i hi hb ha => Int.le_trans potP_mono (hpw i hi hb ha), ?_⟩, fun hx => absurd hx (by show ¬ s.ph = 4; omega), fun hx => absurd hx (by show ¬ s.ph = 5; omega)⟩
      · have := hlw.resolve_left hlk.1; omega
      · have := hlw.resolve_left hlk.1
        show s.lb - 1 - (s.ck + 1) ≤ lw - 1
        omega
      · show lw - 1 + pw + (if s.ba = 6 then 0 else 1 + over d s.ba) + 6 * d.n2 + d.n3 + 2 ≤ n - 1
        omega
    · by_cases hb : s.ba = 6
      · have e := tick_last (d := d) h3 hlk hb
        have hr := (relW_in h).2
        have hov : (if s.ba = 6 then 0 else 1 + over d s.ba) = 0 := if_pos hb
        rw [hov] at hn
        rw [e]
        refine ⟨fun hx => absurd hx (by show ¬ (4 : Int) = 3; decide), fun _ => ?_, fun hx => absurd hx (by show ¬ (4 : Int) = 5; decide)⟩
        show relW d s + 1 ≤ n - 1
        omega
      · cases hl : liveB d s s.ba
        · have e := tick_next (d := d) h3 hlk hb hl
          have hov : (if s.ba = 6 then 0 else 1 + over d s.ba) = 1 + over d s.ba := if_neg hb
          rw [hov] at hn
          rw [e]
          have hlw' : s.lks = [] ∨ s.lb - 1 - (s.ck + 1) ≤ lw := hlw.imp id fun hx => by omega
          refine ⟨fun _ => ?_, fun hx => absurd hx (by show ¬ s.ph = 4; omega), fun hx => absurd hx (by show ¬ s.ph = 5; omega)⟩
          rcases nextL_cases d s.ba with ⟨hn1, hall⟩ | ⟨hn1, hgt, hall⟩
          · have hnb : nextB d s.ba = 6 := by unfold nextB; rw [hn1]; rfl
            have h0 := over_nonneg hp s.ba
            refine ⟨lw, 0, l0, Int.le_refl _, hlw', fun i hi hbi _ => ?_, ?_⟩
            · have hbi : bandOf d i = nextB d s.ba := hbi
              have := (pod_facts hp hi).1
              omega
            · show lw + 0 + (if nextB d s.ba = 6 then 0 else 1 + over d (nextB d s.ba)) + 6 * d.n2 + d.n3 + 2 ≤ n - 1
              rw [if_pos hnb]
              omega
          · have hr := bandsL_mem hn1
            have hnb : nextB d s.ba = nextL d s.ba := by unfold nextB; rw [if_neg (by omega)]
            have hov := over_next hp hn1 hgt hall
            have h4 : 4 ≤ bandT d (nextL d s.ba) := by
              obtain ⟨j, hj, hje, hjp⟩ := picks_mem hn1
              simp only [hasB, decide_eq_true_eq] at hjp
              obtain ⟨y, hy⟩ := List.exists_mem_of_length_pos hjp
              obtain ⟨i, hi, _, hbi⟩ := podsL_mem hy
              have hbi : bandOf d i = (j : Int) := hbi
              have := time_in hp hi
              have hpf := pod_facts hp hi
              rw [hje, ← hbi]
              omega
            refine ⟨lw, bandT d (nextL d s.ba) - 1, l0, by omega, hlw', fun i hi hbi ha => ?_, ?_⟩
            · have hbi : bandOf d i = nextB d s.ba := hbi
              have hbi2 : bandOf d i = nextL d s.ba := hbi.trans hnb
              have ha : aliveB (podAt s i).1 = true := ha
              have hz := hla h3 i hi (by omega) ha
              have ht := time_in hp hi
              have hpf := pod_facts hp hi
              rw [hbi2] at ht
              show potP (hookOf d i) (graceOf d i) (podAt s i) (s.ck + 1) ≤ _
              unfold potP
              rw [if_pos hz]
              omega
            · show lw + (bandT d (nextL d s.ba) - 1) + (if nextB d s.ba = 6 then 0 else 1 + over d (nextB d s.ba)) + 6 * d.n2 + d.n3 + 2 ≤ n - 1
              rw [hnb, if_neg (by omega)]
              omega
        · have e := tick_live (d := d) h3 hlk hb hl
          rw [e]
          obtain ⟨j, hj, hbj, haj⟩ := liveB_iff.1 hl
          have h1 := Int.le_trans (potP_pos (grace := graceOf d j) (ck := s.ck) haj (pod_facts hp hj).2.1.1) (hpw j hj hbj haj)
          refine ⟨fun _ => ⟨lw, pw - 1, l0, by omega, hlw.imp id fun hx => ?_, fun i hi hbi ha => ?_, ?_⟩, fun hx => absurd hx (by show ¬ s.ph = 4; omega), fun hx => absurd hx (by show ¬ s.ph = 5; omega)⟩
          · show s.lb - 1 - (s.ck + 1) ≤ lw
            omega
          · have ha' := step_alive h hi ha
            have hbi : bandOf d i = s.ba := hbi
            show potP (hookOf d i) (graceOf d i) ((turn s.pods d.n0 (stepG d s s.ba (s.ck + 1)) (fun _ _ x => (x, s.ck + 1))).getD i (0, 0)) (s.ck + 1) ≤ pw - 1
            rw [podAt_turn h hi, if_pos ⟨hbi, ha'⟩]
            have hpf := pod_facts hp hi
            have := potP_tick (hook := hookOf d i) (grace := graceOf d i) (q := podAt s i) (ck := s.ck) ha' hpf.2.1.1 hpf.2.2.1 (hs i hi)
            have := hpw i hi hbi ha'
            omega
          · show lw + (pw - 1) + (if s.ba = 6 then 0 else 1 + over d s.ba) + 6 * d.n2 + d.n3 + 2 ≤ n - 1
            omega
  · have h4 : s.ph = 4 := by omega
    have hr := L.rel h4
    cases hh : heldB s
    · have e := tick_down (d := d) h4 hh
      have := (relW_in h).1
      rw [e]
      refine ⟨fun hx => absurd hx (by show ¬ (5 : Int) = 3; decide), fun hx => absurd hx (by show ¬ (5 : Int) = 4; decide), fun _ => by omega⟩
    · have e := tick_give (d := d) h4 hh
      rw [e]
      refine ⟨fun hx => absurd hx (by show ¬ s.ph = 3; omega), fun _ => ?_, fun hx => absurd hx (by show ¬ s.ph = 5; omega)⟩
      have hmle : ∀ i, i < d.n2 → mw ((turn s.mnts d.n2 (freeG d s) (fun _ _ x => x)).getD i (false, 0)) ≤ mw (mntAt s i) - (if freeB d s i then 1 else 0) := fun i hi => by
        rw [mntAt_turn h hi]
        have hm := mntAt_ok h hi
        cases hf : freeB d s i
        · simp
        · simp only [freeB, Bool.and_eq_true] at hf
          rw [if_pos rfl, if_pos rfl]
          unfold mw
          rw [if_pos hf.1.1]
          split <;> simp <;> omega
      have hdle : ∀ i, i < d.n3 → (if (turn s.devs d.n3 (giveG d s) (fun _ _ _ => false)).getD i false then 1 else 0 : Int) ≤ (if devAt s i then 1 else 0) - (if giveB d s i then 1 else 0) := fun i hi => by
        rw [devAt_turn h hi]
        cases hg : giveB d s i
        · simp
        · simp only [giveB, Bool.and_eq_true] at hg
          simp [hg.1]
      show sumB d.n2 (fun i => mw ((turn s.mnts d.n2 (freeG d s) (fun _ _ x => x)).getD i (false, 0))) + sumB d.n3 (fun i => if (turn s.devs d.n3 (giveG d s) (fun _ _ _ => false)).getD i false then 1 else 0) + 1 ≤ n - 1
      unfold relW at hr
      have m1 := sumB_le (n := d.n2) (f := fun i => mw ((turn s.mnts d.n2 (freeG d s) (fun _ _ x => x)).getD i (false, 0))) (g := fun i => mw (mntAt s i)) fun i hi => by
        have := hmle i hi
        show mw ((turn s.mnts d.n2 (freeG d s) (fun _ _ x => x)).getD i (false, 0)) ≤ mw (mntAt s i)
        split at this <;> omega
      have m2 := sumB_le (n := d.n3) (f := fun i => if (turn s.devs d.n3 (giveG d s) (fun _ _ _ => false)).getD i false then 1 else 0) (g := fun i => if devAt s i then 1 else 0) fun i hi => by
        have := hdle i hi
        show (if (turn s.devs d.n3 (giveG d s) (fun _ _ _ => false)).getD i false then 1 else 0 : Int) ≤ (if devAt s i then 1 else 0)
        generalize (if (turn s.devs d.n3 (giveG d s) (fun _ _ _ => false)).getD i false then 1 else 0 : Int) = y at this ⊢
        generalize (if devAt s i then 1 else 0 : Int) = z at this ⊢
        split at this <;> omega
      rcases some_goes h (hde (by omega)) hh with ⟨k, hk, hf⟩ | ⟨k, hk, hg⟩
      · have := sumB_lt (k := k) (n := d.n2) (f := fun i => mw ((turn s.mnts d.n2 (freeG d s) (fun _ _ x => x)).getD i (false, 0))) (g := fun i => mw (mntAt s i)) hk (fun i hi => by
          have := hmle i hi
          show mw ((turn s.mnts d.n2 (freeG d s) (fun _ _ x => x)).getD i (false, 0)) ≤ mw (mntAt s i)
          split at this <;> omega) (by
          have := hmle k hk
          rw [if_pos hf] at this
          show mw ((turn s.mnts d.n2 (freeG d s) (fun _ _ x => x)).getD k (false, 0)) < mw (mntAt s k)
          omega)
        omega
      · have := sumB_lt (k := k) (n := d.n3) (f := fun i => if (turn s.devs d.n3 (giveG d s) (fun _ _ _ => false)).getD i false then 1 else 0) (g := fun i => if devAt s i then 1 else 0) hk (fun i hi => by
          have := hdle i hi
          show (if (turn s.devs d.n3 (giveG d s) (fun _ _ _ => false)).getD i false then 1 else 0 : Int) ≤ (if devAt s i then 1 else 0)
          generalize (if (turn s.devs d.n3 (giveG d s) (fun _ _ _ => false)).getD i false then 1 else 0 : Int) = y at this ⊢
          generalize (if devAt s i then 1 else 0 : Int) = z at this ⊢
          split at this <;> omega) (by
          have := hdle k hk
          rw [if_pos hg] at this
          show (if (turn s.devs d.n3 (giveG d s) (fun _ _ _ => false)).getD k false then 1 else 0 : Int) < (if devAt s k then 1 else 0)
          omega)
        omega
end Go.Proofs.YtfibgpikjfopgaaGreat
/- Tf -/
set_option linter.unusedVariables false
namespace Go.Proofs.YtfibgpikjfopgaaGreat
open Go.RowKit

/-- Ahead of the shutting: who is alive runs. -/
structure Before (d : PlanD) (s : StD) : Prop where
  ok : StOk d s
  since : ∀ i, i < d.n0 → (podAt s i).2 ≤ s.ck
  runs : ∀ i, i < d.n0 → aliveB (podAt s i).1 = true → (podAt s i).1 = 0
  holds : HoldsP d s
def shutS (d : PlanD) (s : StD) : StD := { s with lb := min (s.ck + d.l) 1000000, ba := nextB d (-1), ph := 3, co := true }
theorem shut_run {d : PlanD} {s : StD} (h : StOk d s) : runR d s [⟨11, min (s.ck + d.l) 1000000, 0⟩, ⟨9, nextB d (-1), 0⟩, ⟨1, 3, 0⟩] = some (shutS d s) := by
  have hl := planOk_lock h.plan
  have hc := h.ck
  have hb := nextB_in d (-1)
  have h1 : StOk d (applyR s ⟨11, min (s.ck + d.l) 1000000, 0⟩) := ok_lockBy h (by omega)
  have g1 : goodR d s ⟨11, min (s.ck + d.l) 1000000, 0⟩ = true := goodR_of (by rw [recOkB_true]; simp only []; omega) rfl h1
  have h2 := ok_band h1 hb
  have g2 : goodR d (applyR s ⟨11, min (s.ck + d.l) 1000000, 0⟩) ⟨9, nextB d (-1), 0⟩ = true := goodR_of (by rw [recOkB_true]; simp only []; omega) rfl h2
  rw [runR, if_pos g1, runR, if_pos g2]
  exact runR_one (goodR_of (by decide) rfl (ok_phase h2 (by decide)))
theorem shut_ok {d : PlanD} {s : StD} (h : StOk d s) : StOk d (shutS d s) := runR_ok h (shut_run h)
theorem sumB_all {f : Nat → Int} : ∀ n : Nat, sumB n (fun k => if (-1 : Int) < k then f k else 0) = sumB n f
  | 0 => rfl
  | n + 1 => by
    simp only [sumB]
    rw [sumB_all n, if_pos (by omega)]
/-- The shutting begins: all is as it should, and the whole time is enough. -/
theorem shut_going {d : PlanD} {s : StD} (B : Before d s) : Going d (shutS d s) ∧ Left d (shutS d s) (wholeT d - 1) := by
  have hok := shut_ok B.ok
  obtain ⟨h, hs, hr, hho⟩ := B
  have hp := h.plan
  have hl := planOk_lock hp
  refine ⟨⟨hok, ⟨show (3 : Int) ≤ 3 by decide, show (3 : Int) ≤ 5 by decide⟩, hs, fun _ i hi _ ha => hr i hi ha, fun _ i hi hlt => ?_, fun hx => absurd hx (by show ¬ (4 : Int) ≤ 3; decide), holds_clock hho rfl rfl rfl, fun hx => absurd hx (by show ¬ (3 : Int) = 5; decide)⟩, ⟨fun _ => ?_, fun hx => absurd hx (by show ¬ (3 : Int) = 4; decide), fun hx => absurd hx (by show ¬ (3 : Int) = 5; decide)⟩⟩
  · exfalso
    have hlt : bandOf d i < nextB d (-1) := hlt
    have hm := band_mem hp hi
    have hb := (pod_facts hp hi).1
    unfold nextB at hlt
    rcases nextL_cases d (-1) with ⟨hn, hall⟩ | ⟨hn, hgt, hall⟩
    · have := hall _ hm; omega
    · have h6 := bandsL_mem hn
      rw [if_neg (by omega)] at hlt
      have := hall _ hm (by omega)
      omega
  · have hlw : (min (s.ck + d.l) 1000000) - 1 - s.ck ≤ d.l := by omega
    have hw : wholeT d = d.l + 6 * (d.n2 + d.n3 : Int) + 4 + over d (-1) := by
      rw [wholeT, if_pos hp]
      unfold over
      rw [sumB_all (f := fun k : Nat => bandT d k)]
    rcases nextL_cases d (-1) with ⟨hn, hall⟩ | ⟨hn, hgt, hall⟩
    · have hnb : nextB d (-1) = 6 := by unfold nextB; rw [hn]; rfl
      have h0 := over_nonneg hp (-1)
      refine ⟨d.l, 0, hl.1, Int.le_refl _, .inr hlw, fun i hi hb _ => ?_, ?_⟩
      · have hb : bandOf d i = nextB d (-1) := hb
        have := (pod_facts hp hi).1
        omega
      · show d.l + 0 + (if nextB d (-1) = 6 then 0 else 1 + over d (nextB d (-1))) + 6 * d.n2 + d.n3 + 2 ≤ wholeT d - 1
        rw [if_pos hnb, hw]
        omega
    · have h6 := bandsL_mem hn
      have hnb : nextB d (-1) = nextL d (-1) := by unfold nextB; rw [if_neg (by omega)]
      have hov := over_next hp hn hgt hall
      have h4 : 4 ≤ bandT d (nextL d (-1)) := by
        obtain ⟨j, hj, hje, hjp⟩ := picks_mem hn
        simp only [hasB, decide_eq_true_eq] at hjp
        obtain ⟨y, hy⟩ := List.exists_mem_of_length_pos hjp
        obtain ⟨i, hi, _, hbi⟩ := podsL_mem hy
        have hbi : bandOf d i = (j : Int) := hbi
        have := time_in hp hi
        have hpf := pod_facts hp hi
        rw [hje, ← hbi]
        omega
      refine ⟨d.l, bandT d (nextL d (-1)) - 1, hl.1, by omega, .inr hlw, fun i hi hb ha => ?_, ?_⟩
      · have hb : bandOf d i = nextB d (-1) := hb
        have hb2 := hb.trans hnb
        have ha : aliveB (podAt s i).1 = true := ha
        have hz := hr i hi ha
        have ht := time_in hp hi
        have hpf := pod_facts hp hi
        rw [hb2] at ht
        show potP (hookOf d i) (graceOf d i) (podAt s i) s.ck ≤ _
        unfold potP
        rw [if_pos hz]
        omega
      · show d.l + (bandT d (nextL d (-1)) - 1) + (if nextB d (-1) = 6 then 0 else 1 + over d (nextB d (-1))) + 6 * d.n2 + d.n3 + 2 ≤ wholeT d - 1
        rw [hnb, if_neg (by omega), hw]
        omega

/-- A state in which one pod is in another state, since now. -/
def podS (s : StD) (i : Nat) (st : Int) : StD := { s with pods := s.pods.set i (st, s.ck) }
theorem podAt_set {d : PlanD} {s : StD} (h : StOk d s) {i j : Nat} {st : Int} (hi : i < d.n0) : podAt (podS s i st) j = if j = i then (st, s.ck) else podAt s j := by
  have hl : i < s.pods.length := by rw [h.np]; exact hi
  unfold podAt podS
  simp only [List.getD, List.getElem?_set]
  by_cases e : i = j
  · subst e; simp [hl]
  · rw [if_neg e, if_neg (fun x => e x.symm)]
/-- What is told of a pod that is alive (its hook is through; it has exited) leaves all as it should, and no more time to go. -/
theorem pod_going {d : PlanD} {s : StD} {i : Nat} {st : Int} {n : Int} (G : Going d s) (L : Left d s n) (hi : i < d.n0)
    (hst : (podAt s i).1 = 1 ∧ st = 2 ∨ ((podAt s i).1 = 0 ∨ (podAt s i).1 = 1 ∨ (podAt s i).1 = 2 ∨ (podAt s i).1 = 3) ∧ (st = 4 ∨ st = 5)) (hb : aliveB st = true → s.ph = 3 → bandOf d i ≤ s.ba) :
    Going d (podS s i st) ∧ Left d (podS s i st) n := by
  obtain ⟨h, hph, hs, hla, hea, hde, hho, hdo⟩ := G
  have hp := h.plan
  have hok : StOk d (podS s i st) := ok_pod (i := i) (st := st) h (by omega)
  have hal : aliveB (podAt s i).1 = true := by simp only [aliveB, inB_true]; omega
  have hdead : ∀ j, j < d.n0 → aliveB (podAt s j).1 = false → aliveB (podAt (podS s i st) j).1 = false := fun j hj hx => by
    rw [podAt_set h hi]
    by_cases e : j = i
    · subst e; rw [hal] at hx; cases hx
    · rw [if_neg e]; exact hx
  refine ⟨⟨hok, hph, fun j hj => ?_, fun h3 j hj hlt ha => ?_, fun h3 j hj hlt => hdead j hj (hea h3 j hj hlt), fun h4 j hj => hdead j hj (hde h4 j hj), ⟨fun j hj hf => hdead _ (mount_facts hp hj).1 (hho.pod j hj hf), hho.par, hho.dev⟩, hdo⟩, ⟨fun h3 => ?_, L.rel, L.done⟩⟩
  · rw [podAt_set h hi]
    split
    · exact Int.le_refl _
    · exact hs j hj
  · rw [podAt_set h hi] at ha ⊢
    by_cases e : j = i
    · subst e
      rw [if_pos rfl] at ha ⊢
      have := hb ha h3
      have hlt : s.ba < bandOf d j := hlt
      omega
    · rw [if_neg e] at ha ⊢
      exact hla h3 j hj hlt ha
  · obtain ⟨lw, pw, l0, p0, hlw, hpw, hn⟩ := L.shut h3
    refine ⟨lw, pw, l0, p0, hlw, fun j hj hbj ha => ?_, hn⟩
    rw [podAt_set h hi] at ha ⊢
    by_cases e : j = i
    · subst e
      rw [if_pos rfl] at ha ⊢
      have := hpw j hj hbj hal
      have h2 : (podAt s j).1 = 1 ∧ st = 2 := by
        rcases hst with h1 | ⟨_, h1 | h1⟩
        · exact h1
        · rw [h1] at ha; exact absurd ha (show ¬ aliveB 4 = true by decide)
        · rw [h1] at ha; exact absurd ha (show ¬ aliveB 5 = true by decide)
      have hpf := pod_facts hp hj
      rw [h2.2]
      show potP (hookOf d j) (graceOf d j) (2, s.ck) s.ck ≤ pw
      unfold potP at this ⊢
      rw [if_neg (by omega), if_pos h2.1] at this
      simp
      omega
    · rw [if_neg e] at ha ⊢
      exact hpw j hj hbj ha
end Go.Proofs.YtfibgpikjfopgaaGreat
/- Tg -/
set_option linter.unusedVariables false
namespace Go.Proofs.YtfibgpikjfopgaaGreat
open Go.RowKit

/-- Chapter 8, of a right state. -/
def healthyN (d : PlanD) (s : StD) (g : Int) : Int := ((List.range d.n0).countP fun i => decide (d.x0 (i * 4) = g) && decide ((podAt s i).1 = 0) : Nat)
def mayEvictB (d : PlanD) (s : StD) (i : Int) : Bool :=
  decide (s.ph = 2) && inB i 0 (d.n0 - 1) && decide ((podAt s i.toNat).1 = 0) && decide (d.x1 (d.x0 (i.toNat * 4)).toNat < healthyN d s (d.x0 (i.toNat * 4)))

/-- Chapter 10, of a right state: the records and the code. -/
def noR (c : Int) : List RecD × Int := ([], c)
def oneR (k a b : Int) : List RecD × Int := ([⟨k, a, b⟩], 0)
def phaseD (s : StD) (f t : Int) : List RecD × Int := if s.ph = f then oneR 1 t 0 else noR 3
def evictD (d : PlanD) (s : StD) (a : Int) : List RecD × Int :=
  if inB a 0 (d.n0 - 1) = false then noR 2 else if s.ph ≠ 2 then noR 3 else if (podAt s a.toNat).1 ≠ 0 then noR 4 else if mayEvictB d s a = false then noR 5 else oneR 2 a 6
def shutD (d : PlanD) (s : StD) : List RecD × Int :=
  if s.ph = 1 ∨ s.ph = 2 then ([⟨11, min (s.ck + d.l) 1000000, 0⟩, ⟨9, nextB d (-1), 0⟩, ⟨1, 3, 0⟩], 0) else noR 3
def cancelD (s : StD) : List RecD × Int := if s.ph = 2 then oneR 1 0 0 else phaseD s 1 0
def lockD (s : StD) (a : Int) : List RecD × Int := if inB a 0 7 = false then noR 2 else if 3 ≤ s.ph then noR 3 else if s.lks.contains a then noR 4 else oneR 6 a 0
def unlockD (s : StD) (a : Int) : List RecD × Int := if inB a 0 7 = false then noR 2 else if s.lks.contains a = false then noR 4 else oneR 7 a 0
def toldD (d : PlanD) (s : StD) (f : Int → Int) (a : Int) : List RecD × Int := if inB a 0 (d.n0 - 1) = false then noR 2 else if f (podAt s a.toNat).1 < 0 then noR 4 else oneR 2 a (f (podAt s a.toNat).1)
def busyD (d : PlanD) (s : StD) (a b : Int) : List RecD × Int :=
  if inB a 0 (d.n2 - 1) = false then noR 2 else if inB b 1 5 = false then noR 1 else if 4 ≤ s.ph then noR 3 else if (mntAt s a.toNat).1 = false ∨ (mntAt s a.toNat).2 ≠ 0 then noR 4 else oneR 3 a b
def commandD (d : PlanD) (s : StD) (k a b : Int) : List RecD × Int :=
  if k = 1 then phaseD s 0 1 else if k = 2 then phaseD s 1 2 else if k = 3 then evictD d s a else if k = 4 then shutD d s else if k = 5 then cancelD s else if k = 6 then lockD s a else if k = 7 then unlockD s a
  else if k = 8 then toldD d s afterHook a else if k = 9 then toldD d s afterExit a else if k = 10 then busyD d s a b else noR 1

theorem told_hook {x : Int} (h : ¬ afterHook x < 0) : x = 1 ∧ afterHook x = 2 := by
  unfold afterHook at h ⊢
  split at h
  · rename_i e; exact ⟨e, if_pos e⟩
  · omega
theorem told_exit {x : Int} (h : ¬ afterExit x < 0) : (x = 0 ∨ x = 1 ∨ x = 2 ∨ x = 3) ∧ (afterExit x = 4 ∨ afterExit x = 5) := by
  unfold afterExit at h ⊢
  split at h
  · rename_i e; exact ⟨by omega, .inr (if_pos e)⟩
  · rename_i e
    split at h
    · rename_i e2; exact ⟨by omega, .inl (by rw [if_neg e, if_pos e2])⟩
    · omega

/-- What is not refused goes, and keeps a state right (promise 10). -/
theorem command_run {d : PlanD} {s : StD} {k a b : Int} (h : StOk d s) (hc : (commandD d s k a b).2 = 0) : ∃ x, runR d s (commandD d s k a b).1 = some x ∧ StOk d x := by
  have key : ∀ r : RecD, recOkB r = true → thereB s r = true → StOk d (applyR s r) → ∃ x, runR d s [r] = some x ∧ StOk d x := fun r h1 h2 h3 => ⟨_, runR_one (goodR_of h1 h2 h3), h3⟩
  have hl := planOk_lock h.plan
  unfold commandD at hc ⊢
  split at hc
  · rename_i e; subst e
    rw [if_pos rfl]
    unfold phaseD at hc ⊢
    split at hc
    · rename_i e2; rw [if_pos e2]; exact key _ (by decide) rfl (ok_phase h (by decide))
    · exact absurd hc (by decide)
  · rename_i e1; rw [if_neg e1]
    split at hc
    · rename_i e; rw [if_pos e]
      unfold phaseD at hc ⊢
      split at hc
      · rename_i e2; rw [if_pos e2]; exact key _ (by decide) rfl (ok_phase h (by decide))
      · exact absurd hc (by decide)
    · rename_i e2; rw [if_neg e2]
      split at hc
      · rename_i e; rw [if_pos e]
        unfold evictD at hc ⊢
        split at hc
        · exact absurd hc (by decide)
        · rename_i n1; rw [if_neg n1]
          split at hc
          · exact absurd hc (by decide)
          · rename_i n2; rw [if_neg n2]
            split at hc
            · exact absurd hc (by decide)
            · rename_i n3; rw [if_neg n3]
              split at hc
              · exact absurd hc (by decide)
              · rename_i n4; rw [if_neg n4]
                have hb := inB_true.1 (Bool.of_not_eq_false n1)
                have hnp := h.np
                exact key _ (by rw [recOkB_true]; simp only []; omega) (by simp [thereB]; omega) (ok_pod h (by decide))
      · rename_i e3; rw [if_neg e3]
        split at hc
        · rename_i e; rw [if_pos e]
          unfold shutD at hc ⊢
          split at hc
          · rename_i e4; rw [if_pos e4]; exact ⟨_, shut_run h, shut_ok h⟩
          · exact absurd hc (by decide)
        · rename_i e4; rw [if_neg e4]
          split at hc
          · rename_i e; rw [if_pos e]
            unfold cancelD phaseD at hc ⊢
            split at hc
            · rename_i e5; rw [if_pos e5]; exact key _ (by decide) rfl (ok_idle h)
            · rename_i e5; rw [if_neg e5]
              split at hc
              · rename_i e6; rw [if_pos e6]; exact key _ (by decide) rfl (ok_idle h)
              · exact absurd hc (by decide)
          · rename_i e5; rw [if_neg e5]
            split at hc
            · rename_i e; rw [if_pos e]
              unfold lockD at hc ⊢
              split at hc
              · exact absurd hc (by decide)
              · rename_i n1; rw [if_neg n1]
                split at hc
                · exact absurd hc (by decide)
                · rename_i n2; rw [if_neg n2]
                  split at hc
                  · exact absurd hc (by decide)
                  · rename_i n3; rw [if_neg n3]
                    have hb := inB_true.1 (Bool.of_not_eq_false n1)
                    exact key _ (by rw [recOkB_true]; simp only []; omega) rfl (ok_lock h hb)
            · rename_i e6; rw [if_neg e6]
              split at hc
              · rename_i e; rw [if_pos e]
                unfold unlockD at hc ⊢
                split at hc
                · exact absurd hc (by decide)
                · rename_i n1; rw [if_neg n1]
                  split at hc
                  · exact absurd hc (by decide)
                  · rename_i n2; rw [if_neg n2]
                    have hb := inB_true.1 (Bool.of_not_eq_false n1)
                    exact key _ (by rw [recOkB_true]; simp only []; omega) rfl (ok_unlock h)
              · rename_i e7; rw [if_neg e7]
                split at hc
                · rename_i e; rw [if_pos e]
                  unfold toldD at hc ⊢
                  split at hc
                  · exact absurd hc (by decide)
                  · rename_i n1; rw [if_neg n1]
                    split at hc
                    · exact absurd hc (by decide)
                    · rename_i n2; rw [if_neg n2]
                      have hb := inB_true.1 (Bool.of_not_eq_false n1)
                      have hnp := h.np
                      have ht := told_hook n2
                      exact key _ (by rw [recOkB_true]; simp only []; omega) (by simp [thereB]; omega) (ok_pod h (by omega))
                · rename_i e8; rw [if_neg e8]
                  split at hc
                  · rename_i e; rw [if_pos e]
                    unfold toldD at hc ⊢
                    split at hc
                    · exact absurd hc (by decide)
                    · rename_i n1; rw [if_neg n1]
                      split at hc
                      · exact absurd hc (by decide)
                      · rename_i n2; rw [if_neg n2]
                        have hb := inB_true.1 (Bool.of_not_eq_false n1)
                        have hnp := h.np
                        have ht := told_exit n2
                        exact key _ (by rw [recOkB_true]; simp only []; omega) (by simp [thereB]; omega) (ok_pod h (by omega))
                  · rename_i e9; rw [if_neg e9]
                    split at hc
                    · rename_i e; rw [if_pos e]
                      unfold busyD at hc ⊢
                      split at hc
                      · exact absurd hc (by decide)
                      · rename_i n1; rw [if_neg n1]
                        split at hc
                        · exact absurd hc (by decide)
                        · rename_i n2; rw [if_neg n2]
                          split at hc
                          · exact absurd hc (by decide)
                          · rename_i n3; rw [if_neg n3]
                            split at hc
                            · exact absurd hc (by decide)
                            · rename_i n4; rw [if_neg n4]
                              have hb := inB_true.1 (Bool.of_not_eq_false n1)
                              have hb2 := inB_true.1 (Bool.of_not_eq_false n2)
                              have hnm := h.nm
                              have hh : (s.mnts.getD a.toNat (false, 0)).1 = true := Bool.of_not_eq_false fun x => n4 (.inl x)
                              exact key _ (by rw [recOkB_true]; simp only []; omega) (by simp [thereB]; omega) (ok_busy h (by omega) hh)
                    · exact absurd hc (by decide)
end Go.Proofs.YtfibgpikjfopgaaGreat
/- Th -/
set_option linter.unusedVariables false
namespace Go.Proofs.YtfibgpikjfopgaaGreat
open Go.RowKit

/-- The one record of a command that is not refused. -/
theorem run_one {d : PlanD} {s x : StD} {r : RecD} (h : runR d s [r] = some x) : x = applyR s r := by
  simp only [runR] at h
  split at h
  · exact (Option.some.inj h).symm
  · cases h
/-- Which command it was, and what came of it. -/
inductive Came (d : PlanD) (s : StD) : StD → Prop
  | cordon (h : s.ph = 0) : Came d s (applyR s ⟨1, 1, 0⟩)
  | drain (h : s.ph = 1) : Came d s (applyR s ⟨1, 2, 0⟩)
  | evict (i : Nat) (hi : i < d.n0) (h : s.ph = 2) (hr : (podAt s i).1 = 0) (hm : mayEvictB d s i = true) : Came d s (podS s i 6)
  | shut (h : s.ph = 1 ∨ s.ph = 2) : Came d s (shutS d s)
  | cancel (h : s.ph = 1 ∨ s.ph = 2) : Came d s (applyR s ⟨1, 0, 0⟩)
  | lock (a : Int) (h : s.ph < 3) : Came d s (applyR s ⟨6, a, 0⟩)
  | unlock (a : Int) : Came d s (applyR s ⟨7, a, 0⟩)
  | hook (i : Nat) (hi : i < d.n0) (h : (podAt s i).1 = 1) : Came d s (podS s i 2)
  | exit (i : Nat) (hi : i < d.n0) (st : Int) (h : (podAt s i).1 = 0 ∨ (podAt s i).1 = 1 ∨ (podAt s i).1 = 2 ∨ (podAt s i).1 = 3) (hs : st = 4 ∨ st = 5) : Came d s (podS s i st)
  | busy (i : Nat) (hi : i < d.n2) (b : Int) (hb : 1 ≤ b ∧ b ≤ 5) (h : s.ph < 4) (hh : (mntAt s i).1 = true) : Came d s (applyR s ⟨3, i, b⟩)
theorem index_nat {a : Int} {n : Nat} (h : ¬ inB a 0 (n - 1) = false) : ∃ i : Nat, a = i ∧ i < n := by
  have := inB_true.1 (Bool.of_not_eq_false h)
  exact ⟨a.toNat, by omega, by omega⟩
theorem came_of {d : PlanD} {s x : StD} {k a b : Int} (h : StOk d s) (hc : (commandD d s k a b).2 = 0) (hx : runR d s (commandD d s k a b).1 = some x) : Came d s x := by
  unfold commandD at hc hx
  split at hc
  · rename_i e; rw [if_pos e] at hx
    unfold phaseD at hc hx
    split at hc
    · rename_i e2; rw [if_pos e2] at hx; rw [run_one hx]; exact .cordon e2
    · exact absurd hc (by decide)
  · rename_i e1; rw [if_neg e1] at hx
    split at hc
    · rename_i e; rw [if_pos e] at hx
      unfold phaseD at hc hx
      split at hc
      · rename_i e2; rw [if_pos e2] at hx; rw [run_one hx]; exact .drain e2
      · exact absurd hc (by decide)
    · rename_i e2; rw [if_neg e2] at hx
      split at hc
      · rename_i e; rw [if_pos e] at hx
        unfold evictD at hc hx
        split at hc
        · exact absurd hc (by decide)
        · rename_i n1; rw [if_neg n1] at hx
          split at hc
          · exact absurd hc (by decide)
          · rename_i n2; rw [if_neg n2] at hx
            split at hc
            · exact absurd hc (by decide)
            · rename_i n3; rw [if_neg n3] at hx
              split at hc
              · exact absurd hc (by decide)
              · rename_i n4; rw [if_neg n4] at hx
                obtain ⟨i, rfl, hi⟩ := index_nat n1
                rw [run_one hx]
                rw [Int.toNat_natCast] at n3
                exact .evict i hi (by omega) (by omega) (Bool.of_not_eq_false n4)
      · rename_i e3; rw [if_neg e3] at hx
        split at hc
        · rename_i e; rw [if_pos e] at hx
          unfold shutD at hc hx
          split at hc
          · rename_i e4
            rw [if_pos e4] at hx
            have := (shut_run h).symm.trans hx
            rw [← Option.some.inj this]
            exact .shut e4
          · exact absurd hc (by decide)
        · rename_i e4; rw [if_neg e4] at hx
          split at hc
          · rename_i e; rw [if_pos e] at hx
            unfold cancelD phaseD at hc hx
            split at hc
            · rename_i e5; rw [if_pos e5] at hx; rw [run_one hx]; exact .cancel (.inr e5)
            · rename_i e5; rw [if_neg e5] at hx
              split at hc
              · rename_i e6; rw [if_pos e6] at hx; rw [run_one hx]; exact .cancel (.inl e6)
              · exact absurd hc (by decide)
          · rename_i e5; rw [if_neg e5] at hx
            split at hc
            · rename_i e; rw [if_pos e] at hx
              unfold lockD at hc hx
              split at hc
              · exact absurd hc (by decide)
              · rename_i n1; rw [if_neg n1] at hx
                split at hc
                · exact absurd hc (by decide)
                · rename_i n2; rw [if_neg n2] at hx
                  split at hc
                  · exact absurd hc (by decide)
                  · rename_i n3; rw [if_neg n3] at hx
                    rw [run_one hx]
                    exact .lock a (by omega)
            · rename_i e6; rw [if_neg e6] at hx
              split at hc
              · rename_i e; rw [if_pos e] at hx
                unfold unlockD at hc hx
                split at hc
                · exact absurd hc (by decide)
                · rename_i n1; rw [if_neg n1] at hx
                  split at hc
                  · exact absurd hc (by decide)
                  · rename_i n2; rw [if_neg n2] at hx
                    rw [run_one hx]
                    exact .unlock a
              · rename_i e7; rw [if_neg e7] at hx
                split at hc
                · rename_i e; rw [if_pos e] at hx
                  unfold toldD at hc hx
                  split at hc
                  · exact absurd hc (by decide)
                  · rename_i n1; rw [if_neg n1] at hx
                    split at hc
                    · exact absurd hc (by decide)
                    · rename_i n2; rw [if_neg n2] at hx
                      obtain ⟨i, rfl, hi⟩ := index_nat n1
                      rw [Int.toNat_natCast] at n2 hx
                      have ht := told_hook n2
                      rw [run_one hx, ht.2]
                      exact .hook i hi ht.1
                · rename_i e8; rw [if_neg e8] at hx
                  split at hc
                  · rename_i e; rw [if_pos e] at hx
                    unfold toldD at hc hx
                    split at hc
                    · exact absurd hc (by decide)
                    · rename_i n1; rw [if_neg n1] at hx
                      split at hc
                      · exact absurd hc (by decide)
                      · rename_i n2; rw [if_neg n2] at hx
                        obtain ⟨i, rfl, hi⟩ := index_nat n1
                        rw [Int.toNat_natCast] at n2 hx
                        have ht := told_exit n2
                        rw [run_one hx]
                        exact .exit i hi _ ht.1 ht.2
                  · rename_i e9; rw [if_neg e9] at hx
                    split at hc
                    · rename_i e; rw [if_pos e] at hx
                      unfold busyD at hc hx
                      split at hc
                      · exact absurd hc (by decide)
                      · rename_i n1; rw [if_neg n1] at hx
                        split at hc
                        · exact absurd hc (by decide)
                        · rename_i n2; rw [if_neg n2] at hx
                          split at hc
                          · exact absurd hc (by decide)
                          · rename_i n3; rw [if_neg n3] at hx
                            split at hc
                            · exact absurd hc (by decide)
                            · rename_i n4; rw [if_neg n4] at hx
                              obtain ⟨i, rfl, hi⟩ := index_nat n1
                              rw [Int.toNat_natCast] at n4
                              rw [run_one hx]
                              exact .busy i hi b (inB_true.1 (Bool.of_not_eq_false n2)) (by omega) (Bool.of_not_eq_false fun x => n4 (.inl x))
                    · exact absurd hc (by decide)

theorem busy_held {d : PlanD} {s : StD} (h : StOk d s) {i j : Nat} {b : Int} (hi : i < d.n2) : (mntAt (applyR s ⟨3, i, b⟩) j).1 = (mntAt s j).1 := by
  have hl : i < s.mnts.length := by rw [h.nm]; exact hi
  show ((s.mnts.set i ((s.mnts.getD i (false, 0)).1, b)).getD j (false, 0)).1 = (s.mnts.getD j (false, 0)).1
  simp only [List.getD, List.getElem?_set]
  by_cases e : i = j
  · subst e; simp [hl]
  · rw [if_neg e]
theorem holds_busy {d : PlanD} {s : StD} (h : StOk d s) (H : HoldsP d s) {i : Nat} {b : Int} (hi : i < d.n2) : HoldsP d (applyR s ⟨3, i, b⟩) := by
  obtain ⟨h1, h2, h3⟩ := H
  exact ⟨fun j hj hf => h1 j hj (by rw [← busy_held h hi]; exact hf), fun j hj h0 ht => by rw [busy_held h hi]; exact h2 j hj h0 (by rw [← busy_held h hi]; exact ht), fun j hj hf => by rw [busy_held h hi]; exact h3 j hj hf⟩

/-- From the shutting on: whatever else is said, all stays as it should, and no more time is left to go. -/
theorem came_going {d : PlanD} {s x : StD} {n : Int} (G : Going d s) (L : Left d s n) (hx : StOk d x) (C : Came d s x) : Going d x ∧ Left d x n := by
  have hph := G.ph
  have hp := G.ok.plan
  cases C with
  | cordon h => omega
  | drain h => omega
  | evict i hi h hr hm => omega
  | shut h => omega
  | cancel h => omega
  | lock a h => omega
  | unlock a =>
    obtain ⟨h, hph, hs, hla, hea, hde, hho, hdo⟩ := G
    refine ⟨⟨hx, hph, hs, hla, hea, hde, holds_clock hho rfl rfl rfl, hdo⟩, ⟨fun h3 => ?_, L.rel, L.done⟩⟩
    obtain ⟨lw, pw, l0, p0, hlw, hpw, hn⟩ := L.shut h3
    exact ⟨lw, pw, l0, p0, hlw.imp (fun e => by show withoutN s.lks a = []; rw [e]; rfl) id, hpw, hn⟩
  | hook i hi h =>
    refine pod_going G L hi (.inl ⟨h, rfl⟩) fun _ h3 => ?_
    have ha : aliveB (podAt s i).1 = true := by rw [h]; decide
    by_cases e : s.ba < bandOf d i
    · have := G.later h3 i hi e ha
      omega
    · omega
  | exit i hi st h hs =>
    refine pod_going G L hi (.inr ⟨h, hs⟩) fun ha _ => ?_
    rcases hs with rfl | rfl
    · exact absurd ha (by decide)
    · exact absurd ha (by decide)
  | busy i hi b hb h4 hh =>
    obtain ⟨h, hph, hs, hla, hea, hde, hho, hdo⟩ := G
    exact ⟨⟨hx, hph, hs, hla, hea, hde, holds_busy h hho hi, fun h5 => absurd h5 (by show ¬ s.ph = 5; omega)⟩, ⟨L.shut, fun h5 => absurd h5 (by show ¬ s.ph = 4; omega), L.done⟩⟩

/-- Ahead of the shutting: whatever is said but 'shut', it stays so. -/
theorem came_before {d : PlanD} {s x : StD} (B : Before d s) (h2 : s.ph ≤ 2) (hx : StOk d x) (hns : x.ph ≤ 2) (C : Came d s x) : Before d x := by
  obtain ⟨h, hs, hr, hho⟩ := B
  have hp := h.plan
  have hset : ∀ (i : Nat) (st : Int), i < d.n0 → aliveB st = false → StOk d (podS s i st) → Before d (podS s i st) := fun i st hi hst hok => by
    have hd : ∀ j, j < d.n0 → aliveB (podAt (podS s i st) j).1 = true → aliveB (podAt s j).1 = true ∧ podAt (podS s i st) j = podAt s j := fun j hj ha => by
      rw [podAt_set h hi] at ha ⊢
      by_cases e : j = i
      · rw [if_pos e] at ha; rw [hst] at ha; cases ha
      · rw [if_neg e] at ha ⊢; exact ⟨ha, rfl⟩
    refine ⟨hok, fun j hj => ?_, fun j hj ha => ?_, ⟨fun j hj hf => ?_, hho.par, hho.dev⟩⟩
    · rw [podAt_set h hi]
      split
      · exact Int.le_refl _
      · exact hs j hj
    · rw [(hd j hj ha).2]; exact hr j hj (hd j hj ha).1
    · cases hb : aliveB (podAt (podS s i st) (mpod d j)).1
      · rfl
      · have h1 := (hd _ (mount_facts hp hj).1 hb).1
        rw [hho.pod j hj hf] at h1
        cases h1
  cases C with
  | cordon h => exact ⟨hx, hs, hr, holds_clock hho rfl rfl rfl⟩
  | drain h => exact ⟨hx, hs, hr, holds_clock hho rfl rfl rfl⟩
  | evict i hi h hr hm => exact hset i 6 hi (by decide) hx
  | shut h => exact absurd hns (by show ¬ (3 : Int) ≤ 2; decide)
  | cancel h => exact ⟨hx, hs, hr, holds_clock hho rfl rfl rfl⟩
  | lock a h => exact ⟨hx, hs, hr, holds_clock hho rfl rfl rfl⟩
  | unlock a => exact ⟨hx, hs, hr, holds_clock hho rfl rfl rfl⟩
  | hook i hi h =>
    have := hr i hi (by rw [h]; decide)
    omega
  | exit i hi st h hst => exact hset i st hi (by rcases hst with rfl | rfl <;> decide) hx
  | busy i hi b hb h4 hh => exact ⟨hx, hs, hr, holds_busy h hho hi⟩
end Go.Proofs.YtfibgpikjfopgaaGreat
/- Ti -/
set_option linter.unusedVariables false
namespace Go.Proofs.YtfibgpikjfopgaaGreat
open Go.RowKit

def failG (s : StD) (i : Nat) : Option Int := if aliveB (podAt s i).1 then some 5 else none
def looseG (s : StD) (i : Nat) : Option (Bool × Int) := if (mntAt s i).1 then some (false, 0) else none
def emptyG (s : StD) (i : Nat) : Option Unit := if devAt s i then some () else none
def bootL (d : PlanD) (s : StD) (id : Int) : List RecD :=
  ⟨10, id, 0⟩ :: (recsOf d.n0 (failG s) (fun i x => ⟨2, i, x⟩) ++ (recsOf d.n2 (looseG s) mntRec ++ (recsOf d.n3 (emptyG s) (fun i _ => ⟨5, i, 0⟩) ++
    (s.lks.map (fun x => ⟨7, x, 0⟩) ++ ⟨12, 0, 0⟩ :: (if s.ph = 8 then [] else [⟨1, 6, 0⟩])))))
def bootS (d : PlanD) (s : StD) (id : Int) : StD :=
  { s with bo := id, pods := turn s.pods d.n0 (failG s) (fun _ _ x => (x, s.ck)), mnts := turn s.mnts d.n2 (looseG s) (fun _ _ x => x), devs := turn s.devs d.n3 (emptyG s) (fun _ _ _ => false), lks := [], gd := 0, pr := 0, ph := if s.ph = 8 then 8 else 6, co := true }

theorem unlock_mem {x : Int} : ∀ {m l : List Int}, x ∈ m.foldl withoutN l → x ∈ l ∧ x ∉ m
  | [], l, h => ⟨h, by simp⟩
  | y :: m, l, h => by
    have h1 := unlock_mem (m := m) (l := withoutN l y) h
    have h2 := withoutN_mem h1.1
    exact ⟨h2.1, fun hm => by
      rcases List.mem_cons.1 hm with e | e
      · exact h2.2 e
      · exact h1.2 e⟩
theorem unlock_all (l : List Int) : l.foldl withoutN l = [] := by
  refine List.eq_nil_iff_forall_not_mem.2 fun x hx => ?_
  have := unlock_mem hx
  exact this.2 this.1
theorem run_unlocks {d : PlanD} : ∀ (m : List Int) {s : StD}, StOk d s → (∀ x ∈ m, 0 ≤ x ∧ x ≤ 7) → runR d s (m.map fun x => ⟨7, x, 0⟩) = some { s with lks := m.foldl withoutN s.lks }
  | [], s, _, _ => rfl
  | y :: m, s, h, hm => by
    have hy := hm y (by simp)
    have hok : StOk d (applyR s ⟨7, y, 0⟩) := ok_unlock h
    have hg : goodR d s ⟨7, y, 0⟩ = true := goodR_of (by rw [recOkB_true]; simp only []; omega) rfl hok
    rw [List.map_cons, runR, if_pos hg, run_unlocks m hok fun x hx => hm x (by simp [hx])]
    rfl

theorem boot_run {d : PlanD} {s : StD} {id : Int} (h : StOk d s) (hi : 1 ≤ id ∧ id ≤ 1000000) : runR d s (bootL d s id) = some (bootS d s id) := by
  have h1 : StOk d (applyR s ⟨10, id, 0⟩) := ok_boot h (by omega)
  have g1 : goodR d s ⟨10, id, 0⟩ = true := goodR_of (by rw [recOkB_true]; simp only []; omega) rfl h1
  have r2 := run_pods h1 (g := failG s) (fun i x _ hx => by
    unfold failG at hx
    split at hx
    · cases hx; decide
    · cases hx) d.n0 (Nat.le_refl _)
  have h2 := runR_ok h1 r2
  have r3 := run_mnts h2 (g := looseG s) (fun i q _ hq => by
    unfold looseG at hq
    split at hq
    · cases hq; exact ⟨by decide, fun hx => (by cases hx), fun _ => rfl⟩
    · cases hq) d.n2 (Nat.le_refl _)
  have h3 := runR_ok h2 r3
  have r4 := run_devs h3 (g := emptyG s) d.n3 (Nat.le_refl _)
  have h4 := runR_ok h3 r4
  have r5 := run_unlocks s.lks h4 h.lks
  have h5 := runR_ok h4 r5
  have ht := planOk_tries h.plan
  have h6 := ok_probe h5 (a := 0) (b := 0) (by decide) (by omega)
  unfold bootL
  rw [runR, if_pos g1, runR_append, r2, Option.bind_some, runR_append, r3, Option.bind_some, runR_append, r4, Option.bind_some, runR_append, r5, Option.bind_some, runR, if_pos (goodR_of (by decide) rfl h6)]
  by_cases e : s.ph = 8
  · rw [if_pos e]
    have hco : s.co = true := by rw [h.co]; simp [e]
    simp [runR, bootS, applyR, unlock_all, e, hco]
  · rw [if_neg e]
    refine (runR_one (goodR_of (by decide) rfl (ok_phase h6 (by decide)))).trans ?_
    simp [bootS, applyR, unlock_all, e]
theorem boot_ok {d : PlanD} {s : StD} {id : Int} (h : StOk d s) (hi : 1 ≤ id ∧ id ≤ 1000000) : StOk d (bootS d s id) := runR_ok h (boot_run h hi)
/-- Behind it nobody is alive, nothing is held. -/
theorem boot_dead {d : PlanD} {s : StD} {id : Int} (h : StOk d s) {i : Nat} (hi : i < d.n0) : aliveB (podAt (bootS d s id) i).1 = false := by
  have hl : i < s.pods.length := by rw [h.np]; exact hi
  show aliveB ((turn s.pods d.n0 (failG s) (fun _ _ x => (x, s.ck))).getD i (0, 0)).1 = false
  rw [turn_getD hl hi]
  cases ha : aliveB (podAt s i).1
  · have eg : failG s i = none := by simp [failG, ha]
    rw [eg]
    exact ha
  · have eg : failG s i = some 5 := by simp [failG, ha]
    rw [eg]
    show aliveB 5 = false
    decide
theorem boot_held {d : PlanD} {s : StD} {id : Int} (h : StOk d s) (hi : 1 ≤ id ∧ id ≤ 1000000) : heldB (bootS d s id) = false := by
  cases hh : heldB (bootS d s id)
  · rfl
  · rcases (heldB_iff (boot_ok h hi)).1 hh with ⟨i, hi, h1⟩ | ⟨i, hi, h1⟩
    · have hl : i < s.mnts.length := by rw [h.nm]; exact hi
      have h1 : ((turn s.mnts d.n2 (looseG s) (fun _ _ x => x)).getD i (false, 0)).1 = true := h1
      rw [turn_getD hl hi] at h1
      cases ha : (mntAt s i).1
      · have eg : looseG s i = none := by simp [looseG, ha]
        rw [eg] at h1
        exact absurd (show (mntAt s i).1 = true from h1) (by rw [ha]; decide)
      · have eg : looseG s i = some (false, 0) := by simp [looseG, ha]
        rw [eg] at h1
        exact absurd (show false = true from h1) (by decide)
    · have hl : i < s.devs.length := by rw [h.nd]; exact hi
      have h1 : (turn s.devs d.n3 (emptyG s) (fun _ _ _ => false)).getD i false = true := h1
      rw [turn_getD hl hi] at h1
      cases ha : devAt s i
      · have eg : emptyG s i = none := by simp [emptyG, ha]
        rw [eg] at h1
        exact absurd (show devAt s i = true from h1) (by rw [ha]; decide)
      · have eg : emptyG s i = some () := by simp [emptyG, ha]
        rw [eg] at h1
        exact absurd (show false = true from h1) (by decide)

/-- A probe. -/
def probeN (s : StD) (good : Bool) : Int := if good then s.gd + 1 else 0
def probeL (d : PlanD) (s : StD) (good : Bool) : List RecD :=
  ⟨12, probeN s good, s.pr + 1⟩ :: (if d.p ≤ probeN s good then [⟨1, 0, 0⟩] else if d.t ≤ s.pr + 1 then [⟨1, 8, 0⟩] else if s.ph = 6 then [⟨1, 7, 0⟩] else [])
theorem probe_run {d : PlanD} {s : StD} {good : Bool} (h : StOk d s) (ht : s.pr < d.t) : ∃ x, runR d s (probeL d s good) = some x ∧ StOk d x := by
  have hg := h.gd
  have hp := planOk_tries h.plan
  have hn : 0 ≤ probeN s good ∧ probeN s good ≤ s.pr + 1 := by unfold probeN; split <;> omega
  have h1 : StOk d (applyR s ⟨12, probeN s good, s.pr + 1⟩) := ok_probe h hn (by omega)
  have g1 : goodR d s ⟨12, probeN s good, s.pr + 1⟩ = true := goodR_of (by rw [recOkB_true]; simp only []; omega) rfl h1
  unfold probeL
  rw [runR, if_pos g1]
  split
  · exact ⟨_, runR_one (goodR_of (by decide) rfl (ok_idle h1)), ok_idle h1⟩
  · split
    · exact ⟨_, runR_one (goodR_of (by decide) rfl (ok_phase h1 (by decide))), ok_phase h1 (by decide)⟩
    · split
      · exact ⟨_, runR_one (goodR_of (by decide) rfl (ok_phase h1 (by decide))), ok_phase h1 (by decide)⟩
      · exact ⟨_, rfl, h1⟩
end Go.Proofs.YtfibgpikjfopgaaGreat
/- Tm -/
set_option linter.unusedVariables false
namespace Go.Proofs.YtfibgpikjfopgaaGreat
open Go.RowKit

theorem count_flip {P Q : Nat → Bool} {i : Nat} (hP : P i = true) (hQ : Q i = false) (h : ∀ j, j ≠ i → P j = Q j) : ∀ n, (List.range n).countP P = (List.range n).countP Q + if i < n then 1 else 0
  | 0 => by simp
  | n + 1 => by
    have ih := count_flip hP hQ h n
    have e1 : (List.range (n + 1)).countP P = (List.range n).countP P + if P n then 1 else 0 := by rw [List.range_succ, List.countP_append, List.countP_singleton]
    have e2 : (List.range (n + 1)).countP Q = (List.range n).countP Q + if Q n then 1 else 0 := by rw [List.range_succ, List.countP_append, List.countP_singleton]
    rw [e1, e2, ih]
    by_cases e : n = i
    · subst e
      have a1 : (if n < n then 1 else 0) = 0 := if_neg (by omega)
      have a2 : (if n < n + 1 then 1 else 0) = 1 := if_pos (by omega)
      rw [a1, a2, hP, hQ]
      simp
    · rw [h n e]
      have a3 : (if i < n + 1 then 1 else 0) = if i < n then 1 else 0 := by
        by_cases e2 : i < n
        · rw [if_pos e2, if_pos (by omega)]
        · rw [if_neg e2, if_neg (by omega)]
      rw [a3]
      omega
theorem mayEvict_true {d : PlanD} {s : StD} {a : Int} (h : mayEvictB d s a = true) : ∃ i : Nat, a = i ∧ i < d.n0 ∧ s.ph = 2 ∧ (podAt s i).1 = 0 ∧ d.x1 (d.x0 (i * 4)).toNat < healthyN d s (d.x0 (i * 4)) := by
  simp only [mayEvictB, Bool.and_eq_true, decide_eq_true_eq, inB_true] at h
  obtain ⟨⟨⟨h1, h2⟩, h3⟩, h4⟩ := h
  refine ⟨a.toNat, by omega, by omega, h1, h3, h4⟩
/-- Promise 8: behind an eviction that may be there are as many left as must be. -/
theorem evict_left {d : PlanD} {s : StD} {i : Nat} (h : StOk d s) (hi : i < d.n0) (h0 : (podAt s i).1 = 0) (hm : d.x1 (d.x0 (i * 4)).toNat < healthyN d s (d.x0 (i * 4))) :
    goodR d s ⟨2, i, 6⟩ = true ∧ StOk d (applyR s ⟨2, i, 6⟩) ∧ (applyR s ⟨2, i, 6⟩).ph = s.ph ∧ d.x1 (d.x0 (i * 4)).toNat ≤ healthyN d (applyR s ⟨2, i, 6⟩) (d.x0 (i * 4)) := by
  have hl := planOk_lock h.plan
  have hok : StOk d (applyR s ⟨2, i, 6⟩) := ok_pod h (by decide)
  have hn : i < s.pods.length := by rw [h.np]; exact hi
  have hat : ∀ j, podAt (applyR s ⟨2, i, 6⟩) j = if j = i then (6, s.ck) else podAt s j := fun j => by
    simp only [podAt, applyR]
    by_cases e : j = i
    · subst e
      simp [List.getD, hn]
    · simp [List.getD, Ne.symm e, e]
  have hc := count_flip (P := fun j => decide (d.x0 (j * 4) = d.x0 (i * 4)) && decide ((podAt s j).1 = 0)) (Q := fun j => decide (d.x0 (j * 4) = d.x0 (i * 4)) && decide ((podAt (applyR s ⟨2, i, 6⟩) j).1 = 0)) (i := i)
    (by simp [h0]) (by simp [hat]) (fun j hj => by simp [hat, hj]) d.n0
  rw [if_pos hi] at hc
  refine ⟨goodR_of (by rw [recOkB_true]; simp only []; omega) (by simp [thereB, hn]) hok, hok, rfl, ?_⟩
  unfold healthyN at hm ⊢
  omega
end Go.Proofs.YtfibgpikjfopgaaGreat
/- Ua -/
set_option linter.unusedVariables false
namespace Go.Proofs.YtfibgpikjfopgaaGreat
open Go.RowKit

def podCs : List (Int × Int) → List Value
  | [] => []
  | q :: l => .int .i64 q.1 :: .int .i64 q.2 :: podCs l
def mntCs : List (Bool × Int) → List Value
  | [] => []
  | q :: l => .bool q.1 :: .int .i64 q.2 :: mntCs l
def devCs (l : List Bool) : List Value := l.map Value.bool
def lkCs (l : List Int) : List Value := l.map (Value.int .i64)
theorem podCs_len (l : List (Int × Int)) : (podCs l).length = l.length * 2 := by
  induction l with
  | nil => rfl
  | cons q l ih => simp only [podCs, List.length_cons, ih]; omega
theorem mntCs_len (l : List (Bool × Int)) : (mntCs l).length = l.length * 2 := by
  induction l with
  | nil => rfl
  | cons q l ih => simp only [mntCs, List.length_cons, ih]; omega
theorem devCs_len (l : List Bool) : (devCs l).length = l.length * 1 := by simp [devCs]
theorem lkCs_len (l : List Int) : (lkCs l).length = l.length * 1 := by simp [lkCs]
theorem podCs_append (l m : List (Int × Int)) : podCs (l ++ m) = podCs l ++ podCs m := by
  induction l with
  | nil => rfl
  | cons q l ih => simp only [List.cons_append, podCs, ih]
theorem mntCs_append (l m : List (Bool × Int)) : mntCs (l ++ m) = mntCs l ++ mntCs m := by
  induction l with
  | nil => rfl
  | cons q l ih => simp only [List.cons_append, mntCs, ih]
def podA (l : List (Int × Int)) (i : Nat) : Int × Int := l.getD i (0, 0)
def mntA (l : List (Bool × Int)) (i : Nat) : Bool × Int := l.getD i (false, 0)
def devA (l : List Bool) (i : Nat) : Bool := l.getD i false
def lkA (l : List Int) (i : Nat) : Int := l.getD i 0
theorem podCs_at (l : List (Int × Int)) {i : Nat} (hi : i < l.length) : (podCs l)[i * 2]? = some (.int .i64 (podA l i).1) ∧ (podCs l)[i * 2 + 1]? = some (.int .i64 (podA l i).2) := by
  induction l generalizing i with
  | nil => exact absurd hi (Nat.not_lt_zero _)
  | cons q l ih =>
    cases i with
    | zero => exact ⟨rfl, rfl⟩
    | succ i =>
      have := ih (i := i) (by simpa using hi)
      rw [show (i + 1) * 2 = i * 2 + 1 + 1 by omega]
      simpa [podCs, podA] using this
theorem mntCs_at (l : List (Bool × Int)) {i : Nat} (hi : i < l.length) : (mntCs l)[i * 2]? = some (.bool (mntA l i).1) ∧ (mntCs l)[i * 2 + 1]? = some (.int .i64 (mntA l i).2) := by
  induction l generalizing i with
  | nil => exact absurd hi (Nat.not_lt_zero _)
  | cons q l ih =>
    cases i with
    | zero => exact ⟨rfl, rfl⟩
    | succ i =>
      have := ih (i := i) (by simpa using hi)
      rw [show (i + 1) * 2 = i * 2 + 1 + 1 by omega]
      simpa [mntCs, mntA] using this
theorem devCs_at (l : List Bool) {i : Nat} (hi : i < l.length) : (devCs l)[i]? = some (.bool (devA l i)) := by simp [devCs, devA, List.getD, hi]
theorem lkCs_at (l : List Int) {i : Nat} (hi : i < l.length) : (lkCs l)[i]? = some (.int .i64 (lkA l i)) := by simp [lkCs, lkA, List.getD, hi]
theorem podCs_set (l : List (Int × Int)) {i : Nat} (hi : i < l.length) (q : Int × Int) : podCs (l.set i q) = ((podCs l).set (i * 2) (.int .i64 q.1)).set (i * 2 + 1) (.int .i64 q.2) := by
  induction l generalizing i with
  | nil => exact absurd hi (Nat.not_lt_zero _)
  | cons r l ih =>
    cases i with
    | zero => rfl
    | succ i =>
      rw [show (i + 1) * 2 = i * 2 + 1 + 1 by omega]
      simp only [List.set_cons_succ, podCs]
      rw [ih (by simpa using hi)]
theorem mntCs_set (l : List (Bool × Int)) {i : Nat} (hi : i < l.length) (q : Bool × Int) : mntCs (l.set i q) = ((mntCs l).set (i * 2) (.bool q.1)).set (i * 2 + 1) (.int .i64 q.2) := by
  induction l generalizing i with
  | nil => exact absurd hi (Nat.not_lt_zero _)
  | cons r l ih =>
    cases i with
    | zero => rfl
    | succ i =>
      rw [show (i + 1) * 2 = i * 2 + 1 + 1 by omega]
      simp only [List.set_cons_succ, mntCs]
      rw [ih (by simpa using hi)]
theorem devCs_set (l : List Bool) (i : Nat) (q : Bool) : devCs (l.set i q) = (devCs l).set i (.bool q) := by unfold devCs; rw [List.map_set]

/-- The cells of a state. -/
abbrev stC (A0 A1 A2 A3 : Option Addr) (n0 c0 n1 c1 n2 c2 n3 c3 : Nat) (ph : Int) (co : Bool) (ck bo ba lb gd pr : Int) : Array Value :=
  #[.int .i64 ph, .bool co, .int .i64 ck, .int .i64 bo, .int .i64 ba, .int .i64 lb, .slice A0 n0 c0, .slice A1 n1 c1, .slice A2 n2 c2, .slice A3 n3 c3, .int .i64 gd, .int .i64 pr]
/-- A state that can be read below block B. -/
structure IsSt (w : World) (B : Nat) (v : Value) (s : StD) : Prop where
  it : ∃ A0 A1 A2 A3 c0 c1 c2 c3, v = .agg (stC A0 A1 A2 A3 s.pods.length c0 s.mnts.length c1 s.devs.length c2 s.lks.length c3 s.ph s.co s.ck s.bo s.ba s.lb s.gd s.pr) ∧
    SlV w B 2 A0 s.pods.length (podCs s.pods) ∧ SlV w B 2 A1 s.mnts.length (mntCs s.mnts) ∧ SlV w B 1 A2 s.devs.length (devCs s.devs) ∧ SlV w B 1 A3 s.lks.length (lkCs s.lks)
  b0 : s.pods.length ≤ maxLen
  b1 : s.mnts.length ≤ maxLen
  b2 : s.devs.length ≤ maxLen
  b3 : s.lks.length ≤ maxLen
theorem IsSt.below {w w' : World} {B B' : Nat} {v : Value} {s : StD} (h : IsSt w B v s) (hb : Below B' w w') (hB : B ≤ B') : IsSt w' B v s := by
  obtain ⟨⟨A0, A1, A2, A3, c0, c1, c2, c3, hv, h0, h1, h2, h3⟩, b0, b1, b2, b3⟩ := h
  exact ⟨⟨A0, A1, A2, A3, c0, c1, c2, c3, hv, h0.below hb hB, h1.below hb hB, h2.below hb hB, h3.below hb hB⟩, b0, b1, b2, b3⟩
theorem IsSt.more {w : World} {B B' : Nat} {v : Value} {s : StD} (h : IsSt w B v s) (hB : B ≤ B') : IsSt w B' v s := by
  obtain ⟨⟨A0, A1, A2, A3, c0, c1, c2, c3, hv, h0, h1, h2, h3⟩, b0, b1, b2, b3⟩ := h
  exact ⟨⟨A0, A1, A2, A3, c0, c1, c2, c3, hv, h0.more hB, h1.more hB, h2.more hB, h3.more hB⟩, b0, b1, b2, b3⟩
theorem IsSt.go {w w' : World} {v : Value} {s : StD} (h : IsSt w w.heap.size v s) (hb : Below w.heap.size w w') : IsSt w' w'.heap.size v s := (h.below hb (Nat.le_refl _)).more hb.size
/-- A state of the call's own: each list in a block of its own, from block B on. -/
structure OwnSt (w : World) (B : Nat) (v : Value) (s : StD) : Prop where
  it : ∃ v0 v1 v2 v3, v = .agg #[.int .i64 s.ph, .bool s.co, .int .i64 s.ck, .int .i64 s.bo, .int .i64 s.ba, .int .i64 s.lb, v0, v1, v2, v3, .int .i64 s.gd, .int .i64 s.pr] ∧
    w.ownsRow B 74 2 v0 s.pods.length (podCs s.pods) ∧ w.ownsRow B 87 2 v1 s.mnts.length (mntCs s.mnts) ∧
    w.ownsRow B 4 1 v2 s.devs.length (devCs s.devs) ∧ w.ownsRow B 2 1 v3 s.lks.length (lkCs s.lks)
theorem OwnSt.below {w w' : World} {B : Nat} {v : Value} {s : StD} (h : OwnSt w B v s) (hb : Below w.heap.size w w') : OwnSt w' B v s := by
  obtain ⟨v0, v1, v2, v3, hv, h0, h1, h2, h3⟩ := h.it
  exact ⟨v0, v1, v2, v3, hv, ownsRow_below h0 hb, ownsRow_below h1 hb, ownsRow_below h2 hb, ownsRow_below h3 hb⟩
theorem OwnSt.base {w : World} {B B' : Nat} {v : Value} {s : StD} (h : OwnSt w B v s) (hB : B' ≤ B) : OwnSt w B' v s := by
  obtain ⟨v0, v1, v2, v3, hv, h0, h1, h2, h3⟩ := h.it
  exact ⟨v0, v1, v2, v3, hv, ownsRow_base h0 hB, ownsRow_base h1 hB, ownsRow_base h2 hB, ownsRow_base h3 hB⟩
theorem OwnSt.st {w : World} {B : Nat} {v : Value} {s : StD} (h : OwnSt w B v s) : IsSt w w.heap.size v s := by
  obtain ⟨v0, v1, v2, v3, rfl, h0, h1, h2, h3⟩ := h.it
  obtain ⟨A0, c0, g0, rfl, -, -, -, -, -, s0, b0⟩ := open_row h0
  obtain ⟨A1, c1, g1, rfl, -, -, -, -, -, s1, b1⟩ := open_row h1
  obtain ⟨A2, c2, g2, rfl, -, -, -, -, -, s2, b2⟩ := open_row h2
  obtain ⟨A3, c3, g3, rfl, -, -, -, -, -, s3, b3⟩ := open_row h3
  exact ⟨⟨A0, A1, A2, A3, c0, c1, c2, c3, rfl, s0, s1, s2, s3⟩, b0, b1, b2, b3⟩
theorem OwnSt.zero (w : World) (B : Nat) : OwnSt w B (.agg (stC none none none none 0 0 0 0 0 0 0 0 0 false 0 0 0 0 0 0)) zeroS :=
  ⟨_, _, _, _, rfl, World.ownsRow_nil _ _ _ _, World.ownsRow_nil _ _ _ _, World.ownsRow_nil _ _ _ _, World.ownsRow_nil _ _ _ _⟩
end Go.Proofs.YtfibgpikjfopgaaGreat
/- Ub -/
set_option linter.unusedVariables false
namespace Go.Proofs.YtfibgpikjfopgaaGreat
open Go.RowKit

theorem info_podAt : (Tryz.prog.info? 74).map (fun i => (i.zero, i.size, i.bytes)) = some (some (.agg #[.int .i64 0, .int .i64 0]), 2, 16) := by kernel_rfl
theorem info_mountAt : (Tryz.prog.info? 87).map (fun i => (i.zero, i.size, i.bytes)) = some (some (.agg #[.bool false, .int .i64 0]), 2, 16) := by kernel_rfl
theorem info_bool : (Tryz.prog.info? 4).map (fun i => (i.zero, i.size, i.bytes)) = some (some (.bool false), 1, 1) := by kernel_rfl
theorem info_int : (Tryz.prog.info? 2).map (fun i => (i.zero, i.size, i.bytes)) = some (some (.int .i64 0), 1, 8) := by kernel_rfl

end Go.Proofs.YtfibgpikjfopgaaGreat
/- Uc -/
set_option linter.unusedVariables false
namespace Go.Proofs.YtfibgpikjfopgaaGreat
open Go.RowKit

end Go.Proofs.YtfibgpikjfopgaaGreat
/- Ud -/
set_option linter.unusedVariables false
namespace Go.Proofs.YtfibgpikjfopgaaGreat
open Go.RowKit

/-- What is left behind a state. -/
def szS (left : Int) (s : StD) : Int := if (s.pods.length + s.mnts.length + s.devs.length + s.lks.length : Nat) ≤ left then left - (s.pods.length + s.mnts.length + s.devs.length + s.lks.length : Nat) else -1
/-- A state of new memory, all lists in blocks of their own. -/
structure NewSt (w w' : World) (s : StD) (g0 g1 g2 g3 : Nat) : Prop where
  l0 : w.heap.size ≤ g0
  l1 : g0 < g1
  l2 : g1 < g2
  l3 : g2 < g3
  l4 : g3 < w'.heap.size
  R0 : RowV w' g0 (podCs s.pods)
  R1 : RowV w' g1 (mntCs s.mnts)
  R2 : RowV w' g2 (devCs s.devs)
  R3 : RowV w' g3 (lkCs s.lks)
abbrev newStV (s : StD) (g0 g1 g2 g3 : Nat) : Value := .agg (stC (some ⟨g0, 0, none⟩) (some ⟨g1, 0, none⟩) (some ⟨g2, 0, none⟩) (some ⟨g3, 0, none⟩) s.pods.length s.pods.length s.mnts.length s.mnts.length s.devs.length s.devs.length s.lks.length s.lks.length s.ph s.co s.ck s.bo s.ba s.lb s.gd s.pr)
def MadeSt (w : World) (s : StD) (e : Ending) (w' : World) : Prop :=
  ∃ g0 g1 g2 g3, e = .returned (newStV s g0 g1 g2 g3) ∧ NewSt w w' s g0 g1 g2 g3 ∧ Below w.heap.size w w'
/-- How many cells a state's lists are at most. -/
structure StFits (s : StD) (m : Nat) : Prop where
  f0 : s.pods.length ≤ m
  f1 : s.mnts.length ≤ m
  f2 : s.devs.length ≤ m
  f3 : s.lks.length ≤ m
theorem NewSt.is {w w' : World} {s : StD} {g0 g1 g2 g3 : Nat} (h : NewSt w w' s g0 g1 g2 g3) (hf : StFits s 1048576) : IsSt w' w'.heap.size (newStV s g0 g1 g2 g3) s := by
  obtain ⟨l0, l1, l2, l3, l4, R0, R1, R2, R3⟩ := h
  obtain ⟨f0, f1, f2, f3⟩ := hf
  have hm : 1048576 ≤ maxLen := by unfold maxLen; decide
  exact ⟨⟨_, _, _, _, _, _, _, _, rfl, R0.slv (podCs_len _) (by omega), R1.slv (mntCs_len _) (by omega), R2.slv (devCs_len _) (by omega), R3.slv (lkCs_len _) (by omega)⟩, by omega, by omega, by omega, by omega⟩

end Go.Proofs.YtfibgpikjfopgaaGreat
/- Ue -/
set_option linter.unusedVariables false
namespace Go.Proofs.YtfibgpikjfopgaaGreat
open Go.RowKit

def m3 (k : Int) : Bool := k % 3 == 0
def mkPods (k : Int) (n : Nat) : List (Int × Int) := (List.range n).map fun (i : Nat) => (k + 2 * i, k + 2 * i + 1)
def mkMnts (k : Int) (n : Nat) : List (Bool × Int) := (List.range n).map fun (i : Nat) => (m3 (k + 2 * i), k + 2 * i + 1)
def mkDevs (k : Int) (n : Nat) : List Bool := (List.range n).map fun (i : Nat) => m3 (k + i)
def mkLks (k : Int) (n : Nat) : List Int := (List.range n).map fun (i : Nat) => k + i
theorem mkPods_len (k : Int) (n : Nat) : (mkPods k n).length = n := by simp [mkPods]
theorem mkMnts_len (k : Int) (n : Nat) : (mkMnts k n).length = n := by simp [mkMnts]
theorem mkDevs_len (k : Int) (n : Nat) : (mkDevs k n).length = n := by simp [mkDevs]
theorem mkLks_len (k : Int) (n : Nat) : (mkLks k n).length = n := by simp [mkLks]
theorem mkPods_at {k : Int} {n i : Nat} (h : i < n) : podA (mkPods k n) i = (k + 2 * i, k + 2 * i + 1) := by simp [podA, mkPods, List.getD, h]
theorem mkMnts_at {k : Int} {n i : Nat} (h : i < n) : mntA (mkMnts k n) i = (m3 (k + 2 * i), k + 2 * i + 1) := by simp [mntA, mkMnts, List.getD, h]
theorem mkDevs_at {k : Int} {n i : Nat} (h : i < n) : devA (mkDevs k n) i = m3 (k + i) := by simp [devA, mkDevs, List.getD, h]
theorem mkLks_at {k : Int} {n i : Nat} (h : i < n) : lkA (mkLks k n) i = k + i := by simp [lkA, mkLks, List.getD, h]
theorem lkCs_set (l : List Int) (i : Nat) (q : Int) : lkCs (l.set i q) = (lkCs l).set i (.int .i64 q) := by unfold lkCs; rw [List.map_set]
theorem getD_set_ {α : Type} (l : List α) (d x : α) (i j : Nat) (hi : i < l.length) : (l.set i x).getD j d = if j = i then x else l.getD j d := by
  simp only [List.getD]
  by_cases e : j = i
  · subst e
    simp [hi]
  · rw [if_neg e, List.getElem?_set_ne (fun h => e h.symm)]
theorem ext_getD {α : Type} {l m : List α} (d : α) (h : l.length = m.length) (e : ∀ j, j < l.length → l.getD j d = m.getD j d) : l = m := by
  refine List.ext_getElem h fun j hj hj' => ?_
  have := e j hj
  simpa [List.getD, hj, hj'] using this

end Go.Proofs.YtfibgpikjfopgaaGreat
/- Uf -/
set_option linter.unusedVariables false
namespace Go.Proofs.YtfibgpikjfopgaaGreat
open Go.RowKit

theorem RowV.keepsC {S : Nat → Prop} {w w' : World} {g : Nat} {xs : List Value} (h : RowV w g xs) (k : Keeps S w w') (hg : 0 < xs.length → g < w.heap.size) (hn : ¬ S g) : RowV w' g xs := fun j hj => RowV.keeps h k (hg (by omega)) hn j hj
/-- A state whose four lists lie in blocks of their own, all writable. -/
structure Rows4 (w : World) (v : Value) (s : StD) (g0 g1 g2 g3 : Nat) : Prop where
  val : ∃ A0 A1 A2 A3 c0 c1 c2 c3, v = .agg (stC A0 A1 A2 A3 s.pods.length c0 s.mnts.length c1 s.devs.length c2 s.lks.length c3 s.ph s.co s.ck s.bo s.ba s.lb s.gd s.pr) ∧
    (0 < s.pods.length → A0 = some ⟨g0, 0, none⟩) ∧ (0 < s.mnts.length → A1 = some ⟨g1, 0, none⟩) ∧ (0 < s.devs.length → A2 = some ⟨g2, 0, none⟩) ∧ (0 < s.lks.length → A3 = some ⟨g3, 0, none⟩)
  z0 : 0 < s.pods.length → g0 < w.heap.size
  R0 : RowV w g0 (podCs s.pods)
  z1 : 0 < s.mnts.length → g1 < w.heap.size
  R1 : RowV w g1 (mntCs s.mnts)
  z2 : 0 < s.devs.length → g2 < w.heap.size
  R2 : RowV w g2 (devCs s.devs)
  z3 : 0 < s.lks.length → g3 < w.heap.size
  R3 : RowV w g3 (lkCs s.lks)
  d01 : g0 ≠ g1
  d02 : g0 ≠ g2
  d03 : g0 ≠ g3
  d12 : g1 ≠ g2
  d13 : g1 ≠ g3
  d23 : g2 ≠ g3
theorem NewSt.rows {w w' : World} {s : StD} {g0 g1 g2 g3 : Nat} (h : NewSt w w' s g0 g1 g2 g3) : Rows4 w' (newStV s g0 g1 g2 g3) s g0 g1 g2 g3 := by
  obtain ⟨l0, l1, l2, l3, l4, R0, R1, R2, R3⟩ := h
  exact { val := ⟨_, _, _, _, _, _, _, _, rfl, fun _ => rfl, fun _ => rfl, fun _ => rfl, fun _ => rfl⟩, z0 := fun _ => by omega, z1 := fun _ => by omega, z2 := fun _ => by omega, z3 := fun _ => by omega, R0 := R0, R1 := R1, R2 := R2, R3 := R3, d01 := by omega, d02 := by omega, d03 := by omega, d12 := by omega, d13 := by omega, d23 := by omega }
theorem row_type {w : World} {B B' e e' k k' n n' g : Nat} {v v' : Value} {xs xs' : List Value} (h : w.ownsRow B e k v n xs) (h' : w.ownsRow B' e' k' v' n' xs') (hv : v.ownBlock = some g) (hv' : v'.ownBlock = some g) : e = e' := by
  rcases h.2 with ⟨rfl, _⟩ | ⟨g1, c1, cur1, rfl, _, hh1, _⟩
  · simp [Value.ownBlock] at hv
  · rcases h'.2 with ⟨rfl, _⟩ | ⟨g2, c2, cur2, rfl, _, hh2, _⟩
    · simp [Value.ownBlock] at hv'
    · obtain rfl : g1 = g := by simpa [Value.ownBlock] using hv
      obtain rfl : g2 = g1 := by simpa [Value.ownBlock] using hv'
      rw [hh1] at hh2
      injection hh2 with hh2
      injection hh2 with _ h2 _
/-- A row of the call's own, its block named; a number of choice where it has none. -/
theorem row_named {w : World} {B e k n : Nat} {v : Value} {xs : List Value} (h : w.ownsRow B e k v n xs) (hB : B ≤ w.heap.size) (m : Nat) (hm : w.heap.size ≤ m) :
    ∃ A c g, v = .slice A n c ∧ (0 < n → A = some ⟨g, 0, none⟩) ∧ B ≤ g ∧ (0 < n → g < w.heap.size) ∧ RowV w g xs ∧ ((v.ownBlock = some g ∧ g < w.heap.size) ∨ g = m) := by
  obtain ⟨A, c, g, hv, hA, hnc, hb, hg, hR, hS, hx⟩ := open_row h
  by_cases hn : 0 < n
  · refine ⟨A, c, g, hv, hA, hb, hg, hR, .inl ⟨?_, hg hn⟩⟩
    rw [hv, hA hn]
    rfl
  · refine ⟨A, c, m, hv, fun h => absurd h hn, by omega, fun h => absurd h hn, fun j hj => ?_, .inr rfl⟩
    have := h.1
    obtain rfl : n = 0 := by omega
    omega
theorem OwnSt.rows {w : World} {B : Nat} {v : Value} {s : StD} (h : OwnSt w B v s) (hB : B ≤ w.heap.size) : ∃ g0 g1 g2 g3, Rows4 w v s g0 g1 g2 g3 ∧ B ≤ g0 ∧ B ≤ g1 ∧ B ≤ g2 ∧ B ≤ g3 := by
  obtain ⟨v0, v1, v2, v3, rfl, h0, h1, h2, h3⟩ := h.it
  obtain ⟨A0, c0, g0, e0, a0, b0, z0, R0, o0⟩ := row_named h0 hB (w.heap.size + 0) (by omega)
  obtain ⟨A1, c1, g1, e1, a1, b1, z1, R1, o1⟩ := row_named h1 hB (w.heap.size + 1) (by omega)
  obtain ⟨A2, c2, g2, e2, a2, b2, z2, R2, o2⟩ := row_named h2 hB (w.heap.size + 2) (by omega)
  obtain ⟨A3, c3, g3, e3, a3, b3, z3, R3, o3⟩ := row_named h3 hB (w.heap.size + 3) (by omega)
  have d01 : g0 ≠ g1 := fun e => by
    rcases o0 with ⟨p, q⟩ | p
    · rcases o1 with ⟨p', q'⟩ | p'
      · exact absurd (row_type h0 h1 p (by rw [e]; exact p')) (by decide)
      · omega
    · rcases o1 with ⟨p', q'⟩ | p'
      · omega
      · omega
  have d02 : g0 ≠ g2 := fun e => by
    rcases o0 with ⟨p, q⟩ | p
    · rcases o2 with ⟨p', q'⟩ | p'
      · exact absurd (row_type h0 h2 p (by rw [e]; exact p')) (by decide)
      · omega
    · rcases o2 with ⟨p', q'⟩ | p'
      · omega
      · omega
  have d03 : g0 ≠ g3 := fun e => by
    rcases o0 with ⟨p, q⟩ | p
    · rcases o3 with ⟨p', q'⟩ | p'
      · exact absurd (row_type h0 h3 p (by rw [e]; exact p')) (by decide)
      · omega
    · rcases o3 with ⟨p', q'⟩ | p'
      · omega
      · omega
  have d12 : g1 ≠ g2 := fun e => by
    rcases o1 with ⟨p, q⟩ | p
    · rcases o2 with ⟨p', q'⟩ | p'
      · exact absurd (row_type h1 h2 p (by rw [e]; exact p')) (by decide)
      · omega
    · rcases o2 with ⟨p', q'⟩ | p'
      · omega
      · omega
  have d13 : g1 ≠ g3 := fun e => by
    rcases o1 with ⟨p, q⟩ | p
    · rcases o3 with ⟨p', q'⟩ | p'
      · exact absurd (row_type h1 h3 p (by rw [e]; exact p')) (by decide)
      · omega
    · rcases o3 with ⟨p', q'⟩ | p'
      · omega
      · omega
  have d23 : g2 ≠ g3 := fun e => by
    rcases o2 with ⟨p, q⟩ | p
    · rcases o3 with ⟨p', q'⟩ | p'
      · exact absurd (row_type h2 h3 p (by rw [e]; exact p')) (by decide)
      · omega
    · rcases o3 with ⟨p', q'⟩ | p'
      · omega
      · omega
  subst e0 e1 e2 e3
  exact ⟨g0, g1, g2, g3, { val := ⟨A0, A1, A2, A3, c0, c1, c2, c3, rfl, a0, a1, a2, a3⟩, z0 := z0, z1 := z1, z2 := z2, z3 := z3, R0 := R0, R1 := R1, R2 := R2, R3 := R3, d01 := d01, d02 := d02, d03 := d03, d12 := d12, d13 := d13, d23 := d23 }, b0, b1, b2, b3⟩
theorem keep_none {S : Nat → Prop} {w w' : World} (k : Keeps (· = w.heap.size) w w') : Keeps S w w' := ⟨k.os, k.tape, k.output, k.size, fun b hb _ => k.block b hb (by omega)⟩
theorem rowv_nil (w : World) (g : Nat) : RowV w g [] := fun j hj => by simp at hj
theorem Rows4.go {w w' : World} {v : Value} {s : StD} {g0 g1 g2 g3 : Nat} (h : Rows4 w v s g0 g1 g2 g3) (hb : Below w.heap.size w w') : Rows4 w' v s g0 g1 g2 g3 := by
  obtain ⟨hv, z0, R0, z1, R1, z2, R2, z3, R3, d01, d02, d03, d12, d13, d23⟩ := h
  exact ⟨hv, fun h => Nat.lt_of_lt_of_le (z0 h) hb.size, R0.go (fun h => z0 (by rw [podCs_len] at h; omega)) hb, fun h => Nat.lt_of_lt_of_le (z1 h) hb.size, R1.go (fun h => z1 (by rw [mntCs_len] at h; omega)) hb,
    fun h => Nat.lt_of_lt_of_le (z2 h) hb.size, R2.go (fun h => z2 (by rw [devCs_len] at h; omega)) hb, fun h => Nat.lt_of_lt_of_le (z3 h) hb.size, R3.go (fun h => z3 (by rw [lkCs_len] at h; omega)) hb, d01, d02, d03, d12, d13, d23⟩

/-- How many marks a state takes. -/
def totS (s : StD) : Nat := 2 * s.pods.length + 2 * s.mnts.length + s.devs.length + s.lks.length
/-- A state marked. -/
def markS (k : Int) (s : StD) : StD := { s with
  pods := mkPods k s.pods.length
  mnts := mkMnts (k + 2 * s.pods.length) s.mnts.length
  devs := mkDevs (k + 2 * s.pods.length + 2 * s.mnts.length) s.devs.length
  lks := mkLks (k + 2 * s.pods.length + 2 * s.mnts.length + s.devs.length) s.lks.length }
theorem totS_mark (k : Int) (s : StD) : totS (markS k s) = totS s := by simp [totS, markS, mkPods_len, mkMnts_len, mkDevs_len, mkLks_len]
theorem fits_mark {k : Int} {s : StD} {m : Nat} (h : StFits s m) : StFits (markS k s) m := ⟨by simp [markS, mkPods_len, h.f0], by simp [markS, mkMnts_len, h.f1], by simp [markS, mkDevs_len, h.f2], by simp [markS, mkLks_len, h.f3]⟩
end Go.Proofs.YtfibgpikjfopgaaGreat
/- Um -/
set_option linter.unusedVariables false
namespace Go.Proofs.YtfibgpikjfopgaaGreat
open Go.RowKit

theorem wpList_append_slv {w : World} {ops : Array Oper} {rest : List Oper} {o : Oper} {a : Act} {Q : Exit → Act → World → Prop} (hgd : o.guard = none) (s x : Operand) (t e : TypeId) (i0 : TypeInfo) (z : Value) (k by' : Nat)
    (ho : o.op = .call { callee := .builtin .append, args := #[s, x], argTypes := #[t, t] }) (hu : Tryz.prog.underlying t = some (.slice e)) (hi : Tryz.prog.info? e = some i0) (hz0 : i0.zero = some z) (hz1 : i0.size = k) (hz2 : i0.bytes = by')
    (hzs : z.cells.size = k) (hk : 0 < k) (hby : by' ≤ 1024) (base : Nat) (v : Value) (n : Nat) (xs : List Value) (hs : a.eval s = v) (hown : w.ownsRow base e k v n xs)
    (A : Option Addr) (m c : Nat) (ys : List Value) (hx : a.eval x = .slice A m c) (hr : A = none → c = 0) {B : Nat} (hb : SlV w B k A m ys) (h1 : ∀ u ∈ ys, u.oneCell' = true) (hlen : n + m ≤ 8388608) (hbase : base ≤ w.heap.size)
    (h : ∀ v' w', w'.ownsRow base e k v' (n + m) (xs ++ ys) → w.grownBy w' v.ownBlock → wpList Tryz.prog ops Q rest (a.put o.dst v') w') : wpList Tryz.prog ops Q (o :: rest) a w := by
  cases A with
  | none =>
    obtain rfl := hr rfl
    have hm : m = 0 := by
      rcases Nat.eq_zero_or_pos m with h | hne
      · exact h
      · obtain ⟨b, off, e, _⟩ := hb.it hne
        cases e
    subst hm
    have hys : ys = [] := List.eq_nil_of_length_eq_zero (by rw [hb.len]; simp)
    subst hys
    refine wpList_append_own_none hgd s x t ho base e i0 k hu hi v n xs hs hown hx ?_
    have := h v w (by rw [List.append_nil]; exact hown) ⟨rfl, rfl, rfl, Nat.le_refl _, fun _ _ _ => rfl⟩
    exact this
  | some ad =>
    refine wpList_append_own w hgd s x t ho base e i0 z k by' hu hi hz0 hz1 hz2 hzs hk v n xs hs hown ad m c ys hx hb.len ?_ h1 (by unfold maxLen; omega) ?_ hbase ?_
    · intro j y hy
      have hj : j < ys.length := (List.getElem?_eq_some_iff.1 hy).1
      have hl := hb.len
      have hm : 0 < m := by
        rcases Nat.eq_zero_or_pos m with h | h
        · subst h; omega
        · exact h
      obtain ⟨b, off, e, hb1, q⟩ := hb.it hm
      cases e
      have ha : (⟨b, off, none⟩ : Addr).add j = ⟨b, off + j, none⟩ := by unfold Addr.add; split <;> simp_all
      rw [ha, q j (by omega), hy]
    · have : (n + m) * by' ≤ 8388608 * 1024 := Nat.mul_le_mul hlen hby
      omega
    · intro v' w' h1 h2 _
      exact h v' w' h1 h2

theorem podCs_one (l : List (Int × Int)) : ∀ u ∈ podCs l, u.oneCell' = true := by
  induction l with
  | nil => simp [podCs]
  | cons q l ih =>
    intro u hu
    simp only [podCs, List.mem_cons] at hu
    rcases hu with rfl | rfl | hu
    · rfl
    · rfl
    · exact ih u hu
theorem mntCs_one (l : List (Bool × Int)) : ∀ u ∈ mntCs l, u.oneCell' = true := by
  induction l with
  | nil => simp [mntCs]
  | cons q l ih =>
    intro u hu
    simp only [mntCs, List.mem_cons] at hu
    rcases hu with rfl | rfl | hu
    · rfl
    · rfl
    · exact ih u hu
theorem devCs_one (l : List Bool) : ∀ u ∈ devCs l, u.oneCell' = true := by
  intro u hu
  obtain ⟨b, _, rfl⟩ := List.mem_map.1 hu
  rfl
theorem lkCs_one (l : List Int) : ∀ u ∈ lkCs l, u.oneCell' = true := by
  intro u hu
  obtain ⟨b, _, rfl⟩ := List.mem_map.1 hu
  rfl

theorem infoS_i64 : (Tryz.prog.info? 2).map (fun i => (i.zero, i.size, i.bytes)) = some (some (.int .i64 0), 1, 8) := by kernel_rfl
theorem infoS_bool : (Tryz.prog.info? 4).map (fun i => (i.zero, i.size, i.bytes)) = some (some (.bool false), 1, 1) := by kernel_rfl
theorem infoS_pod : (Tryz.prog.info? 74).map (fun i => (i.zero, i.size, i.bytes)) = some (some (.agg #[.int .i64 0, .int .i64 0]), 2, 16) := by kernel_rfl
theorem infoS_mnt : (Tryz.prog.info? 87).map (fun i => (i.zero, i.size, i.bytes)) = some (some (.agg #[.bool false, .int .i64 0]), 2, 16) := by kernel_rfl

/-- An empty row just made. -/
theorem made_empty (w : World) (B e k : Nat) (hB : B ≤ w.heap.size) : (w.alloc (.cells #[] e)).ownsRow B e k (.slice (some ⟨w.heap.size, 0, none⟩) 0 0) 0 [] := by
  have := World.ownsRow_made (base := w.heap.size) (e := e) (size := k) w #[] 0 (by simp) (Nat.zero_le _) (by simp)
  exact ownsRow_base this hB
/-- A list of cells of the call's own. -/
def MadeL (w : World) (e k n : Nat) (xs : List Value) (en : Ending) (w' : World) : Prop :=
  ∃ v, en = .returned v ∧ w'.ownsRow w.heap.size e k v n xs ∧ Below w.heap.size w w'

set_option maxHeartbeats 1000000 in
theorem l1Copy_any (A : Option Addr) (n c : Nat) (l : List Int) (w : World) (h : SlV w w.heap.size 1 A n (lkCs l)) (hr : A = none → c = 0) (hn : n ≤ 1048576) :
    Calls Tryz.prog 37 #[.slice A n c] w (MadeL w 2 1 n (lkCs l)) := by
  obtain ⟨i0, hi, hz0, hz1, hz2⟩ := info_parts infoS_i64
  have HI := Lib.hid hi
  have HZ0 := Lib.hid hz0
  have HZ1 := Lib.hid hz1
  have HZ2 := Lib.hid hz2
  have H := Lib.hid h
  have HR := Lib.hid hr
  clear hi hz0 hz1 hz2 h hr
  go_enter Tryz.func37, Tryz.ntmps37
  go_wp2_with ((at_builtin; refine wpList_append_slv rfl _ _ 28 2 i0 (.int .i64 0) 1 8 rfl Tryz.underlying28 HI.out HZ0.out HZ1.out HZ2.out rfl (by decide) (by decide) w.heap.size _ 0 [] rfl (made_empty w _ _ _ (Nat.le_refl _)) A n c (lkCs l) rfl HR.out (H.out.below ((Below.refl _ _).alloc (Nat.le_refl _) _) (Nat.le_refl _)) (lkCs_one l) (by omega) (by simp) ?_; intro v' w2 hown hgrow))
  go_ret
  refine ⟨v', rfl, by simpa using hown, ?_⟩
  exact ((Below.refl _ _).alloc (Nat.le_refl _) _).grown hgrow (by simp) fun r hr => ((made_empty w w.heap.size 2 1 (Nat.le_refl _)).lt r hr).1
end Go.Proofs.YtfibgpikjfopgaaGreat
/- Un -/
set_option linter.unusedVariables false
namespace Go.Proofs.YtfibgpikjfopgaaGreat
open Go.RowKit

theorem grown_new {W w2 : World} {e : TypeId} (hg : (W.alloc (.cells #[] e)).grownBy w2 (Value.slice (some ⟨W.heap.size, 0, none⟩) 0 0).ownBlock) : Below W.heap.size W w2 :=
  ((Below.refl _ _).alloc (Nat.le_refl _) _).grown hg (by simp) fun r hr => by
    obtain rfl : W.heap.size = r := by simpa [Value.ownBlock] using hr
    exact Nat.le_refl _

theorem made_at (w : World) (B e k g : Nat) (hg : w.heap.size = g) (hB : B ≤ w.heap.size) : (w.alloc (.cells #[] e)).ownsRow B e k (.slice (some ⟨g, 0, none⟩) 0 0) 0 [] := by
  subst hg
  exact made_empty w B e k hB
theorem grown_at {W w2 : World} {e g : Nat} (hg : W.heap.size = g) (h : (W.alloc (.cells #[] e)).grownBy w2 (Value.slice (some ⟨g, 0, none⟩) 0 0).ownBlock) : Below W.heap.size W w2 := by
  subst hg
  exact grown_new h
theorem le_alloc {W : World} {o : Obj} {n : Nat} (h : n ≤ W.heap.size) : n ≤ (W.alloc o).heap.size := Nat.le_trans h ((Below.refl W.heap.size W).alloc (Nat.le_refl _) o).size

/-- A state that can be read, its lists real slices and small. -/
structure IsStR (w : World) (B : Nat) (v : Value) (s : StD) : Prop where
  it : ∃ A0 A1 A2 A3 c0 c1 c2 c3, v = .agg (stC A0 A1 A2 A3 s.pods.length c0 s.mnts.length c1 s.devs.length c2 s.lks.length c3 s.ph s.co s.ck s.bo s.ba s.lb s.gd s.pr) ∧
    (SlV w B 2 A0 s.pods.length (podCs s.pods) ∧ SlV w B 2 A1 s.mnts.length (mntCs s.mnts) ∧ SlV w B 1 A2 s.devs.length (devCs s.devs) ∧ SlV w B 1 A3 s.lks.length (lkCs s.lks)) ∧
    (A0 = none → c0 = 0) ∧ (A1 = none → c1 = 0) ∧ (A2 = none → c2 = 0) ∧ (A3 = none → c3 = 0)
  fit : StFits s 1048576
theorem IsStR.is {w : World} {B : Nat} {v : Value} {s : StD} (h : IsStR w B v s) : IsSt w B v s := by
  obtain ⟨⟨A0, A1, A2, A3, c0, c1, c2, c3, hv, ⟨h0, h1, h2, h3⟩, -⟩, f0, f1, f2, f3⟩ := h
  have hm : 1048576 ≤ maxLen := by unfold maxLen; decide
  exact ⟨⟨A0, A1, A2, A3, c0, c1, c2, c3, hv, h0, h1, h2, h3⟩, by omega, by omega, by omega, by omega⟩
theorem IsStR.below {w w' : World} {B B' : Nat} {v : Value} {s : StD} (h : IsStR w B v s) (hb : Below B' w w') (hB : B ≤ B') : IsStR w' B v s := by
  obtain ⟨⟨A0, A1, A2, A3, c0, c1, c2, c3, hv, ⟨h0, h1, h2, h3⟩, hr⟩, hf⟩ := h
  exact ⟨⟨A0, A1, A2, A3, c0, c1, c2, c3, hv, ⟨h0.below hb hB, h1.below hb hB, h2.below hb hB, h3.below hb hB⟩, hr⟩, hf⟩
theorem IsStR.more {w : World} {B B' : Nat} {v : Value} {s : StD} (h : IsStR w B v s) (hB : B ≤ B') : IsStR w B' v s := by
  obtain ⟨⟨A0, A1, A2, A3, c0, c1, c2, c3, hv, ⟨h0, h1, h2, h3⟩, hr⟩, hf⟩ := h
  exact ⟨⟨A0, A1, A2, A3, c0, c1, c2, c3, hv, ⟨h0.more hB, h1.more hB, h2.more hB, h3.more hB⟩, hr⟩, hf⟩
theorem IsStR.go {w w' : World} {v : Value} {s : StD} (h : IsStR w w.heap.size v s) (hb : Below w.heap.size w w') : IsStR w' w'.heap.size v s := (h.below hb (Nat.le_refl _)).more hb.size
theorem NewSt.isR {w w' : World} {s : StD} {g0 g1 g2 g3 : Nat} (h : NewSt w w' s g0 g1 g2 g3) (hf : StFits s 1048576) : IsStR w' w'.heap.size (newStV s g0 g1 g2 g3) s := by
  obtain ⟨l0, l1, l2, l3, l4, R0, R1, R2, R3⟩ := h
  exact ⟨⟨_, _, _, _, _, _, _, _, rfl, ⟨R0.slv (podCs_len _) (by omega), R1.slv (mntCs_len _) (by omega), R2.slv (devCs_len _) (by omega), R3.slv (lkCs_len _) (by omega)⟩, (fun h => by cases h), (fun h => by cases h), (fun h => by cases h), (fun h => by cases h)⟩, hf⟩
theorem open_rowR {w : World} {B e k n : Nat} {v : Value} {xs : List Value} (h : w.ownsRow B e k v n xs) : ∃ A c, v = .slice A n c ∧ (A = none → c = 0) ∧ SlV w w.heap.size k A n xs := by
  obtain ⟨A, c, g, hv, -, -, -, -, -, hS, -⟩ := open_row h
  refine ⟨A, c, hv, fun hA => ?_, hS⟩
  rcases h.2 with ⟨h1, h2⟩ | ⟨g', cap, cur, h1, -⟩
  · rw [hv] at h1
    injection h1
  · rw [hv] at h1
    injection h1 with h1 _ _
    rw [hA] at h1
    cases h1
theorem OwnSt.isR {w : World} {B : Nat} {v : Value} {s : StD} (h : OwnSt w B v s) (hf : StFits s 1048576) : IsStR w w.heap.size v s := by
  obtain ⟨v0, v1, v2, v3, rfl, h0, h1, h2, h3⟩ := h.it
  obtain ⟨A0, c0, rfl, r0, s0⟩ := open_rowR h0
  obtain ⟨A1, c1, rfl, r1, s1⟩ := open_rowR h1
  obtain ⟨A2, c2, rfl, r2, s2⟩ := open_rowR h2
  obtain ⟨A3, c3, rfl, r3, s3⟩ := open_rowR h3
  exact ⟨⟨A0, A1, A2, A3, c0, c1, c2, c3, rfl, ⟨s0, s1, s2, s3⟩, r0, r1, r2, r3⟩, hf⟩

/-- What makes a state of the call's own answers. -/
def MadeS (w : World) (s : StD) (e : Ending) (w' : World) : Prop := ∃ v, e = .returned v ∧ OwnSt w' w.heap.size v s ∧ Below w.heap.size w w'

set_option maxRecDepth 4000 in
set_option maxHeartbeats 4000000 in
theorem l5Copy_any (v : Value) (s : StD) (w : World) (h : IsStR w w.heap.size v s) : Calls Tryz.prog 29 #[v] w (MadeS w s) := by
  obtain ⟨⟨A0_, A1_, A2_, A3_, c0, c1, c2, c3, rfl, ⟨s0, s1, s2, s3⟩, r0, r1, r2, r3⟩, f0, f1, f2, f3⟩ := h
  obtain ⟨ph, co, ck, bo, ba, lb, l0, l1, l2, l3, gd, pr⟩ := s
  dsimp only at *
  have S0 := Lib.hid s0
  have S1 := Lib.hid s1
  have S2 := Lib.hid s2
  have S3 := Lib.hid s3
  have R0 := Lib.hid r0
  have R1 := Lib.hid r1
  have R2 := Lib.hid r2
  have R3 := Lib.hid r3
  have F0 := Lib.hid f0
  have F1 := Lib.hid f1
  have F2 := Lib.hid f2
  have F3 := Lib.hid f3
  clear s0 s1 s2 s3 r0 r1 r2 r3 f0 f1 f2 f3
  obtain ⟨i0, hi, hz0, hz1, hz2⟩ := info_parts infoS_pod
  have HI := Lib.hid hi
  have HZ0 := Lib.hid hz0
  have HZ1 := Lib.hid hz1
  have HZ2 := Lib.hid hz2
  clear hi hz0 hz1 hz2
  obtain ⟨i1, hi, hz0, hz1, hz2⟩ := info_parts infoS_mnt
  have GI := Lib.hid hi
  have GZ0 := Lib.hid hz0
  have GZ1 := Lib.hid hz1
  have GZ2 := Lib.hid hz2
  clear hi hz0 hz1 hz2
  obtain ⟨i2, hi, hz0, hz1, hz2⟩ := info_parts infoS_bool
  have DI := Lib.hid hi
  have DZ0 := Lib.hid hz0
  have DZ1 := Lib.hid hz1
  have DZ2 := Lib.hid hz2
  clear hi hz0 hz1 hz2
  have T0 := Two.start w (stC A0_ A1_ A2_ A3_ l0.length c0 l1.length c1 l2.length c2 l3.length c3 ph co ck bo ba lb gd pr) (stC none none none none 0 0 0 0 0 0 0 0 0 false 0 0 0 0 0 0) 38 38
  have HW : Hid (((w.alloc (.cells (stC A0_ A1_ A2_ A3_ l0.length c0 l1.length c1 l2.length c2 l3.length c3 ph co ck bo ba lb gd pr) 38)).alloc (.cells (stC none none none none 0 0 0 0 0 0 0 0 0 false 0 0 0 0 0 0) 38)).heap.size = w.heap.size + 1 + 1) := Lib.hid (by simp)
  go_enter Tryz.func29, Tryz.ntmps29
  go_wp2_with (first
      | (go_at_call 37
         have AS3 := A3.set (Nat.le_refl _) (i := 8) (by simp) (.slice B2 l2.length d2)
         have OS3 := O3.far (p := ⟨w.heap.size, 8, none⟩) (Nat.le_refl _) (by simp) (.slice B2 l2.length d2)
         have HQ30 := Lib.hid (ownsRow_setCell_below (HO20).out (a := ⟨w.heap.size, 8, none⟩) (by simp) (.slice B2 l2.length d2))
         have HQ31 := Lib.hid (ownsRow_setCell_below (HO21).out (a := ⟨w.heap.size, 8, none⟩) (by simp) (.slice B2 l2.length d2))
         have HQ32 := Lib.hid (ownsRow_setCell_below (HO22).out (a := ⟨w.heap.size, 8, none⟩) (by simp) (.slice B2 l2.length d2))
         refine (l1Copy_any A3_ l3.length c3 l3 _ ((S3.out.below AS3.K (Nat.le_refl _)).more AS3.K.size) R3.out F3.out).mono ?_
         rintro e w5 ⟨v3, rfl, hown, K3⟩
         have A4 := AS3.step K3
         have O4 := OS3.step K3
         replace hown := ownsRow_base hown OS3.z
         obtain ⟨B3, d3, rfl, -⟩ := open_rowR hown
         have HO33 := Lib.hid hown
         have HO30 := Lib.hid (ownsRow_below HQ30.out K3)
         have HO31 := Lib.hid (ownsRow_below HQ31.out K3)
         have HO32 := Lib.hid (ownsRow_below HQ32.out K3)
         clear hown K3 hC hF hz AS3 OS3 A3 O3
         have hC := A4.C
         have hF := A4.F
         have hz := A4.z
         have hD := O4.C
         have hG := O4.F)
      | (at_builtin
         have AS2 := A2.set (Nat.le_refl _) (i := 7) (by simp) (.slice B1 l1.length d1)
         have OS2 := O2.far (p := ⟨w.heap.size, 7, none⟩) (Nat.le_refl _) (by simp) (.slice B1 l1.length d1)
         have HQ20 := Lib.hid (ownsRow_setCell_below (HO10).out (a := ⟨w.heap.size, 7, none⟩) (by simp) (.slice B1 l1.length d1))
         have HQ21 := Lib.hid (ownsRow_setCell_below (HO11).out (a := ⟨w.heap.size, 7, none⟩) (by simp) (.slice B1 l1.length d1))
         refine wpList_append_slv rfl _ _ 36 4 i2 (.bool false) 1 1 rfl Tryz.underlying36 DI.out DZ0.out DZ1.out DZ2.out rfl (by decide) (by decide) (w.heap.size + 2) _ 0 [] rfl (made_at _ _ _ _ _ (by simp) OS2.z) A2_ l2.length c2 (devCs l2) rfl R2.out (S2.out.below (AS2.K.alloc AS2.K.size _) (Nat.le_refl _)) (devCs_one l2) (by have := F2.out; omega) (le_alloc OS2.z) ?_
         intro v2 w4 hown hgrow
         have K2 := grown_at (by simp) hgrow
         have A3 := AS2.step K2
         have O3 := OS2.step K2
         replace hown : w4.ownsRow (w.heap.size + 2) 4 1 v2 l2.length (devCs l2) := by simpa using hown
         obtain ⟨B2, d2, rfl, -⟩ := open_rowR hown
         have HO22 := Lib.hid hown
         have HO20 := Lib.hid (ownsRow_below HQ20.out K2)
         have HO21 := Lib.hid (ownsRow_below HQ21.out K2)
         clear hown hgrow K2 hC hF hz AS2 OS2 A2 O2
         have hC := A3.C
         have hF := A3.F
         have hz := A3.z)
      | (at_builtin
         have AS1 := A1.set (Nat.le_refl _) (i := 6) (by simp) (.slice B0 l0.length d0)
         have OS1 := O1.far (p := ⟨w.heap.size, 6, none⟩) (Nat.le_refl _) (by simp) (.slice B0 l0.length d0)
         have HQ10 := Lib.hid (ownsRow_setCell_below (HO00).out (a := ⟨w.heap.size, 6, none⟩) (by simp) (.slice B0 l0.length d0))
         refine wpList_append_slv rfl _ _ 35 87 i1 (.agg #[.bool false, .int .i64 0]) 2 16 rfl Tryz.underlying35 GI.out GZ0.out GZ1.out GZ2.out rfl (by decide) (by decide) (w.heap.size + 2) _ 0 [] rfl (made_at _ _ _ _ _ (by simp) OS1.z) A1_ l1.length c1 (mntCs l1) rfl R1.out (S1.out.below (AS1.K.alloc AS1.K.size _) (Nat.le_refl _)) (mntCs_one l1) (by have := F1.out; omega) (le_alloc OS1.z) ?_
         intro v1 w3 hown hgrow
         have K1 := grown_at (by simp) hgrow
         have A2 := AS1.step K1
         have O2 := OS1.step K1
         replace hown : w3.ownsRow (w.heap.size + 2) 87 2 v1 l1.length (mntCs l1) := by simpa using hown
         obtain ⟨B1, d1, rfl, -⟩ := open_rowR hown
         have HO11 := Lib.hid hown
         have HO10 := Lib.hid (ownsRow_below HQ10.out K1)
         clear hown hgrow K1 hC hF hz AS1 OS1 A1 O1
         have hC := A2.C
         have hF := A2.F
         have hz := A2.z)
      | (at_builtin
         refine wpList_append_slv rfl _ _ 34 74 i0 (.agg #[.int .i64 0, .int .i64 0]) 2 16 rfl Tryz.underlying34 HI.out HZ0.out HZ1.out HZ2.out rfl (by decide) (by decide) (w.heap.size + 2) _ 0 [] rfl (made_at _ _ _ _ _ HW.out T0.O.z) A0_ l0.length c0 (podCs l0) rfl R0.out (S0.out.below (T0.A.K.alloc T0.A.K.size _) (Nat.le_refl _)) (podCs_one l0) (by have := F0.out; omega) (le_alloc T0.O.z) ?_
         intro v0 w2 hown hgrow
         have K0 := grown_at HW.out hgrow
         have A1 := T0.A.step K0
         have O1 := T0.O.step K0
         replace hown : w2.ownsRow (w.heap.size + 2) 74 2 v0 l0.length (podCs l0) := by simpa using hown
         obtain ⟨B0, d0, rfl, -⟩ := open_rowR hown
         have HO00 := Lib.hid hown
         clear hown hgrow K0 T0 HW
         have hC := A1.C
         have hF := A1.F
         have hz := A1.z))
  refine bodyPost_ret (v := .agg (stC B0 B1 B2 B3 l0.length d0 l1.length d1 l2.length d2 l3.length d3 ph co ck bo ba lb gd pr)) ?_ rfl ⟨_, rfl, ⟨_, _, _, _, rfl, ?_, ?_, ?_, ?_⟩, ?_⟩
  · simp [results, Tryz.results29, go_sem, hD]
  · refine ownsRow_base (base := w.heap.size + 2) ?_ (by omega)
    iterate 13 (refine ownsRow_setCell_below ?_ (by simp) _)
    exact HO30.out
  · refine ownsRow_base (base := w.heap.size + 2) ?_ (by omega)
    iterate 13 (refine ownsRow_setCell_below ?_ (by simp) _)
    exact HO31.out
  · refine ownsRow_base (base := w.heap.size + 2) ?_ (by omega)
    iterate 13 (refine ownsRow_setCell_below ?_ (by simp) _)
    exact HO32.out
  · refine ownsRow_base (base := w.heap.size + 2) ?_ (by omega)
    iterate 13 (refine ownsRow_setCell_below ?_ (by simp) _)
    exact HO33.out
  · iterate 13 (refine Below.setCell ?_ (by simp) _)
    exact A4.K
end Go.Proofs.YtfibgpikjfopgaaGreat
/- Up -/
set_option linter.unusedVariables false
namespace Go.Proofs.YtfibgpikjfopgaaGreat
open Go.RowKit

/-- A row of whole numbers of the call's own. -/
def LkR (w : World) (B : Nat) (v : Value) (l : List Int) : Prop := w.ownsRow B 2 1 v l.length (lkCs l)
theorem LkR.push {w' : World} {B : Nat} {v' : Value} {l : List Int} (a : Int) (h' : w'.ownsRow B 2 1 v' (l.length + 1) (lkCs l ++ [.int .i64 a])) : LkR w' B v' (l ++ [a]) := by
  unfold LkR
  rw [List.length_append]
  have : lkCs (l ++ [a]) = lkCs l ++ [.int .i64 a] := by simp [lkCs]
  rw [this]
  exact h'
theorem LkR.lt {w : World} {B : Nat} {v : Value} {l : List Int} (h : LkR w B v l) {r : Nat} (hr : v.ownBlock = some r) : B ≤ r ∧ r < w.heap.size := World.ownsRow.lt h r hr
theorem LkR.empty (w : World) (B : Nat) (hB : B ≤ w.heap.size) : LkR (w.alloc (.cells #[] 2)) B (.slice (some ⟨w.heap.size, 0, none⟩) 0 0) [] := made_empty w B _ _ hB

theorem lk_at {w : World} {B n : Nat} {A : Option Addr} {l : List Int} (h : SlV w B 1 A n (lkCs l)) (hn : l.length = n) {k : Nat} (hk : k < n) : ∃ b off, A = some ⟨b, off, none⟩ ∧ b < B ∧ w.cell? ⟨b, off + k, none⟩ = some (.int .i64 (lkA l k)) := by
  obtain ⟨b, off, e, hb, hc⟩ := h.cell hk
  have := hc 0 (by decide)
  rw [Nat.mul_one, Nat.add_zero] at this
  exact ⟨b, off, e, hb, this.trans (lkCs_at l (by omega))⟩
theorem take_snoc (l : List Int) {k : Nat} (hk : k < l.length) : l.take (k + 1) = l.take k ++ [lkA l k] := by
  rw [List.take_add_one, List.getElem?_eq_getElem hk]
  have : lkA l k = l[k] := by simp [lkA, List.getD, List.getElem?_eq_getElem hk]
  rw [this]
  rfl
theorem without_len (l : List Int) (x : Int) : (withoutN l x).length ≤ l.length := List.length_filter_le _ _

set_option maxRecDepth 4000 in
set_option maxHeartbeats 2000000 in
theorem l6Without_any (A : Option Addr) (n c : Nat) (l : List Int) (x : Int) (w : World) (h : SlV w w.heap.size 1 A n (lkCs l)) (hl : l.length = n) (hn : n ≤ 1048576) :
    Calls Tryz.prog 52 #[.slice A n c, .int .i64 x] w fun e w' => ∃ v, e = .returned v ∧ LkR w' w.heap.size v (withoutN l x) ∧ Below w.heap.size w w' := by
  have H := Lib.hid h
  have HL := Lib.hid hl
  clear h hl
  obtain ⟨i1, hi, hz0, hz1, hz2⟩ := info_parts infoS_i64
  have GI := Lib.hid hi
  have GZ0 := Lib.hid hz0
  have GZ1 := Lib.hid hz1
  have GZ2 := Lib.hid hz2
  clear hi hz0 hz1 hz2
  have hn' : n ≤ 2 ^ 63 - 1 := by omega
  have HOA := Lib.hid (LkR.empty w w.heap.size (Nat.le_refl _))
  have HKA := Lib.hid ((Below.refl w.heap.size w).alloc (Nat.le_refl _) (.cells #[] 2))
  go_enter Tryz.func52, Tryz.ntmps52
  go_wp2_with fail
  go_loopw [5, 6] (fun s5 i wr => ∃ (k : Nat) (m : List Int), k ≤ n ∧ i = .int .i64 k ∧ m = withoutN (l.take k) x ∧ LkR wr w.heap.size s5 m ∧ Below w.heap.size w wr) (fun _ i _ => n - (intOf i).toNat)
  case atStart => exact ⟨0, [], Nat.zero_le _, rfl, rfl, HOA.out, HKA.out⟩
  case round =>
    clear HOA HKA
    obtain ⟨k, m, hk, rfl, hm, O, K⟩ := hrel
    have HM := Lib.hid hm
    have HO := Lib.hid O
    have HK := Lib.hid K
    clear hm O K
    by_cases hlt : k < n
    · obtain ⟨b, off, rfl, hb, q⟩ := lk_at ((H.out.below HK.out (Nat.le_refl _)).more HK.out.size) HL.out hlt
      have hts := take_snoc l (k := k) (by rw [HL.out]; exact hlt)
      have HT := Lib.hid hts
      clear hts
      generalize lkA l k = y at *
      have hs2 := HK.out.size
      have hml : m.length ≤ 1048576 := by
        rw [HM.out]
        refine Nat.le_trans (without_len _ _) ?_
        rw [List.length_take]
        omega
      have h63 : Hid (m.length + 1 ≤ maxLen) := Lib.hid (by unfold maxLen; omega)
      have hby : Hid ((m.length + 1) * 8 ≤ 140737488355328) := Lib.hid (by omega)
      clear hml
      by_cases hyx : y = x
      · subst hyx
        go_wp2
        exact ⟨⟨k + 1, m, by omega, by go_num, by rw [HM.out, HT.out]; simp [withoutN, List.filter_append], HO.out, HK.out⟩, by simp [intOf]; omega⟩
      · go_wp2_with ((at_builtin; refine wpList_append_own _ rfl _ _ 28 rfl _ 2 i1 (.int .i64 0) 1 8 Tryz.underlying28 GI.out GZ0.out GZ1.out GZ2.out rfl (by decide) _ _ _ rfl (ownsRow_below HO.out ((Below.refl _ _).alloc (Nat.le_refl _) _)) ⟨wr.heap.size, 0, none⟩ 1 1 [.int .i64 y] rfl rfl (cell_one_new _ _ _) (fun x hx => by simp at hx; subst hx; rfl) h63.out hby.out (by simp; omega) ?_; intro v' w4 hown' hgrow hnil))
        exact ⟨⟨k + 1, m ++ [y], by omega, by go_num, by rw [HM.out, HT.out]; simp [withoutN, List.filter_append, hyx], LkR.push _ hown', (HK.out.alloc hs2 _).grown hgrow (by simp; omega) fun r hr => (HO.out.lt hr).1⟩, by simp [intOf]; omega⟩
    · obtain rfl : k = n := by omega
      go_wp2
      go_ret
      exact ⟨_, rfl, by rw [← List.take_of_length_le (Nat.le_of_eq HL.out), ← HM.out]; exact HO.out, HK.out⟩
end Go.Proofs.YtfibgpikjfopgaaGreat
/- Uq -/
set_option linter.unusedVariables false
namespace Go.Proofs.YtfibgpikjfopgaaGreat
open Go.RowKit

theorem withN_low {x : Int} {P : List Int} (Q : List Int) (h : ∀ y ∈ P, y < x) : withN x (P ++ Q) = P ++ withN x Q := by
  induction P with
  | nil => rfl
  | cons y P ih =>
    have hy := h y (by simp)
    have e : withN x (y :: (P ++ Q)) = (if x < y then x :: y :: (P ++ Q) else if x = y then y :: (P ++ Q) else y :: withN x (P ++ Q)) := rfl
    show withN x (y :: (P ++ Q)) = _
    rw [e, if_neg (by omega), if_neg (by omega), ih fun z hz => h z (by simp [hz])]
    rfl
theorem withN_hi {x : Int} {P : List Int} (Q : List Int) (h : ∃ y ∈ P, x ≤ y) : withN x (P ++ Q) = withN x P ++ Q := by
  induction P with
  | nil => simp at h
  | cons y P ih =>
    show withN x (y :: (P ++ Q)) = _
    unfold withN
    by_cases h1 : x < y
    · rw [if_pos h1, if_pos h1]; rfl
    · rw [if_neg h1, if_neg h1]
      by_cases h2 : x = y
      · rw [if_pos h2, if_pos h2]; rfl
      · rw [if_neg h2, if_neg h2]
        obtain ⟨z, hz, hx⟩ := h
        rw [ih ⟨z, by
          rcases List.mem_cons.1 hz with rfl | hz
          · omega
          · exact hz, hx⟩]
        rfl
theorem withN_len (x : Int) (l : List Int) : (withN x l).length ≤ l.length + 1 := by
  induction l with
  | nil => simp [withN]
  | cons y l ih =>
    unfold withN
    split
    · simp
    · split
      · simp
      · simpa using ih
/-- What stands in the list that is being made, behind k elements. -/
def putAt (l : List Int) (x : Int) (k : Nat) (put : Bool) (m : List Int) : Prop :=
  if put then (∃ y ∈ l.take k, x ≤ y) ∧ m = withN x (l.take k) else (∀ y ∈ l.take k, y < x) ∧ m = l.take k
theorem putAt.len {l : List Int} {x : Int} {k : Nat} {put : Bool} {m : List Int} (h : putAt l x k put m) : m.length ≤ l.length + 1 := by
  unfold putAt at h
  split at h
  · rw [h.2]
    refine Nat.le_trans (withN_len _ _) ?_
    rw [List.length_take]
    omega
  · rw [h.2, List.length_take]
    omega
theorem putAt.low {l : List Int} {x y : Int} {k : Nat} {m : List Int} (h : putAt l x k false m) (ht : l.take (k + 1) = l.take k ++ [y]) (hy : y < x) : putAt l x (k + 1) false (m ++ [y]) := by
  obtain ⟨h1, h2⟩ := h
  refine ⟨fun z hz => ?_, by rw [h2, ht]⟩
  rw [ht, List.mem_append] at hz
  rcases hz with hz | hz
  · exact h1 z hz
  · simp at hz; omega
theorem putAt.here {l : List Int} {x y : Int} {k : Nat} {m : List Int} (h : putAt l x k false m) (ht : l.take (k + 1) = l.take k ++ [y]) (hy : x < y) : putAt l x (k + 1) true (m ++ [x] ++ [y]) := by
  obtain ⟨h1, h2⟩ := h
  refine ⟨⟨y, by rw [ht]; simp, by omega⟩, ?_⟩
  rw [ht, withN_low _ h1, h2]
  simp [withN, hy]
theorem putAt.same {l : List Int} {x : Int} {k : Nat} {m : List Int} (h : putAt l x k false m) (ht : l.take (k + 1) = l.take k ++ [x]) : putAt l x (k + 1) true (m ++ [x]) := by
  obtain ⟨h1, h2⟩ := h
  refine ⟨⟨x, by rw [ht]; simp, by omega⟩, ?_⟩
  rw [ht, withN_low _ h1, h2]
  simp [withN]
theorem putAt.more {l : List Int} {x y : Int} {k : Nat} {m : List Int} (h : putAt l x k true m) (ht : l.take (k + 1) = l.take k ++ [y]) : putAt l x (k + 1) true (m ++ [y]) := by
  obtain ⟨⟨z, hz, hx⟩, h2⟩ := h
  refine ⟨⟨z, by rw [ht]; simp [hz], hx⟩, ?_⟩
  rw [ht, withN_hi _ ⟨z, hz, hx⟩, h2]
theorem putAt.above {l : List Int} {x y : Int} {k : Nat} {m : List Int} (h : putAt l x k true m) (ht : l.take (k + 1) = l.take k ++ [y]) (hr : l.Pairwise (· < ·)) : x < y := by
  obtain ⟨⟨z, hz, hx⟩, -⟩ := h
  have h1 : (l.take (k + 1)).Pairwise (· < ·) := hr.sublist (List.take_sublist _ _)
  rw [ht, List.pairwise_append] at h1
  have := h1.2.2 z hz y (by simp)
  omega

set_option maxRecDepth 4000 in
set_option maxHeartbeats 4000000 in
theorem l6With_any (A : Option Addr) (n c : Nat) (l : List Int) (x : Int) (w : World) (h : SlV w w.heap.size 1 A n (lkCs l)) (hl : l.length = n) (hn : n ≤ 1048576) (hr : l.Pairwise (· < ·)) :
    Calls Tryz.prog 51 #[.slice A n c, .int .i64 x] w fun e w' => ∃ v, e = .returned v ∧ LkR w' w.heap.size v (withN x l) ∧ Below w.heap.size w w' := by
  have H := Lib.hid h
  have HL := Lib.hid hl
  have HR := Lib.hid hr
  clear h hl hr
  obtain ⟨i1, hi, hz0, hz1, hz2⟩ := info_parts infoS_i64
  have GI := Lib.hid hi
  have GZ0 := Lib.hid hz0
  have GZ1 := Lib.hid hz1
  have GZ2 := Lib.hid hz2
  clear hi hz0 hz1 hz2
  have hn' : n ≤ 2 ^ 63 - 1 := by omega
  have HOA := Lib.hid (LkR.empty w w.heap.size (Nat.le_refl _))
  have HKA := Lib.hid ((Below.refl w.heap.size w).alloc (Nat.le_refl _) (.cells #[] 2))
  go_enter Tryz.func51, Tryz.ntmps51
  go_wp2_with fail
  go_loopw [5, 6, 7] (fun s5 s6 i wr => ∃ (k : Nat) (put : Bool) (m : List Int), k ≤ n ∧ s6 = .bool put ∧ i = .int .i64 k ∧ putAt l x k put m ∧ LkR wr w.heap.size s5 m ∧ Below w.heap.size w wr) (fun _ _ i _ => n - (intOf i).toNat)
  case atStart => exact ⟨0, false, [], Nat.zero_le _, rfl, rfl, ⟨by simp, rfl⟩, HOA.out, HKA.out⟩
  case round =>
    clear HOA HKA
    obtain ⟨k, put, m, hk, rfl, rfl, hm, O, K⟩ := hrel
    have HM := Lib.hid hm
    have HO := Lib.hid O
    have HK := Lib.hid K
    have hml := hm.len
    rw [HL.out] at hml
    have h63 : Hid (m.length + 1 ≤ maxLen) := Lib.hid (by unfold maxLen; omega)
    have hby : Hid ((m.length + 1) * 8 ≤ 140737488355328) := Lib.hid (by omega)
    have h64 : Hid ((m ++ [x]).length + 1 ≤ maxLen) := Lib.hid (by rw [List.length_append, List.length_singleton]; unfold maxLen; omega)
    have hbz : Hid (((m ++ [x]).length + 1) * 8 ≤ 140737488355328) := Lib.hid (by rw [List.length_append, List.length_singleton]; omega)
    clear hm O K hml
    have hs2 := HK.out.size
    by_cases hlt : k < n
    · obtain ⟨b, off, rfl, hb, q0⟩ := lk_at H.out HL.out hlt
      have HQ : Hid (∀ W : World, Below w.heap.size w W → W.cell? ⟨b, off + k, none⟩ = some (.int .i64 (lkA l k))) := Lib.hid fun W K => (K.cell (p := ⟨b, off + k, none⟩) hb).trans q0
      have q := HQ.out _ HK.out
      clear q0
      have hts := take_snoc l (k := k) (by rw [HL.out]; exact hlt)
      have HT := Lib.hid hts
      clear hts
      generalize lkA l k = y at *
      cases put
      · by_cases hxy : x ≤ y
        · by_cases hyx : y = x
          · subst hyx
            go_wp2_with ((at_builtin; refine wpList_append_own _ rfl _ _ 28 rfl _ 2 i1 (.int .i64 0) 1 8 Tryz.underlying28 GI.out GZ0.out GZ1.out GZ2.out rfl (by decide) _ _ _ rfl (ownsRow_below HO.out ((Below.refl _ _).alloc (Nat.le_refl _) _)) ⟨wr.heap.size, 0, none⟩ 1 1 [.int .i64 y] rfl rfl (cell_one_new _ _ _) (fun x hx => by simp at hx; subst hx; rfl) h63.out hby.out (by simp; omega) ?_; intro v' w4 hown' hgrow hnil; have q2 := HQ.out _ ((HK.out.alloc hs2 _).grown hgrow (by simp; omega) fun r hr => (HO.out.lt hr).1); have HG := Lib.hid hgrow; have HO4 := Lib.hid hown'; clear hgrow hnil hown'))
            exact ⟨⟨k + 1, true, m ++ [y], by omega, rfl, by go_num, HM.out.same HT.out, LkR.push _ HO4.out, (HK.out.alloc hs2 _).grown HG.out (by simp; omega) fun r hr => (HO.out.lt hr).1⟩, by simp [intOf]; omega⟩
          · go_wp2_with (first | (at_builtin; have hq := HO1; clear hq; refine wpList_append_own _ rfl _ _ 28 rfl _ 2 i1 (.int .i64 0) 1 8 Tryz.underlying28 GI.out GZ0.out GZ1.out GZ2.out rfl (by decide) _ _ _ rfl (ownsRow_below HO1.out ((Below.refl _ _).alloc (Nat.le_refl _) _)) ⟨w3.heap.size, 0, none⟩ 1 1 [.int .i64 y] rfl rfl (cell_one_new _ _ _) (fun x hx => by simp at hx; subst hx; rfl) h64.out hbz.out (by simp; omega) ?_; intro v' w4 hown' hgrow hnil; skip) | (at_builtin; refine wpList_append_own _ rfl _ _ 28 rfl _ 2 i1 (.int .i64 0) 1 8 Tryz.underlying28 GI.out GZ0.out GZ1.out GZ2.out rfl (by decide) _ _ _ rfl (ownsRow_below HO.out ((Below.refl _ _).alloc (Nat.le_refl _) _)) ⟨wr.heap.size, 0, none⟩ 1 1 [.int .i64 x] rfl rfl (cell_one_new _ _ _) (fun x hx => by simp at hx; subst hx; rfl) h63.out hby.out (by simp; omega) ?_; intro v1 w3 hown' hgrow hnil; have HO1 := Lib.hid (LkR.push _ hown'); have HK1 := Lib.hid ((HK.out.alloc hs2 _).grown hgrow (by simp; omega) fun r hr => (HO.out.lt hr).1); clear hown' hgrow hnil; have hs3 := HK1.out.size; have q2 := HQ.out _ HK1.out))
            exact ⟨⟨k + 1, true, m ++ [x] ++ [y], by omega, rfl, by go_num, HM.out.here HT.out (by omega), LkR.push _ hown', (HK1.out.alloc hs3 _).grown hgrow (by simp; omega) fun r hr => (HO1.out.lt hr).1⟩, by simp [intOf]; omega⟩
        · go_wp2_with ((at_builtin; refine wpList_append_own _ rfl _ _ 28 rfl _ 2 i1 (.int .i64 0) 1 8 Tryz.underlying28 GI.out GZ0.out GZ1.out GZ2.out rfl (by decide) _ _ _ rfl (ownsRow_below HO.out ((Below.refl _ _).alloc (Nat.le_refl _) _)) ⟨wr.heap.size, 0, none⟩ 1 1 [.int .i64 y] rfl rfl (cell_one_new _ _ _) (fun x hx => by simp at hx; subst hx; rfl) h63.out hby.out (by simp; omega) ?_; intro v' w4 hown' hgrow hnil; skip))
          exact ⟨⟨k + 1, false, m ++ [y], by omega, rfl, by go_num, HM.out.low HT.out (by omega), LkR.push _ hown', (HK.out.alloc hs2 _).grown hgrow (by simp; omega) fun r hr => (HO.out.lt hr).1⟩, by simp [intOf]; omega⟩
      · have hab := HM.out.above HT.out HR.out
        go_wp2_with ((at_builtin; refine wpList_append_own _ rfl _ _ 28 rfl _ 2 i1 (.int .i64 0) 1 8 Tryz.underlying28 GI.out GZ0.out GZ1.out GZ2.out rfl (by decide) _ _ _ rfl (ownsRow_below HO.out ((Below.refl _ _).alloc (Nat.le_refl _) _)) ⟨wr.heap.size, 0, none⟩ 1 1 [.int .i64 y] rfl rfl (cell_one_new _ _ _) (fun x hx => by simp at hx; subst hx; rfl) h63.out hby.out (by simp; omega) ?_; intro v' w4 hown' hgrow hnil; skip))
        exact ⟨⟨k + 1, true, m ++ [y], by omega, rfl, by go_num, HM.out.more HT.out, LkR.push _ hown', (HK.out.alloc hs2 _).grown hgrow (by simp; omega) fun r hr => (HO.out.lt hr).1⟩, by simp [intOf]; omega⟩
    · obtain rfl : k = n := by omega
      have htk : l.take l.length = l := List.take_length
      cases put
      · go_wp2_with ((at_builtin; refine wpList_append_own _ rfl _ _ 28 rfl _ 2 i1 (.int .i64 0) 1 8 Tryz.underlying28 GI.out GZ0.out GZ1.out GZ2.out rfl (by decide) _ _ _ rfl (ownsRow_below HO.out ((Below.refl _ _).alloc (Nat.le_refl _) _)) ⟨wr.heap.size, 0, none⟩ 1 1 [.int .i64 x] rfl rfl (cell_one_new _ _ _) (fun x hx => by simp at hx; subst hx; rfl) h63.out hby.out (by simp; omega) ?_; intro v' w4 hown' hgrow hnil; skip))
        go_ret
        exact ⟨_, rfl, by
          have h := HM.out
          rw [← HL.out] at h
          have h1 := h.1
          have h2 := h.2
          rw [htk] at h1 h2
          have := withN_low (x := x) [] h1
          rw [List.append_nil] at this
          rw [this, ← h2]
          exact LkR.push _ hown', (HK.out.alloc hs2 _).grown hgrow (by simp; omega) fun r hr => (HO.out.lt hr).1⟩
      · go_wp2
        go_ret
        exact ⟨_, rfl, by
          have h := HM.out
          rw [← HL.out] at h
          have h2 := h.2
          rw [htk] at h2
          rw [← h2]
          exact HO.out, HK.out⟩
end Go.Proofs.YtfibgpikjfopgaaGreat
