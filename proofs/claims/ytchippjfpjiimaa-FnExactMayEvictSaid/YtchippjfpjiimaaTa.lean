/-
  States as data: what chapters 5 to 7 ask; what one record makes of a state; when a state stays right.
-/
import Derived.Test.YtchippjfpjiimaaQa
import Derived.Test.YtchippjfpjiimaaRa
set_option linter.unusedVariables false
namespace Go.Proofs.Ytchippjfpjiimaa
open Go.RowKit

structure StD where
  ph : Int
  co : Bool
  ck : Int
  bo : Int
  ba : Int
  lb : Int
  pods : List (Int × Int)
  mnts : List (Bool × Int)
  devs : List Bool
  lks : List Int
  gd : Int
  pr : Int
deriving DecidableEq

def zeroS : StD := ⟨0, false, 0, 0, 0, 0, [], [], [], [], 0, 0⟩

/-- A state is right. -/
structure StOk (d : PlanD) (s : StD) : Prop where
  plan : planOkB d = true
  ph : 0 ≤ s.ph ∧ s.ph ≤ 8
  co : s.co = decide (s.ph ≠ 0)
  ck : 0 ≤ s.ck ∧ s.ck ≤ 1000000
  bo : 0 ≤ s.bo ∧ s.bo ≤ 1000000
  ba : 0 ≤ s.ba ∧ s.ba ≤ 6
  lb : 0 ≤ s.lb ∧ s.lb ≤ 1000000
  gd : 0 ≤ s.gd ∧ s.gd ≤ s.pr
  pr : s.pr ≤ d.t
  np : s.pods.length = d.n0
  nm : s.mnts.length = d.n2
  nd : s.devs.length = d.n3
  pods : ∀ q ∈ s.pods, (0 ≤ q.1 ∧ q.1 ≤ 6) ∧ (0 ≤ q.2 ∧ q.2 ≤ 1000000)
  mnts : ∀ q ∈ s.mnts, (0 ≤ q.2 ∧ q.2 ≤ 5) ∧ (q.1 = false → q.2 = 0)
  lks : ∀ x ∈ s.lks, 0 ≤ x ∧ x ≤ 7
  rise : s.lks.Pairwise (· < ·)

def stOkB (d : PlanD) (s : StD) : Bool :=
  planOkB d && inB s.ph 0 8 && (s.co == decide (s.ph ≠ 0)) && inB s.ck 0 1000000 && inB s.bo 0 1000000 && inB s.ba 0 6 && inB s.lb 0 1000000 && inB s.gd 0 s.pr && decide (s.pr ≤ d.t) &&
  decide (s.pods.length = d.n0) && decide (s.mnts.length = d.n2) && decide (s.devs.length = d.n3) &&
  s.pods.all (fun q => inB q.1 0 6 && inB q.2 0 1000000) && s.mnts.all (fun q => inB q.2 0 5 && (q.1 || q.2 == 0)) && s.lks.all (fun x => inB x 0 7) && decide (s.lks.Pairwise (· < ·))
theorem stOkB_iff {d : PlanD} {s : StD} : stOkB d s = true ↔ StOk d s := by
  simp only [stOkB, Bool.and_eq_true, inB_true, beq_iff_eq, decide_eq_true_eq, List.all_eq_true, Bool.or_eq_true]
  constructor
  · rintro ⟨⟨⟨⟨⟨⟨⟨⟨⟨⟨⟨⟨⟨⟨⟨h1, h2⟩, h3⟩, h4⟩, h5⟩, h6⟩, h7⟩, h8⟩, h9⟩, h10⟩, h11⟩, h12⟩, h13⟩, h14⟩, h15⟩, h16⟩
    exact ⟨h1, h2, h3, h4, h5, h6, h7, h8, h9, h10, h11, h12, h13, fun q hq => ⟨(h14 q hq).1, fun hf => ((h14 q hq).2.resolve_left (by rw [hf]; decide))⟩, h15, h16⟩
  · rintro ⟨h1, h2, h3, h4, h5, h6, h7, h8, h9, h10, h11, h12, h13, h14, h15, h16⟩
    refine ⟨⟨⟨⟨⟨⟨⟨⟨⟨⟨⟨⟨⟨⟨⟨h1, h2⟩, h3⟩, h4⟩, h5⟩, h6⟩, h7⟩, h8⟩, h9⟩, h10⟩, h11⟩, h12⟩, h13⟩, fun q hq => ⟨(h14 q hq).1, ?_⟩⟩, h15⟩, h16⟩
    cases hb : q.1
    · exact .inr ((h14 q hq).2 hb)
    · exact .inl rfl

/-- Chapter 5's new state. -/
def newS (d : PlanD) : StD := if planOkB d then { zeroS with pods := List.replicate d.n0 (0, 0), mnts := List.replicate d.n2 (true, 0), devs := List.replicate d.n3 true } else zeroS
theorem planOk_tries {d : PlanD} (h : planOkB d = true) : 1 ≤ d.p ∧ d.p ≤ 9 ∧ d.p ≤ d.t ∧ d.t ≤ 30 := by
  simp only [planOkB, timesB, sizesB, Bool.and_eq_true, inB_true, decide_eq_true_eq] at h
  obtain ⟨⟨⟨⟨⟨h1, h2⟩, -⟩, -⟩, -⟩, -⟩ := h
  omega
theorem newS_ok {d : PlanD} (h : planOkB d = true) : StOk d (newS d) := by
  have := planOk_tries h
  unfold newS
  rw [if_pos h]
  refine ⟨h, ?_, rfl, ?_, ?_, ?_, ?_, ?_, ?_, ?_, ?_, ?_, ?_, ?_, ?_, ?_⟩ <;> simp [zeroS]
  omega

def aliveB (x : Int) : Bool := inB x 0 3
def liveL (s : StD) : List Int := picks s.pods.length (fun i => aliveB (s.pods.getD i (0, 0)).1)

/-- A list that rises, with a number, and without it. -/
def withN (n : Int) : List Int → List Int
  | [] => [n]
  | x :: l => if n < x then n :: x :: l else if n = x then x :: l else x :: withN n l
def withoutN (l : List Int) (n : Int) : List Int := l.filter (fun x => x != n)
theorem withN_mem {n x : Int} {l : List Int} : x ∈ withN n l ↔ x = n ∨ x ∈ l := by
  induction l with
  | nil => simp [withN]
  | cons y l ih =>
    unfold withN
    split
    · simp
    · split
      · rename_i h; subst h; simp
      · simp only [List.mem_cons, ih]
        constructor
        · rintro (h | h | h) <;> simp [h]
        · rintro (h | h | h) <;> simp [h]
theorem withN_rise {n : Int} {l : List Int} (h : l.Pairwise (· < ·)) : (withN n l).Pairwise (· < ·) := by
  induction l with
  | nil => simp [withN]
  | cons y l ih =>
    obtain ⟨h1, h2⟩ := List.pairwise_cons.1 h
    unfold withN
    split
    · rename_i hn
      refine List.pairwise_cons.2 ⟨fun z hz => ?_, h⟩
      rcases List.mem_cons.1 hz with rfl | hz
      · exact hn
      · have := h1 z hz; omega
    · split
      · exact h
      · refine List.pairwise_cons.2 ⟨fun z hz => ?_, ih h2⟩
        rcases withN_mem.1 hz with rfl | hz
        · omega
        · exact h1 z hz
theorem withoutN_mem {n x : Int} {l : List Int} (h : x ∈ withoutN l n) : x ∈ l ∧ x ≠ n := by
  simpa [withoutN] using h
theorem withoutN_rise {n : Int} {l : List Int} (h : l.Pairwise (· < ·)) : (withoutN l n).Pairwise (· < ·) := h.sublist List.filter_sublist

/-- What one record makes of a state. -/
def applyR (s : StD) (r : RecD) : StD :=
  if r.k = 1 then (if r.a = 0 then { s with ph := 0, co := false, gd := 0, pr := 0, lks := [] } else { s with ph := r.a, co := true })
  else if r.k = 2 then { s with pods := s.pods.set r.a.toNat (r.b, s.ck) }
  else if r.k = 3 then { s with mnts := s.mnts.set r.a.toNat ((s.mnts.getD r.a.toNat (false, 0)).1, r.b) }
  else if r.k = 4 then { s with mnts := s.mnts.set r.a.toNat (false, 0) }
  else if r.k = 5 then { s with devs := s.devs.set r.a.toNat false }
  else if r.k = 6 then { s with lks := withN r.a s.lks }
  else if r.k = 7 then { s with lks := withoutN s.lks r.a }
  else if r.k = 8 then { s with ck := r.a }
  else if r.k = 9 then { s with ba := r.a }
  else if r.k = 10 then { s with bo := r.a }
  else if r.k = 11 then { s with lb := r.a }
  else if r.k = 12 then { s with gd := r.a, pr := r.b }
  else s
/-- Is there what a record names? -/
def thereB (s : StD) (r : RecD) : Bool :=
  if r.k = 2 then decide (r.a < s.pods.length) else if r.k = 3 ∨ r.k = 4 then decide (r.a < s.mnts.length) else if r.k = 5 then decide (r.a < s.devs.length) else true

/-- Chapter 6: one record; all of them. -/
def goodR (d : PlanD) (s : StD) (r : RecD) : Bool := recOkB r && thereB s r && stOkB d (applyR s r)
def appliedS (d : PlanD) (s : StD) (r : RecD) : StD × Bool := if stOkB d s then (if goodR d s r then (applyR s r, true) else (s, false)) else (zeroS, false)
def runR (d : PlanD) : StD → List RecD → Option StD
  | s, [] => some s
  | s, r :: l => if goodR d s r then runR d (applyR s r) l else none
def appliedL (d : PlanD) (s : StD) (l : List RecD) : StD × Bool :=
  if stOkB d s then (match runR d s l with | some x => (x, true) | none => (s, false)) else (zeroS, false)
theorem runR_append {d : PlanD} {l m : List RecD} {s : StD} : runR d s (l ++ m) = (runR d s l).bind (fun x => runR d x m) := by
  induction l generalizing s with
  | nil => rfl
  | cons r l ih =>
    simp only [List.cons_append, runR]
    split
    · exact ih
    · rfl
theorem runR_ok {d : PlanD} {l : List RecD} {s x : StD} (h : StOk d s) (hr : runR d s l = some x) : StOk d x := by
  induction l generalizing s with
  | nil => cases hr; exact h
  | cons r l ih =>
    simp only [runR] at hr
    split at hr
    · rename_i hg
      simp only [goodR, Bool.and_eq_true] at hg
      exact ih (stOkB_iff.1 hg.2) hr
    · cases hr

theorem set_all {α : Type} {l : List α} {i : Nat} {x : α} {p : α → Prop} (h : ∀ q ∈ l, p q) (hx : p x) : ∀ q ∈ l.set i x, p q := fun q hq => by
  rcases List.mem_or_eq_of_mem_set hq with h1 | h1
  · exact h q h1
  · subst h1; exact hx

section
variable {d : PlanD} {s : StD} (h : StOk d s)
include h
theorem ok_clock {c : Int} (hc : 0 ≤ c ∧ c ≤ 1000000) : StOk d (applyR s ⟨8, c, 0⟩) := by
  obtain ⟨h1, h2, h3, h4, h5, h6, h7, h8, h9, h10, h11, h12, h13, h14, h15, h16⟩ := h
  exact ⟨h1, h2, h3, hc, h5, h6, h7, h8, h9, h10, h11, h12, h13, h14, h15, h16⟩
theorem ok_band {c : Int} (hc : 0 ≤ c ∧ c ≤ 6) : StOk d (applyR s ⟨9, c, 0⟩) := by
  obtain ⟨h1, h2, h3, h4, h5, h6, h7, h8, h9, h10, h11, h12, h13, h14, h15, h16⟩ := h
  exact ⟨h1, h2, h3, h4, h5, hc, h7, h8, h9, h10, h11, h12, h13, h14, h15, h16⟩
theorem ok_boot {c : Int} (hc : 0 ≤ c ∧ c ≤ 1000000) : StOk d (applyR s ⟨10, c, 0⟩) := by
  obtain ⟨h1, h2, h3, h4, h5, h6, h7, h8, h9, h10, h11, h12, h13, h14, h15, h16⟩ := h
  exact ⟨h1, h2, h3, h4, hc, h6, h7, h8, h9, h10, h11, h12, h13, h14, h15, h16⟩
theorem ok_lockBy {c : Int} (hc : 0 ≤ c ∧ c ≤ 1000000) : StOk d (applyR s ⟨11, c, 0⟩) := by
  obtain ⟨h1, h2, h3, h4, h5, h6, h7, h8, h9, h10, h11, h12, h13, h14, h15, h16⟩ := h
  exact ⟨h1, h2, h3, h4, h5, h6, hc, h8, h9, h10, h11, h12, h13, h14, h15, h16⟩
theorem ok_probe {a b : Int} (ha : 0 ≤ a ∧ a ≤ b) (hb : b ≤ d.t) : StOk d (applyR s ⟨12, a, b⟩) := by
  obtain ⟨h1, h2, h3, h4, h5, h6, h7, h8, h9, h10, h11, h12, h13, h14, h15, h16⟩ := h
  exact ⟨h1, h2, h3, h4, h5, h6, h7, ha, hb, h10, h11, h12, h13, h14, h15, h16⟩
theorem ok_idle {b : Int} : StOk d (applyR s ⟨1, 0, b⟩) := by
  have := planOk_tries h.plan
  obtain ⟨h1, h2, h3, h4, h5, h6, h7, h8, h9, h10, h11, h12, h13, h14, h15, h16⟩ := h
  exact ⟨h1, ⟨Int.le_refl _, show (0 : Int) ≤ 8 by decide⟩, rfl, h4, h5, h6, h7, ⟨Int.le_refl _, Int.le_refl _⟩, show (0 : Int) ≤ d.t by omega, h10, h11, h12, h13, h14, fun x hx => (by cases hx), List.Pairwise.nil⟩
theorem ok_phase {c b : Int} (hc : 1 ≤ c ∧ c ≤ 8) : StOk d (applyR s ⟨1, c, b⟩) := by
  obtain ⟨h1, h2, h3, h4, h5, h6, h7, h8, h9, h10, h11, h12, h13, h14, h15, h16⟩ := h
  have hn : ¬ c = 0 := by omega
  simp only [applyR, if_pos, if_neg hn]
  exact ⟨h1, ⟨by show 0 ≤ c; omega, hc.2⟩, by show true = decide (c ≠ 0); simp [hn], h4, h5, h6, h7, h8, h9, h10, h11, h12, h13, h14, h15, h16⟩
theorem ok_pod {i st : Int} (hs : 0 ≤ st ∧ st ≤ 6) : StOk d (applyR s ⟨2, i, st⟩) := by
  obtain ⟨h1, h2, h3, h4, h5, h6, h7, h8, h9, h10, h11, h12, h13, h14, h15, h16⟩ := h
  exact ⟨h1, h2, h3, h4, h5, h6, h7, h8, h9, by simpa [applyR] using h10, h11, h12, set_all h13 ⟨hs, h4⟩, h14, h15, h16⟩
theorem ok_busy {i n : Int} (hn : 0 ≤ n ∧ n ≤ 5) (hh : (s.mnts.getD i.toNat (false, 0)).1 = true) : StOk d (applyR s ⟨3, i, n⟩) := by
  obtain ⟨h1, h2, h3, h4, h5, h6, h7, h8, h9, h10, h11, h12, h13, h14, h15, h16⟩ := h
  exact ⟨h1, h2, h3, h4, h5, h6, h7, h8, h9, h10, by simpa [applyR] using h11, h12, h13, set_all h14 ⟨hn, fun hf => by rw [hh] at hf; cases hf⟩, h15, h16⟩
theorem ok_free {i b : Int} : StOk d (applyR s ⟨4, i, b⟩) := by
  obtain ⟨h1, h2, h3, h4, h5, h6, h7, h8, h9, h10, h11, h12, h13, h14, h15, h16⟩ := h
  exact ⟨h1, h2, h3, h4, h5, h6, h7, h8, h9, h10, by simpa [applyR] using h11, h12, h13, set_all h14 ⟨⟨Int.le_refl _, by decide⟩, fun _ => rfl⟩, h15, h16⟩
theorem ok_give {i b : Int} : StOk d (applyR s ⟨5, i, b⟩) := by
  obtain ⟨h1, h2, h3, h4, h5, h6, h7, h8, h9, h10, h11, h12, h13, h14, h15, h16⟩ := h
  exact ⟨h1, h2, h3, h4, h5, h6, h7, h8, h9, h10, h11, by simpa [applyR] using h12, h13, h14, h15, h16⟩
theorem ok_lock {x b : Int} (hx : 0 ≤ x ∧ x ≤ 7) : StOk d (applyR s ⟨6, x, b⟩) := by
  obtain ⟨h1, h2, h3, h4, h5, h6, h7, h8, h9, h10, h11, h12, h13, h14, h15, h16⟩ := h
  exact ⟨h1, h2, h3, h4, h5, h6, h7, h8, h9, h10, h11, h12, h13, h14, fun y hy => by
    rcases withN_mem.1 hy with rfl | hy
    · exact hx
    · exact h15 y hy, withN_rise h16⟩
theorem ok_unlock {x b : Int} : StOk d (applyR s ⟨7, x, b⟩) := by
  obtain ⟨h1, h2, h3, h4, h5, h6, h7, h8, h9, h10, h11, h12, h13, h14, h15, h16⟩ := h
  exact ⟨h1, h2, h3, h4, h5, h6, h7, h8, h9, h10, h11, h12, h13, h14, fun y hy => h15 y (withoutN_mem hy).1, withoutN_rise h16⟩
end

/-- Chapter 7. -/
def podStep (hook grace : Int) (q : Int × Int) (clock : Int) : Int :=
  if q.1 = 0 then (if 0 < hook then 1 else 2) else if q.1 = 1 then (if hook ≤ clock - q.2 then 2 else 1) else if q.1 = 2 then (if grace ≤ clock - q.2 then 3 else 2) else if q.1 = 3 then 4 else q.1
def afterHook (x : Int) : Int := if x = 1 then 2 else -1
def afterExit (x : Int) : Int := if x = 0 ∨ x = 1 then 5 else if x = 2 ∨ x = 3 then 4 else -1
end Go.Proofs.Ytchippjfpjiimaa
