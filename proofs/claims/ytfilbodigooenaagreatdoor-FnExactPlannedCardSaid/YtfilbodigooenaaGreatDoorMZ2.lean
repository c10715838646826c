/-
  Budgets as data (chapter 8): who may be evicted is one more than must be left.
-/
import Derived.Test.YtfilbodigooenaaGreatDoorMZ1
import Derived.Test.YtfilbodigooenaaGreatDoorMZ0
import Derived.ProofKit
import Derived.Deep.Slices
import Derived.Deep.Fields
import Derived.ChangeSame
import Derived.JoinedOf
/- Pl -/
set_option linter.unusedVariables false
namespace Go.Proofs.YtfilbodigooenaaGreatDoor
open Go.RowKit

theorem enter_groupOfPod (x y : Value) (wr : World) : (callFunc 183 #[x, y]).run Tryz.prog wr = .ok (.enter 183 #[x, y]) wr := by simp [go_sem]
set_option maxRecDepth 100000 in
set_option maxHeartbeats 1000000 in
theorem implPodsIn_any (v : Value) (d : PlanD) (wanted : Int) (w : World) (h : IsPlan w w.heap.size v d) (hn : d.n0 ≤ 1048576) :
    Calls Tryz.prog 180 #[v, .int .i64 wanted] w (Listed w (found d d.n0 (fun i => d.x0 (i * 4)) wanted)) := by
  have P := Lib.hid h
  obtain ⟨⟨A0, A1, A2, A3, c0, c1, c2, c3, rfl, s0, s1, s2, s3⟩, b0, b1, b2, b3⟩ := h
  have S := Lib.hid s0
  have B := Lib.hid b0
  have HN := Lib.hid hn
  clear s0 s1 s2 s3 b0 b1 b2 b3 hn
  go_enter Tryz.func180, Tryz.ntmps180
  go_wp2_with fail
  have X1 := Own.box w (planC A0 A1 A2 A3 d.n0 c0 d.n1 c1 d.n2 c2 d.n3 c3 d.l d.p d.t) 44
  refine (numbersWith_any _ d _ d.n0 (fun i => d.x0 (i * 4)) wanted _ ((P.out.below X1.K (Nat.le_refl _)).more X1.K.size) HN.out enter_groupOfPod ?_).mono ?_
  · exact fun i hi wr hb => groupOfPod_any A0 A1 A2 A3 d.n0 c0 d.n1 c1 d.n2 c2 d.n3 c3 d.l d.p d.t d.x0 i wr ((S.out.below (X1.K.trans (hb.mono X1.K.size)) (Nat.le_refl _)).more (X1.K.trans (hb.mono X1.K.size)).size) hi B.out
  · intro e w2 hL
    obtain ⟨v', rfl, O, K⟩ := hL.back X1.K
    clear hL
    go_wp2_with fail
    go_ret
    exact ⟨_, rfl, O, K⟩

end Go.Proofs.YtfilbodigooenaaGreatDoor
/- Ph -/
set_option linter.unusedVariables false
namespace Go.Proofs.YtfilbodigooenaaGreatDoor
open Go.ChangeShapes Go.WideShapes Go.ChangeAt Go.RowKit Go.Deep

end Go.Proofs.YtfilbodigooenaaGreatDoor
/- Qa -/
set_option linter.unusedVariables false
namespace Go.Proofs.YtfilbodigooenaaGreatDoor
open Go.RowKit

/-- The numbers below n at which p is true, rising. -/
def picks (n : Nat) (p : Nat → Bool) : List Int := ((List.range n).filter p).map (fun i : Nat => (i : Int))
theorem picks_yes {n : Nat} {p : Nat → Bool} (h : p n = true) : picks (n + 1) p = picks n p ++ [(n : Int)] := by
  simp [picks, List.range_succ, List.filter_append, h]
theorem picks_no {n : Nat} {p : Nat → Bool} (h : p n = false) : picks (n + 1) p = picks n p := by
  simp [picks, List.range_succ, List.filter_append, h]
theorem picks_le (n : Nat) (p : Nat → Bool) : (picks n p).length ≤ n := by
  have := List.length_filter_le p (List.range n)
  simpa [picks] using this
theorem picks_mem {n : Nat} {p : Nat → Bool} {x : Int} (h : x ∈ picks n p) : ∃ i : Nat, i < n ∧ x = i ∧ p i = true := by
  simp only [picks, List.mem_map, List.mem_filter, List.mem_range] at h
  obtain ⟨i, ⟨h1, h2⟩, h3⟩ := h
  exact ⟨i, h1, h3.symm, h2⟩
theorem picks_rise (n : Nat) (p : Nat → Bool) : (picks n p).Pairwise (· < ·) := by
  unfold picks
  rw [List.pairwise_map]
  exact ((List.pairwise_lt_range (n := n)).sublist List.filter_sublist).imp fun h => by omega
theorem hits_picks (n : Nat) (f : Nat → Int) (x : Int) : hits n f x = picks n (fun i => f i == x) := rfl

def podsL (d : PlanD) (b : Int) : List Int := found d d.n0 (fun i => d.x0 (i * 4 + 1)) b
theorem podsL_le (d : PlanD) (b : Int) : (podsL d b).length ≤ d.n0 := by
  unfold podsL found
  split
  · exact hits_le _ _ _
  · exact Nat.zero_le _
def hasB (d : PlanD) (b : Nat) : Bool := decide (0 < (podsL d b).length)
def bandsL (d : PlanD) : List Int := picks 6 (hasB d)
theorem bandsL_le (d : PlanD) : (bandsL d).length ≤ 6 := picks_le _ _
def firstOver (l : List Int) (b : Int) : Int := (l.find? (fun x => decide (b < x))).getD (-1)
def nextL (d : PlanD) (b : Int) : Int := firstOver (bandsL d) b
def timeOf (d : PlanD) (i : Nat) : Int := d.x0 (i * 4 + 3) + d.x0 (i * 4 + 2) + 4
def most (d : PlanD) (l : List Int) : Int := l.foldl (fun n i => max n (timeOf d i.toNat)) 0
def bandT (d : PlanD) (b : Int) : Int := if planOkB d then most d (podsL d b) else -1
def sumB : Nat → (Nat → Int) → Int
  | 0, _ => 0
  | k + 1, f => sumB k f + f k
theorem firstOver_none {l : List Int} {b : Int} (h : ∀ x ∈ l, x ≤ b) : firstOver l b = -1 := by
  unfold firstOver
  rw [List.find?_eq_none.2 (fun x hx => by have := h x hx; simp; omega)]
  rfl
theorem firstOver_at {l : List Int} {b : Int} {i : Nat} (hi : i < l.length) (h : ∀ j (hj : j < i), l[j]'(by omega) ≤ b) (hb : b < l[i]) : firstOver l b = l[i] := by
  unfold firstOver
  have e : l.find? (fun x => decide (b < x)) = some l[i] := by
    rw [List.find?_eq_some_iff_getElem]
    exact ⟨by simpa using hb, i, hi, rfl, fun j hj => by have := h j hj; simp; omega⟩
  rw [e]
  rfl

/-- The number ahead of the i-th, -1 ahead of the first. -/
def ahead (l : List Int) (i : Nat) : Int := if i = 0 then -1 else l.getD (i - 1) 0
theorem firstOver_ahead {l : List Int} (hp : l.Pairwise (· < ·)) (h0 : ∀ x ∈ l, 0 ≤ x) {i : Nat} (hi : i < l.length) : firstOver l (ahead l i) = l.getD i 0 := by
  have hlt := List.pairwise_iff_getElem.1 hp
  have hg : l.getD i 0 = l[i] := by simp [List.getD, hi]
  rw [hg]
  by_cases e : i = 0
  · subst e
    exact firstOver_at hi (fun j hj => absurd hj (by omega)) (by have := h0 _ (List.getElem_mem hi); simp [ahead]; omega)
  · have ha : ahead l i = l[i - 1]'(by omega) := by simp only [ahead, if_neg e]; simp [List.getD, show i - 1 < l.length by omega]
    rw [ha]
    refine firstOver_at hi (fun j hj => ?_) (hlt _ _ (by omega) hi (by omega))
    by_cases e2 : j = i - 1
    · subst e2; exact Int.le_refl _
    · exact Int.le_of_lt (hlt j (i - 1) (by omega) (by omega) (by omega))
theorem firstOver_end {l : List Int} (hp : l.Pairwise (· < ·)) : firstOver l (ahead l l.length) = -1 := by
  have hlt := List.pairwise_iff_getElem.1 hp
  refine firstOver_none fun x hx => ?_
  obtain ⟨j, hj, rfl⟩ := List.getElem_of_mem hx
  have e : l.length ≠ 0 := by omega
  have ha : ahead l l.length = l[l.length - 1]'(by omega) := by simp only [ahead, if_neg e]; simp [List.getD, show l.length - 1 < l.length by omega]
  rw [ha]
  by_cases e2 : j = l.length - 1
  · subst e2; exact Int.le_refl _
  · exact Int.le_of_lt (hlt j (l.length - 1) hj (by omega) (by omega))

theorem getD_at {l : List Int} {i : Nat} (hi : i < l.length) : l.getD i 0 = l[i] := by simp [List.getD, hi]
theorem planOk_pods {d : PlanD} (h : planOkB d = true) : ∀ i, i < d.n0 → podB d.n1 d.x0 i = true := by
  simp only [planOkB, Bool.and_eq_true] at h
  exact allB_true.1 h.1.1.1.2
theorem planOk_band {d : PlanD} (h : planOkB d = true) {i : Nat} (hi : i < d.n0) : 0 ≤ d.x0 (i * 4 + 1) ∧ d.x0 (i * 4 + 1) ≤ 5 := by
  have := planOk_pods h i hi
  simp only [podB, Bool.and_eq_true, inB_true] at this
  exact this.1.1.2
theorem planOk_lock {d : PlanD} (h : planOkB d = true) : 0 ≤ d.l ∧ d.l ≤ 500 ∧ d.n0 ≤ 12 ∧ d.n1 ≤ 4 ∧ d.n2 ≤ 12 ∧ d.n3 ≤ 12 := by
  simp only [planOkB, timesB, sizesB, Bool.and_eq_true, inB_true, decide_eq_true_eq] at h
  obtain ⟨⟨⟨⟨⟨h1, h2⟩, -⟩, -⟩, -⟩, -⟩ := h
  omega

theorem hits_mem {n : Nat} {f : Nat → Int} {b x : Int} (h : x ∈ hits n f b) : ∃ i : Nat, i < n ∧ x = i ∧ f i = b := by
  rw [hits_picks] at h
  obtain ⟨i, h1, h2, h3⟩ := picks_mem h
  exact ⟨i, h1, h2, by simpa using h3⟩
theorem podsL_mem {d : PlanD} {b x : Int} (h : x ∈ podsL d b) : ∃ i : Nat, i < d.n0 ∧ x = i ∧ d.x0 (i * 4 + 1) = b := by
  unfold podsL found at h
  split at h
  · exact hits_mem h
  · cases h
theorem podsL_at {d : PlanD} {b : Int} {j : Nat} (hj : j < (podsL d b).length) : ∃ i : Nat, i < d.n0 ∧ (podsL d b).getD j 0 = i ∧ d.x0 (i * 4 + 1) = b := by
  have e : (podsL d b).getD j 0 = (podsL d b)[j] := by simp [List.getD, hj]
  rw [e]
  exact podsL_mem (List.getElem_mem hj)

theorem bandsL_rise (d : PlanD) : (bandsL d).Pairwise (· < ·) := picks_rise _ _
theorem bandsL_nonneg (d : PlanD) : ∀ x ∈ bandsL d, 0 ≤ x := fun x hx => by
  obtain ⟨i, -, rfl, -⟩ := picks_mem hx
  omega
theorem bands_next {d : PlanD} {i : Nat} (hi : i < (bandsL d).length) : nextL d (ahead (bandsL d) i) = (bandsL d).getD i 0 := firstOver_ahead (bandsL_rise d) (bandsL_nonneg d) hi
theorem bands_end (d : PlanD) : nextL d (ahead (bandsL d) (bandsL d).length) = -1 := firstOver_end (bandsL_rise d)
end Go.Proofs.YtfilbodigooenaaGreatDoor
/- Ra -/
set_option linter.unusedVariables false
namespace Go.Proofs.YtfilbodigooenaaGreatDoor
open Go.RowKit

/-- A record's three numbers. -/
structure RecD where
  k : Int
  a : Int
  b : Int
deriving DecidableEq
def recOkB (r : RecD) : Bool := inB r.k 1 12 && inB r.a 0 1000000 && inB r.b 0 1000000
end Go.Proofs.YtfilbodigooenaaGreatDoor
/- Ta -/
set_option linter.unusedVariables false
namespace Go.Proofs.YtfilbodigooenaaGreatDoor
open Go.RowKit

structure StD where
  ph : Int
  co : Bool
  ck : Int
  bo : Int
  ba : Int
  lb : Int
  pods : List (Int × Int)
  mnts : List (Bool × Int)
  devs : List Bool
  lks : List Int
  gd : Int
  pr : Int
deriving DecidableEq

def zeroS : StD := ⟨0, false, 0, 0, 0, 0, [], [], [], [], 0, 0⟩

/-- A state is right. -/
structure StOk (d : PlanD) (s : StD) : Prop where
  plan : planOkB d = true
  ph : 0 ≤ s.ph ∧ s.ph ≤ 8
  co : s.co = decide (s.ph ≠ 0)
  ck : 0 ≤ s.ck ∧ s.ck ≤ 1000000
  bo : 0 ≤ s.bo ∧ s.bo ≤ 1000000
  ba : 0 ≤ s.ba ∧ s.ba ≤ 6
  lb : 0 ≤ s.lb ∧ s.lb ≤ 1000000
  gd : 0 ≤ s.gd ∧ s.gd ≤ s.pr
  pr : s.pr ≤ d.t
  np : s.pods.length = d.n0
  nm : s.mnts.length = d.n2
  nd : s.devs.length = d.n3
  pods : ∀ q ∈ s.pods, (0 ≤ q.1 ∧ q.1 ≤ 6) ∧ (0 ≤ q.2 ∧ q.2 ≤ 1000000)
  mnts : ∀ q ∈ s.mnts, (0 ≤ q.2 ∧ q.2 ≤ 5) ∧ (q.1 = false → q.2 = 0)
  lks : ∀ x ∈ s.lks, 0 ≤ x ∧ x ≤ 7
  rise : s.lks.Pairwise (· < ·)

def stOkB (d : PlanD) (s : StD) : Bool :=
  planOkB d && inB s.ph 0 8 && (s.co == decide (s.ph ≠ 0)) && inB s.ck 0 1000000 && inB s.bo 0 1000000 && inB s.ba 0 6 && inB s.lb 0 1000000 && inB s.gd 0 s.pr && decide (s.pr ≤ d.t) &&
  decide (s.pods.length = d.n0) && decide (s.mnts.length = d.n2) && decide (s.devs.length = d.n3) &&
  s.pods.all (fun q => inB q.1 0 6 && inB q.2 0 1000000) && s.mnts.all (fun q => inB q.2 0 5 && (q.1 || q.2 == 0)) && s.lks.all (fun x => inB x 0 7) && decide (s.lks.Pairwise (· < ·))
theorem stOkB_iff {d : PlanD} {s : StD} : stOkB d s = true ↔ StOk d s := by
  simp only [stOkB, Bool.and_eq_true, inB_true, beq_iff_eq, decide_eq_true_eq, List.all_eq_true, Bool.or_eq_true]
  constructor
  · rintro ⟨⟨⟨⟨⟨⟨⟨⟨⟨⟨⟨⟨⟨⟨⟨h1, h2⟩, h3⟩, h4⟩, h5⟩, h6⟩, h7⟩, h8⟩, h9⟩, h10⟩, h11⟩, h12⟩, h13⟩, h14⟩, h15⟩, h16⟩
    exact ⟨h1, h2, h3, h4, h5, h6, h7, h8, h9, h10, h11, h12, h13, fun q hq => ⟨(h14 q hq).1, fun hf => ((h14 q hq).2.resolve_left (by rw [hf]; decide))⟩, h15, h16⟩
  · rintro ⟨h1, h2, h3, h4, h5, h6, h7, h8, h9, h10, h11, h12, h13, h14, h15, h16⟩
    refine ⟨⟨⟨⟨⟨⟨⟨⟨⟨⟨⟨⟨⟨⟨⟨h1, h2⟩, h3⟩, h4⟩, h5⟩, h6⟩, h7⟩, h8⟩, h9⟩, h10⟩, h11⟩, h12⟩, h13⟩, fun q hq => ⟨(h14 q hq).1, ?_⟩⟩, h15⟩, h16⟩
    cases hb : q.1
    · exact .inr ((h14 q hq).2 hb)
    · exact .inl rfl

def aliveB (x : Int) : Bool := inB x 0 3
def liveL (s : StD) : List Int := picks s.pods.length (fun i => aliveB (s.pods.getD i (0, 0)).1)

/-- A list that rises, with a number, and without it. -/
def withN (n : Int) : List Int → List Int
  | [] => [n]
  | x :: l => if n < x then n :: x :: l else if n = x then x :: l else x :: withN n l
def withoutN (l : List Int) (n : Int) : List Int := l.filter (fun x => x != n)
/-- What one record makes of a state. -/
def applyR (s : StD) (r : RecD) : StD :=
  if r.k = 1 then (if r.a = 0 then { s with ph := 0, co := false, gd := 0, pr := 0, lks := [] } else { s with ph := r.a, co := true })
  else if r.k = 2 then { s with pods := s.pods.set r.a.toNat (r.b, s.ck) }
  else if r.k = 3 then { s with mnts := s.mnts.set r.a.toNat ((s.mnts.getD r.a.toNat (false, 0)).1, r.b) }
  else if r.k = 4 then { s with mnts := s.mnts.set r.a.toNat (false, 0) }
  else if r.k = 5 then { s with devs := s.devs.set r.a.toNat false }
  else if r.k = 6 then { s with lks := withN r.a s.lks }
  else if r.k = 7 then { s with lks := withoutN s.lks r.a }
  else if r.k = 8 then { s with ck := r.a }
  else if r.k = 9 then { s with ba := r.a }
  else if r.k = 10 then { s with bo := r.a }
  else if r.k = 11 then { s with lb := r.a }
  else if r.k = 12 then { s with gd := r.a, pr := r.b }
  else s
/-- Is there what a record names? -/
def thereB (s : StD) (r : RecD) : Bool :=
  if r.k = 2 then decide (r.a < s.pods.length) else if r.k = 3 ∨ r.k = 4 then decide (r.a < s.mnts.length) else if r.k = 5 then decide (r.a < s.devs.length) else true

/-- Chapter 6: one record; all of them. -/
def goodR (d : PlanD) (s : StD) (r : RecD) : Bool := recOkB r && thereB s r && stOkB d (applyR s r)
def appliedS (d : PlanD) (s : StD) (r : RecD) : StD × Bool := if stOkB d s then (if goodR d s r then (applyR s r, true) else (s, false)) else (zeroS, false)
section
variable {d : PlanD} {s : StD} (h : StOk d s)
include h
end

/-- Chapter 7. -/
def podStep (hook grace : Int) (q : Int × Int) (clock : Int) : Int :=
  if q.1 = 0 then (if 0 < hook then 1 else 2) else if q.1 = 1 then (if hook ≤ clock - q.2 then 2 else 1) else if q.1 = 2 then (if grace ≤ clock - q.2 then 3 else 2) else if q.1 = 3 then 4 else q.1
def afterHook (x : Int) : Int := if x = 1 then 2 else -1
def afterExit (x : Int) : Int := if x = 0 ∨ x = 1 then 5 else if x = 2 ∨ x = 3 then 4 else -1
end Go.Proofs.YtfilbodigooenaaGreatDoor
/- Tb -/
set_option linter.unusedVariables false
namespace Go.Proofs.YtfilbodigooenaaGreatDoor
open Go.RowKit

/-- Of each index below n for which g tells something, in order, what r makes of it. -/
def recsOf {α : Type} (n : Nat) (g : Nat → Option α) (r : Nat → α → RecD) : List RecD := (List.range n).filterMap fun i => (g i).map (r i)
theorem recsOf_zero {α : Type} (g : Nat → Option α) (r : Nat → α → RecD) : recsOf 0 g r = [] := rfl
theorem recsOf_none {α : Type} {n : Nat} {g : Nat → Option α} {r : Nat → α → RecD} (h : g n = none) : recsOf (n + 1) g r = recsOf n g r := by
  simp [recsOf, List.range_succ, List.filterMap_append, h]
theorem recsOf_some {α : Type} {n : Nat} {g : Nat → Option α} {r : Nat → α → RecD} {x : α} (h : g n = some x) : recsOf (n + 1) g r = recsOf n g r ++ [r n x] := by
  simp [recsOf, List.range_succ, List.filterMap_append, h]
theorem recsOf_le {α : Type} (n : Nat) (g : Nat → Option α) (r : Nat → α → RecD) : (recsOf n g r).length ≤ n := by
  induction n with
  | zero => exact Nat.le_refl _
  | succ n ih =>
    cases h : g n
    · rw [recsOf_none h]; omega
    · rw [recsOf_some h, List.length_append]; simp; omega

/-- Mounts' records: busy ones less busy, others free. -/
def mntRec (i : Nat) (q : Bool × Int) : RecD := if q.1 then ⟨3, i, q.2⟩ else ⟨4, i, 0⟩
end Go.Proofs.YtfilbodigooenaaGreatDoor
/- Tc -/
set_option linter.unusedVariables false
namespace Go.Proofs.YtfilbodigooenaaGreatDoor
open Go.RowKit

def podAt (s : StD) (i : Nat) : Int × Int := s.pods.getD i (0, 0)
def mntAt (s : StD) (i : Nat) : Bool × Int := s.mnts.getD i (false, 0)
def devAt (s : StD) (i : Nat) : Bool := s.devs.getD i false
def bandOf (d : PlanD) (i : Nat) : Int := d.x0 (i * 4 + 1)
def graceOf (d : PlanD) (i : Nat) : Int := d.x0 (i * 4 + 2)
def hookOf (d : PlanD) (i : Nat) : Int := d.x0 (i * 4 + 3)
def mpod (d : PlanD) (i : Nat) : Nat := (d.x2 (i * 2)).toNat
def mpar (d : PlanD) (i : Nat) : Int := d.x2 (i * 2 + 1)
def dmnt (d : PlanD) (i : Nat) : Nat := (d.x3 i).toNat

def stepG (d : PlanD) (s : StD) (b c : Int) (i : Nat) : Option Int :=
  if bandOf d i = b ∧ aliveB (podAt s i).1 = true then (if podStep (hookOf d i) (graceOf d i) (podAt s i) c = (podAt s i).1 then none else some (podStep (hookOf d i) (graceOf d i) (podAt s i) c)) else none
def liveB (d : PlanD) (s : StD) (b : Int) : Bool := (List.range d.n0).any fun i => decide (bandOf d i = b) && aliveB (podAt s i).1
def nextB (d : PlanD) (b : Int) : Int := if nextL d b < 0 then 6 else nextL d b
def shutL (d : PlanD) (s : StD) (c : Int) : List RecD :=
  if s.lks ≠ [] ∧ c < s.lb then [] else if s.ba = 6 then [⟨1, 4, 0⟩] else if liveB d s s.ba then recsOf d.n0 (stepG d s s.ba c) (fun i x => ⟨2, i, x⟩) else [⟨9, nextB d s.ba, 0⟩]
def freeB (d : PlanD) (s : StD) (i : Nat) : Bool := (mntAt s i).1 && !aliveB (podAt s (mpod d i)).1 && (List.range d.n2).all fun j => !(decide (mpar d j = i) && (mntAt s j).1)
def giveB (d : PlanD) (s : StD) (i : Nat) : Bool := devAt s i && !(mntAt s (dmnt d i)).1
def freeG (d : PlanD) (s : StD) (i : Nat) : Option (Bool × Int) := if freeB d s i then some (if 0 < (mntAt s i).2 then (true, (mntAt s i).2 - 1) else (false, 0)) else none
def giveG (d : PlanD) (s : StD) (i : Nat) : Option Unit := if giveB d s i then some () else none
def heldB (s : StD) : Bool := s.mnts.any (fun q => q.1) || s.devs.any (fun x => x)
def releaseL (d : PlanD) (s : StD) : List RecD := if heldB s then recsOf d.n2 (freeG d s) mntRec ++ recsOf d.n3 (giveG d s) (fun i _ => ⟨5, i, 0⟩) else [⟨1, 5, 0⟩]
def tickL (d : PlanD) (s : StD) : List RecD := ⟨8, s.ck + 1, 0⟩ :: (if s.ph = 3 then shutL d s (s.ck + 1) else if s.ph = 4 then releaseL d s else [])

theorem podAt_ok {d : PlanD} {s : StD} (h : StOk d s) {i : Nat} (hi : i < d.n0) : (0 ≤ (podAt s i).1 ∧ (podAt s i).1 ≤ 6) ∧ (0 ≤ (podAt s i).2 ∧ (podAt s i).2 ≤ 1000000) := by
  have hl : i < s.pods.length := by rw [h.np]; exact hi
  have e : podAt s i = s.pods[i] := by simp [podAt, List.getD, hl]
  rw [e]
  exact h.pods _ (List.getElem_mem hl)
theorem mntAt_ok {d : PlanD} {s : StD} (h : StOk d s) {i : Nat} (hi : i < d.n2) : (0 ≤ (mntAt s i).2 ∧ (mntAt s i).2 ≤ 5) ∧ ((mntAt s i).1 = false → (mntAt s i).2 = 0) := by
  have hl : i < s.mnts.length := by rw [h.nm]; exact hi
  have e : mntAt s i = s.mnts[i] := by simp [mntAt, List.getD, hl]
  rw [e]
  exact h.mnts _ (List.getElem_mem hl)
/-- How many ticks of its own a pod needs at most. -/
def potP (hook grace : Int) (q : Int × Int) (ck : Int) : Int :=
  if q.1 = 0 then 2 + hook + max 1 grace else if q.1 = 1 then max 1 (q.2 + hook - ck) + max 1 grace + 1 else if q.1 = 2 then max 1 (q.2 + grace - ck) + 1 else if q.1 = 3 then 1 else 0
/-- Dead or alive, what is dead stays so. -/
theorem dead_step {hook grace : Int} {q : Int × Int} {c : Int} (h : aliveB q.1 = false) : podStep hook grace q c = q.1 := by
  simp only [aliveB, inB, Bool.and_eq_false_iff, decide_eq_false_iff_not] at h
  unfold podStep
  rw [if_neg (by omega), if_neg (by omega), if_neg (by omega), if_neg (by omega)]

end Go.Proofs.YtfilbodigooenaaGreatDoor
/- Td -/
set_option linter.unusedVariables false
namespace Go.Proofs.YtfilbodigooenaaGreatDoor
open Go.RowKit

structure HoldsP (d : PlanD) (s : StD) : Prop where
  pod : ∀ i, i < d.n2 → (mntAt s i).1 = false → aliveB (podAt s (mpod d i)).1 = false
  par : ∀ i, i < d.n2 → 0 ≤ mpar d i → (mntAt s i).1 = true → (mntAt s (mpar d i).toNat).1 = true
  dev : ∀ i, i < d.n3 → devAt s i = false → (mntAt s (dmnt d i)).1 = false
structure Going (d : PlanD) (s : StD) : Prop where
  ok : StOk d s
  ph : 3 ≤ s.ph ∧ s.ph ≤ 5
  since : ∀ i, i < d.n0 → (podAt s i).2 ≤ s.ck
  later : s.ph = 3 → ∀ i, i < d.n0 → s.ba < bandOf d i → aliveB (podAt s i).1 = true → (podAt s i).1 = 0
  earlier : s.ph = 3 → ∀ i, i < d.n0 → bandOf d i < s.ba → aliveB (podAt s i).1 = false
  dead : 4 ≤ s.ph → ∀ i, i < d.n0 → aliveB (podAt s i).1 = false
  holds : HoldsP d s
  down : s.ph = 5 → heldB s = false
def over (d : PlanD) (b : Int) : Int := sumB 6 (fun k => if b < k then bandT d k else 0)
def mw (q : Bool × Int) : Int := if q.1 then q.2 + 1 else 0
def relW (d : PlanD) (s : StD) : Int := sumB d.n2 (fun i => mw (mntAt s i)) + sumB d.n3 (fun i => if devAt s i then 1 else 0)
structure Left (d : PlanD) (s : StD) (n : Int) : Prop where
  shut : s.ph = 3 → ∃ lw pw : Int, 0 ≤ lw ∧ 0 ≤ pw ∧ (s.lks = [] ∨ s.lb - 1 - s.ck ≤ lw) ∧ (∀ i, i < d.n0 → bandOf d i = s.ba → aliveB (podAt s i).1 = true → potP (hookOf d i) (graceOf d i) (podAt s i) s.ck ≤ pw) ∧
    lw + pw + (if s.ba = 6 then 0 else 1 + over d s.ba) + 6 * d.n2 + d.n3 + 2 ≤ n
  rel : s.ph = 4 → relW d s + 1 ≤ n
  done : s.ph = 5 → 0 ≤ n

theorem mount_facts {d : PlanD} (h : planOkB d = true) {i : Nat} (hi : i < d.n2) : mpod d i < d.n0 ∧ -1 ≤ mpar d i ∧ mpar d i < i := by
  simp only [planOkB, Bool.and_eq_true] at h
  have := allB_true.1 h.1.2 i hi
  simp only [mountB, Bool.and_eq_true, inB_true] at this
  unfold mpod mpar
  omega
theorem hits_in {n : Nat} {f : Nat → Int} {i : Nat} (hi : i < n) : (i : Int) ∈ hits n f (f i) := by
  simp only [hits, List.mem_map, List.mem_filter, List.mem_range]
  exact ⟨i, ⟨hi, by simp⟩, rfl⟩
end Go.Proofs.YtfilbodigooenaaGreatDoor
/- Te -/
set_option linter.unusedVariables false
namespace Go.Proofs.YtfilbodigooenaaGreatDoor
open Go.RowKit

section
variable {d : PlanD} {s : StD}
end

end Go.Proofs.YtfilbodigooenaaGreatDoor
/- Tf -/
set_option linter.unusedVariables false
namespace Go.Proofs.YtfilbodigooenaaGreatDoor
open Go.RowKit

/-- Ahead of the shutting: who is alive runs. -/
structure Before (d : PlanD) (s : StD) : Prop where
  ok : StOk d s
  since : ∀ i, i < d.n0 → (podAt s i).2 ≤ s.ck
  runs : ∀ i, i < d.n0 → aliveB (podAt s i).1 = true → (podAt s i).1 = 0
  holds : HoldsP d s
def shutS (d : PlanD) (s : StD) : StD := { s with lb := min (s.ck + d.l) 1000000, ba := nextB d (-1), ph := 3, co := true }
/-- A state in which one pod is in another state, since now. -/
def podS (s : StD) (i : Nat) (st : Int) : StD := { s with pods := s.pods.set i (st, s.ck) }
end Go.Proofs.YtfilbodigooenaaGreatDoor
/- Tg -/
set_option linter.unusedVariables false
namespace Go.Proofs.YtfilbodigooenaaGreatDoor
open Go.RowKit

/-- Chapter 8, of a right state. -/
def healthyN (d : PlanD) (s : StD) (g : Int) : Int := ((List.range d.n0).countP fun i => decide (d.x0 (i * 4) = g) && decide ((podAt s i).1 = 0) : Nat)
def mayEvictB (d : PlanD) (s : StD) (i : Int) : Bool :=
  decide (s.ph = 2) && inB i 0 (d.n0 - 1) && decide ((podAt s i.toNat).1 = 0) && decide (d.x1 (d.x0 (i.toNat * 4)).toNat < healthyN d s (d.x0 (i.toNat * 4)))

/-- Chapter 10, of a right state: the records and the code. -/
def noR (c : Int) : List RecD × Int := ([], c)
def oneR (k a b : Int) : List RecD × Int := ([⟨k, a, b⟩], 0)
def phaseD (s : StD) (f t : Int) : List RecD × Int := if s.ph = f then oneR 1 t 0 else noR 3
def evictD (d : PlanD) (s : StD) (a : Int) : List RecD × Int :=
  if inB a 0 (d.n0 - 1) = false then noR 2 else if s.ph ≠ 2 then noR 3 else if (podAt s a.toNat).1 ≠ 0 then noR 4 else if mayEvictB d s a = false then noR 5 else oneR 2 a 6
def shutD (d : PlanD) (s : StD) : List RecD × Int :=
  if s.ph = 1 ∨ s.ph = 2 then ([⟨11, min (s.ck + d.l) 1000000, 0⟩, ⟨9, nextB d (-1), 0⟩, ⟨1, 3, 0⟩], 0) else noR 3
def cancelD (s : StD) : List RecD × Int := if s.ph = 2 then oneR 1 0 0 else phaseD s 1 0
def lockD (s : StD) (a : Int) : List RecD × Int := if inB a 0 7 = false then noR 2 else if 3 ≤ s.ph then noR 3 else if s.lks.contains a then noR 4 else oneR 6 a 0
def unlockD (s : StD) (a : Int) : List RecD × Int := if inB a 0 7 = false then noR 2 else if s.lks.contains a = false then noR 4 else oneR 7 a 0
def toldD (d : PlanD) (s : StD) (f : Int → Int) (a : Int) : List RecD × Int := if inB a 0 (d.n0 - 1) = false then noR 2 else if f (podAt s a.toNat).1 < 0 then noR 4 else oneR 2 a (f (podAt s a.toNat).1)
def busyD (d : PlanD) (s : StD) (a b : Int) : List RecD × Int :=
  if inB a 0 (d.n2 - 1) = false then noR 2 else if inB b 1 5 = false then noR 1 else if 4 ≤ s.ph then noR 3 else if (mntAt s a.toNat).1 = false ∨ (mntAt s a.toNat).2 ≠ 0 then noR 4 else oneR 3 a b
def commandD (d : PlanD) (s : StD) (k a b : Int) : List RecD × Int :=
  if k = 1 then phaseD s 0 1 else if k = 2 then phaseD s 1 2 else if k = 3 then evictD d s a else if k = 4 then shutD d s else if k = 5 then cancelD s else if k = 6 then lockD s a else if k = 7 then unlockD s a
  else if k = 8 then toldD d s afterHook a else if k = 9 then toldD d s afterExit a else if k = 10 then busyD d s a b else noR 1

end Go.Proofs.YtfilbodigooenaaGreatDoor
/- Th -/
set_option linter.unusedVariables false
namespace Go.Proofs.YtfilbodigooenaaGreatDoor
open Go.RowKit

/-- Which command it was, and what came of it. -/
inductive Came (d : PlanD) (s : StD) : StD → Prop
  | cordon (h : s.ph = 0) : Came d s (applyR s ⟨1, 1, 0⟩)
  | drain (h : s.ph = 1) : Came d s (applyR s ⟨1, 2, 0⟩)
  | evict (i : Nat) (hi : i < d.n0) (h : s.ph = 2) (hr : (podAt s i).1 = 0) (hm : mayEvictB d s i = true) : Came d s (podS s i 6)
  | shut (h : s.ph = 1 ∨ s.ph = 2) : Came d s (shutS d s)
  | cancel (h : s.ph = 1 ∨ s.ph = 2) : Came d s (applyR s ⟨1, 0, 0⟩)
  | lock (a : Int) (h : s.ph < 3) : Came d s (applyR s ⟨6, a, 0⟩)
  | unlock (a : Int) : Came d s (applyR s ⟨7, a, 0⟩)
  | hook (i : Nat) (hi : i < d.n0) (h : (podAt s i).1 = 1) : Came d s (podS s i 2)
  | exit (i : Nat) (hi : i < d.n0) (st : Int) (h : (podAt s i).1 = 0 ∨ (podAt s i).1 = 1 ∨ (podAt s i).1 = 2 ∨ (podAt s i).1 = 3) (hs : st = 4 ∨ st = 5) : Came d s (podS s i st)
  | busy (i : Nat) (hi : i < d.n2) (b : Int) (hb : 1 ≤ b ∧ b ≤ 5) (h : s.ph < 4) (hh : (mntAt s i).1 = true) : Came d s (applyR s ⟨3, i, b⟩)
theorem index_nat {a : Int} {n : Nat} (h : ¬ inB a 0 (n - 1) = false) : ∃ i : Nat, a = i ∧ i < n := by
  have := inB_true.1 (Bool.of_not_eq_false h)
  exact ⟨a.toNat, by omega, by omega⟩
end Go.Proofs.YtfilbodigooenaaGreatDoor
/- Ti -/
set_option linter.unusedVariables false
namespace Go.Proofs.YtfilbodigooenaaGreatDoor
open Go.RowKit

def failG (s : StD) (i : Nat) : Option Int := if aliveB (podAt s i).1 then some 5 else none
def looseG (s : StD) (i : Nat) : Option (Bool × Int) := if (mntAt s i).1 then some (false, 0) else none
def emptyG (s : StD) (i : Nat) : Option Unit := if devAt s i then some () else none
def bootL (d : PlanD) (s : StD) (id : Int) : List RecD :=
  ⟨10, id, 0⟩ :: (recsOf d.n0 (failG s) (fun i x => ⟨2, i, x⟩) ++ (recsOf d.n2 (looseG s) mntRec ++ (recsOf d.n3 (emptyG s) (fun i _ => ⟨5, i, 0⟩) ++
    (s.lks.map (fun x => ⟨7, x, 0⟩) ++ ⟨12, 0, 0⟩ :: (if s.ph = 8 then [] else [⟨1, 6, 0⟩])))))
/-- A probe. -/
def probeN (s : StD) (good : Bool) : Int := if good then s.gd + 1 else 0
def probeL (d : PlanD) (s : StD) (good : Bool) : List RecD :=
  ⟨12, probeN s good, s.pr + 1⟩ :: (if d.p ≤ probeN s good then [⟨1, 0, 0⟩] else if d.t ≤ s.pr + 1 then [⟨1, 8, 0⟩] else if s.ph = 6 then [⟨1, 7, 0⟩] else [])
end Go.Proofs.YtfilbodigooenaaGreatDoor
/- Tm -/
set_option linter.unusedVariables false
namespace Go.Proofs.YtfilbodigooenaaGreatDoor
open Go.RowKit

theorem count_flip {P Q : Nat → Bool} {i : Nat} (hP : P i = true) (hQ : Q i = false) (h : ∀ j, j ≠ i → P j = Q j) : ∀ n, (List.range n).countP P = (List.range n).countP Q + if i < n then 1 else 0
  | 0 => by simp
  | n + 1 => by
    have ih := count_flip hP hQ h n
    have e1 : (List.range (n + 1)).countP P = (List.range n).countP P + if P n then 1 else 0 := by rw [List.range_succ, List.countP_append, List.countP_singleton]
    have e2 : (List.range (n + 1)).countP Q = (List.range n).countP Q + if Q n then 1 else 0 := by rw [List.range_succ, List.countP_append, List.countP_singleton]
    rw [e1, e2, ih]
    by_cases e : n = i
    · subst e
      have a1 : (if n < n then 1 else 0) = 0 := if_neg (by omega)
      have a2 : (if n < n + 1 then 1 else 0) = 1 := if_pos (by omega)
      rw [a1, a2, hP, hQ]
      simp
    · rw [h n e]
      have a3 : (if i < n + 1 then 1 else 0) = if i < n then 1 else 0 := by
        by_cases e2 : i < n
        · rw [if_pos e2, if_pos (by omega)]
        · rw [if_neg e2, if_neg (by omega)]
      rw [a3]
      omega
end Go.Proofs.YtfilbodigooenaaGreatDoor
