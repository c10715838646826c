/-
  BandsOf and NextBand: the program's and the model's, each answers the same.
-/
import Derived.Test.YtlmllnbibiihhaaMZ2
import Derived.Test.YtlmllnbibiihhaaMZ0
import Derived.BigQuiet
import Derived.Deep.QuietTactic
import Derived.StillTailTactics
import Derived.Deep.RegionHeld3
import Derived.Test.YtlmllnbibiihhaaMZ1
/- Tg -/
set_option linter.unusedVariables false
namespace Go.Proofs.Ytlmllnbibiihhaa
open Go.RowKit

/-- Chapter 8, of a right state. -/
def healthyN (d : PlanD) (s : StD) (g : Int) : Int := ((List.range d.n0).countP fun i => decide (d.x0 (i * 4) = g) && decide ((podAt s i).1 = 0) : Nat)
def mayEvictB (d : PlanD) (s : StD) (i : Int) : Bool :=
  decide (s.ph = 2) && inB i 0 (d.n0 - 1) && decide ((podAt s i.toNat).1 = 0) && decide (d.x1 (d.x0 (i.toNat * 4)).toNat < healthyN d s (d.x0 (i.toNat * 4)))

/-- Chapter 10, of a right state: the records and the code. -/
def noR (c : Int) : List RecD × Int := ([], c)
end Go.Proofs.Ytlmllnbibiihhaa
/- Th -/
set_option linter.unusedVariables false
namespace Go.Proofs.Ytlmllnbibiihhaa
open Go.RowKit

/-- Which command it was, and what came of it. -/
inductive Came (d : PlanD) (s : StD) : StD → Prop
  | cordon (h : s.ph = 0) : Came d s (applyR s ⟨1, 1, 0⟩)
  | drain (h : s.ph = 1) : Came d s (applyR s ⟨1, 2, 0⟩)
  | evict (i : Nat) (hi : i < d.n0) (h : s.ph = 2) (hr : (podAt s i).1 = 0) (hm : mayEvictB d s i = true) : Came d s (podS s i 6)
  | shut (h : s.ph = 1 ∨ s.ph = 2) : Came d s (shutS d s)
  | cancel (h : s.ph = 1 ∨ s.ph = 2) : Came d s (applyR s ⟨1, 0, 0⟩)
  | lock (a : Int) (h : s.ph < 3) : Came d s (applyR s ⟨6, a, 0⟩)
  | unlock (a : Int) : Came d s (applyR s ⟨7, a, 0⟩)
  | hook (i : Nat) (hi : i < d.n0) (h : (podAt s i).1 = 1) : Came d s (podS s i 2)
  | exit (i : Nat) (hi : i < d.n0) (st : Int) (h : (podAt s i).1 = 0 ∨ (podAt s i).1 = 1 ∨ (podAt s i).1 = 2 ∨ (podAt s i).1 = 3) (hs : st = 4 ∨ st = 5) : Came d s (podS s i st)
  | busy (i : Nat) (hi : i < d.n2) (b : Int) (hb : 1 ≤ b ∧ b ≤ 5) (h : s.ph < 4) (hh : (mntAt s i).1 = true) : Came d s (applyR s ⟨3, i, b⟩)
end Go.Proofs.Ytlmllnbibiihhaa
/- Ti -/
set_option linter.unusedVariables false
namespace Go.Proofs.Ytlmllnbibiihhaa
open Go.RowKit

def failG (s : StD) (i : Nat) : Option Int := if aliveB (podAt s i).1 then some 5 else none
def looseG (s : StD) (i : Nat) : Option (Bool × Int) := if (mntAt s i).1 then some (false, 0) else none
def emptyG (s : StD) (i : Nat) : Option Unit := if devAt s i then some () else none
def bootL (d : PlanD) (s : StD) (id : Int) : List RecD :=
  ⟨10, id, 0⟩ :: (recsOf d.n0 (failG s) (fun i x => ⟨2, i, x⟩) ++ (recsOf d.n2 (looseG s) mntRec ++ (recsOf d.n3 (emptyG s) (fun i _ => ⟨5, i, 0⟩) ++
    (s.lks.map (fun x => ⟨7, x, 0⟩) ++ ⟨12, 0, 0⟩ :: (if s.ph = 8 then [] else [⟨1, 6, 0⟩])))))
/-- A probe. -/
def probeN (s : StD) (good : Bool) : Int := if good then s.gd + 1 else 0
def probeL (d : PlanD) (s : StD) (good : Bool) : List RecD :=
  ⟨12, probeN s good, s.pr + 1⟩ :: (if d.p ≤ probeN s good then [⟨1, 0, 0⟩] else if d.t ≤ s.pr + 1 then [⟨1, 8, 0⟩] else if s.ph = 6 then [⟨1, 7, 0⟩] else [])
end Go.Proofs.Ytlmllnbibiihhaa
/- Ua -/
set_option linter.unusedVariables false
namespace Go.Proofs.Ytlmllnbibiihhaa
open Go.RowKit

def podCs : List (Int × Int) → List Value
  | [] => []
  | q :: l => .int .i64 q.1 :: .int .i64 q.2 :: podCs l
def mntCs : List (Bool × Int) → List Value
  | [] => []
  | q :: l => .bool q.1 :: .int .i64 q.2 :: mntCs l
def devCs (l : List Bool) : List Value := l.map Value.bool
def lkCs (l : List Int) : List Value := l.map (Value.int .i64)
theorem podCs_len (l : List (Int × Int)) : (podCs l).length = l.length * 2 := by
  induction l with
  | nil => rfl
  | cons q l ih => simp only [podCs, List.length_cons, ih]; omega
theorem mntCs_len (l : List (Bool × Int)) : (mntCs l).length = l.length * 2 := by
  induction l with
  | nil => rfl
  | cons q l ih => simp only [mntCs, List.length_cons, ih]; omega
theorem devCs_len (l : List Bool) : (devCs l).length = l.length * 1 := by simp [devCs]
theorem lkCs_len (l : List Int) : (lkCs l).length = l.length * 1 := by simp [lkCs]
def podA (l : List (Int × Int)) (i : Nat) : Int × Int := l.getD i (0, 0)
def mntA (l : List (Bool × Int)) (i : Nat) : Bool × Int := l.getD i (false, 0)
def devA (l : List Bool) (i : Nat) : Bool := l.getD i false
def lkA (l : List Int) (i : Nat) : Int := l.getD i 0
theorem podCs_at (l : List (Int × Int)) {i : Nat} (hi : i < l.length) : (podCs l)[i * 2]? = some (.int .i64 (podA l i).1) ∧ (podCs l)[i * 2 + 1]? = some (.int .i64 (podA l i).2) := by
  induction l generalizing i with
  | nil => exact absurd hi (Nat.not_lt_zero _)
  | cons q l ih =>
    cases i with
    | zero => exact ⟨rfl, rfl⟩
    | succ i =>
      have := ih (i := i) (by simpa using hi)
      rw [show (i + 1) * 2 = i * 2 + 1 + 1 by omega]
      simpa [podCs, podA] using this
theorem mntCs_at (l : List (Bool × Int)) {i : Nat} (hi : i < l.length) : (mntCs l)[i * 2]? = some (.bool (mntA l i).1) ∧ (mntCs l)[i * 2 + 1]? = some (.int .i64 (mntA l i).2) := by
  induction l generalizing i with
  | nil => exact absurd hi (Nat.not_lt_zero _)
  | cons q l ih =>
    cases i with
    | zero => exact ⟨rfl, rfl⟩
    | succ i =>
      have := ih (i := i) (by simpa using hi)
      rw [show (i + 1) * 2 = i * 2 + 1 + 1 by omega]
      simpa [mntCs, mntA] using this
theorem devCs_at (l : List Bool) {i : Nat} (hi : i < l.length) : (devCs l)[i]? = some (.bool (devA l i)) := by simp [devCs, devA, List.getD, hi]
theorem lkCs_at (l : List Int) {i : Nat} (hi : i < l.length) : (lkCs l)[i]? = some (.int .i64 (lkA l i)) := by simp [lkCs, lkA, List.getD, hi]
theorem podCs_set (l : List (Int × Int)) {i : Nat} (hi : i < l.length) (q : Int × Int) : podCs (l.set i q) = ((podCs l).set (i * 2) (.int .i64 q.1)).set (i * 2 + 1) (.int .i64 q.2) := by
  induction l generalizing i with
  | nil => exact absurd hi (Nat.not_lt_zero _)
  | cons r l ih =>
    cases i with
    | zero => rfl
    | succ i =>
      rw [show (i + 1) * 2 = i * 2 + 1 + 1 by omega]
      simp only [List.set_cons_succ, podCs]
      rw [ih (by simpa using hi)]
theorem mntCs_set (l : List (Bool × Int)) {i : Nat} (hi : i < l.length) (q : Bool × Int) : mntCs (l.set i q) = ((mntCs l).set (i * 2) (.bool q.1)).set (i * 2 + 1) (.int .i64 q.2) := by
  induction l generalizing i with
  | nil => exact absurd hi (Nat.not_lt_zero _)
  | cons r l ih =>
    cases i with
    | zero => rfl
    | succ i =>
      rw [show (i + 1) * 2 = i * 2 + 1 + 1 by omega]
      simp only [List.set_cons_succ, mntCs]
      rw [ih (by simpa using hi)]
theorem devCs_set (l : List Bool) (i : Nat) (q : Bool) : devCs (l.set i q) = (devCs l).set i (.bool q) := by unfold devCs; rw [List.map_set]

/-- The cells of a state. -/
abbrev stC (A0 A1 A2 A3 : Option Addr) (n0 c0 n1 c1 n2 c2 n3 c3 : Nat) (ph : Int) (co : Bool) (ck bo ba lb gd pr : Int) : Array Value :=
  #[.int .i64 ph, .bool co, .int .i64 ck, .int .i64 bo, .int .i64 ba, .int .i64 lb, .slice A0 n0 c0, .slice A1 n1 c1, .slice A2 n2 c2, .slice A3 n3 c3, .int .i64 gd, .int .i64 pr]
/-- A state that can be read below block B. -/
structure IsSt (w : World) (B : Nat) (v : Value) (s : StD) : Prop where
  it : ∃ A0 A1 A2 A3 c0 c1 c2 c3, v = .agg (stC A0 A1 A2 A3 s.pods.length c0 s.mnts.length c1 s.devs.length c2 s.lks.length c3 s.ph s.co s.ck s.bo s.ba s.lb s.gd s.pr) ∧
    SlV w B 2 A0 s.pods.length (podCs s.pods) ∧ SlV w B 2 A1 s.mnts.length (mntCs s.mnts) ∧ SlV w B 1 A2 s.devs.length (devCs s.devs) ∧ SlV w B 1 A3 s.lks.length (lkCs s.lks)
  b0 : s.pods.length ≤ maxLen
  b1 : s.mnts.length ≤ maxLen
  b2 : s.devs.length ≤ maxLen
  b3 : s.lks.length ≤ maxLen
theorem IsSt.below {w w' : World} {B B' : Nat} {v : Value} {s : StD} (h : IsSt w B v s) (hb : Below B' w w') (hB : B ≤ B') : IsSt w' B v s := by
  obtain ⟨⟨A0, A1, A2, A3, c0, c1, c2, c3, hv, h0, h1, h2, h3⟩, b0, b1, b2, b3⟩ := h
  exact ⟨⟨A0, A1, A2, A3, c0, c1, c2, c3, hv, h0.below hb hB, h1.below hb hB, h2.below hb hB, h3.below hb hB⟩, b0, b1, b2, b3⟩
theorem IsSt.more {w : World} {B B' : Nat} {v : Value} {s : StD} (h : IsSt w B v s) (hB : B ≤ B') : IsSt w B' v s := by
  obtain ⟨⟨A0, A1, A2, A3, c0, c1, c2, c3, hv, h0, h1, h2, h3⟩, b0, b1, b2, b3⟩ := h
  exact ⟨⟨A0, A1, A2, A3, c0, c1, c2, c3, hv, h0.more hB, h1.more hB, h2.more hB, h3.more hB⟩, b0, b1, b2, b3⟩
theorem IsSt.go {w w' : World} {v : Value} {s : StD} (h : IsSt w w.heap.size v s) (hb : Below w.heap.size w w') : IsSt w' w'.heap.size v s := (h.below hb (Nat.le_refl _)).more hb.size
/-- A state of the call's own: each list in a block of its own, from block B on. -/
structure OwnSt (w : World) (B : Nat) (v : Value) (s : StD) : Prop where
  it : ∃ v0 v1 v2 v3, v = .agg #[.int .i64 s.ph, .bool s.co, .int .i64 s.ck, .int .i64 s.bo, .int .i64 s.ba, .int .i64 s.lb, v0, v1, v2, v3, .int .i64 s.gd, .int .i64 s.pr] ∧
    w.ownsRow B 72 2 v0 s.pods.length (podCs s.pods) ∧ w.ownsRow B 74 2 v1 s.mnts.length (mntCs s.mnts) ∧
    w.ownsRow B 4 1 v2 s.devs.length (devCs s.devs) ∧ w.ownsRow B 2 1 v3 s.lks.length (lkCs s.lks)
theorem OwnSt.below {w w' : World} {B : Nat} {v : Value} {s : StD} (h : OwnSt w B v s) (hb : Below w.heap.size w w') : OwnSt w' B v s := by
  obtain ⟨v0, v1, v2, v3, hv, h0, h1, h2, h3⟩ := h.it
  exact ⟨v0, v1, v2, v3, hv, ownsRow_below h0 hb, ownsRow_below h1 hb, ownsRow_below h2 hb, ownsRow_below h3 hb⟩
theorem OwnSt.base {w : World} {B B' : Nat} {v : Value} {s : StD} (h : OwnSt w B v s) (hB : B' ≤ B) : OwnSt w B' v s := by
  obtain ⟨v0, v1, v2, v3, hv, h0, h1, h2, h3⟩ := h.it
  exact ⟨v0, v1, v2, v3, hv, ownsRow_base h0 hB, ownsRow_base h1 hB, ownsRow_base h2 hB, ownsRow_base h3 hB⟩
theorem OwnSt.st {w : World} {B : Nat} {v : Value} {s : StD} (h : OwnSt w B v s) : IsSt w w.heap.size v s := by
  obtain ⟨v0, v1, v2, v3, rfl, h0, h1, h2, h3⟩ := h.it
  obtain ⟨A0, c0, g0, rfl, -, -, -, -, -, s0, b0⟩ := open_row h0
  obtain ⟨A1, c1, g1, rfl, -, -, -, -, -, s1, b1⟩ := open_row h1
  obtain ⟨A2, c2, g2, rfl, -, -, -, -, -, s2, b2⟩ := open_row h2
  obtain ⟨A3, c3, g3, rfl, -, -, -, -, -, s3, b3⟩ := open_row h3
  exact ⟨⟨A0, A1, A2, A3, c0, c1, c2, c3, rfl, s0, s1, s2, s3⟩, b0, b1, b2, b3⟩
theorem OwnSt.zero (w : World) (B : Nat) : OwnSt w B (.agg (stC none none none none 0 0 0 0 0 0 0 0 0 false 0 0 0 0 0 0)) zeroS :=
  ⟨_, _, _, _, rfl, World.ownsRow_nil _ _ _ _, World.ownsRow_nil _ _ _ _, World.ownsRow_nil _ _ _ _, World.ownsRow_nil _ _ _ _⟩
end Go.Proofs.Ytlmllnbibiihhaa
/- Ub -/
set_option linter.unusedVariables false
namespace Go.Proofs.Ytlmllnbibiihhaa
open Go.RowKit

theorem info_podAt : (Try.prog.info? 72).map (fun i => (i.zero, i.size, i.bytes)) = some (some (.agg #[.int .i64 0, .int .i64 0]), 2, 16) := by kernel_rfl
theorem info_mountAt : (Try.prog.info? 74).map (fun i => (i.zero, i.size, i.bytes)) = some (some (.agg #[.bool false, .int .i64 0]), 2, 16) := by kernel_rfl
theorem info_bool : (Try.prog.info? 4).map (fun i => (i.zero, i.size, i.bytes)) = some (some (.bool false), 1, 1) := by kernel_rfl
theorem info_int : (Try.prog.info? 2).map (fun i => (i.zero, i.size, i.bytes)) = some (some (.int .i64 0), 1, 8) := by kernel_rfl

set_option maxHeartbeats 400000 in
theorem toPodAt_any (a b : Int) (w : World) :
    Calls Try.prog 63 #[.agg #[.int .i64 a, .int .i64 b]] w fun e w' => e = .returned (.agg #[.int .i64 a, .int .i64 b]) ∧ Below w.heap.size w w' := by
  go_enter Try.func63, Try.ntmps63
  go_wp2
  exact bodyPost_ret (v := .agg #[.int .i64 a, .int .i64 b]) (by simp [results, Try.results63, go_sem]) rfl ⟨rfl, (((Below.refl _ _).alloc (Nat.le_refl _) _).alloc (by simp) _).alloc (by simp; omega) _⟩
set_option maxHeartbeats 400000 in
theorem toMountAt_any (a : Bool) (b : Int) (w : World) :
    Calls Try.prog 64 #[.agg #[.bool a, .int .i64 b]] w fun e w' => e = .returned (.agg #[.bool a, .int .i64 b]) ∧ Below w.heap.size w w' := by
  go_enter Try.func64, Try.ntmps64
  go_wp2
  exact bodyPost_ret (v := .agg #[.bool a, .int .i64 b]) (by simp [results, Try.results64, go_sem]) rfl ⟨rfl, (((Below.refl _ _).alloc (Nat.le_refl _) _).alloc (by simp) _).alloc (by simp; omega) _⟩
set_option maxHeartbeats 400000 in
theorem eqPodAt_same (a b : Int) (w : World) :
    Calls Try.prog 73 #[.agg #[.int .i64 a, .int .i64 b], .agg #[.int .i64 a, .int .i64 b]] w fun e w' => e = .returned (.bool true) ∧ Below w.heap.size w w' := by
  go_enter Try.func73, Try.ntmps73
  go_wp2
  go_ret
  exact ⟨rfl, ((Below.refl _ _).alloc (Nat.le_refl _) _).alloc (by simp) _⟩
set_option maxHeartbeats 400000 in
theorem eqMountAt_same (a : Bool) (b : Int) (w : World) :
    Calls Try.prog 74 #[.agg #[.bool a, .int .i64 b], .agg #[.bool a, .int .i64 b]] w fun e w' => e = .returned (.bool true) ∧ Below w.heap.size w w' := by
  go_enter Try.func74, Try.ntmps74
  cases a
  all_goals
    go_wp2
    go_ret
    exact ⟨rfl, ((Below.refl _ _).alloc (Nat.le_refl _) _).alloc (by simp) _⟩

set_option maxHeartbeats 1000000 in
theorem toPodAtS_any (A : Option Addr) (c : Nat) (l : List (Int × Int)) (w : World) (h : SlV w w.heap.size 2 A l.length (podCs l)) (hn : l.length ≤ 1048576) :
    Calls Try.prog 35 #[.slice A l.length c] w (MadeV w l.length (podCs l)) := by
  have S := Lib.hid h
  clear h
  obtain ⟨i0, hi, hz0, hz1, hz2⟩ := info_parts info_podAt
  have hcl := podCs_len l
  generalize hq : l.length = n at *
  have HQ := Lib.hid hq
  have HN := Lib.hid hn
  have hn' : n ≤ 2 ^ 63 - 1 := by omega
  have HCL := Lib.hid hcl
  clear hn hq hcl
  go_enter Try.func35, Try.ntmps35
  go_wp2_with (at_make; refine wpList_make_full _ rfl _ _ 44 rfl w.heap.size 72 i0 (.agg #[.int .i64 0, .int .i64 0]) 2 Try.underlying44 hi hz0 hz1 _ _ _ _ n rfl rfl rfl rfl ?b2 ?b3 (Nat.le_refl _) ?_)
  case b2 => have := HN.out; rw [hz2]; omega
  case b3 => have := HN.out; unfold maxLen; omega
  intro w1 hown hgrow
  have X : CopyV w w1 0 (podCs l) := CopyV.start hown hgrow HCL.out
  clear hown hgrow hz0 hz1 hz2 hi
  go_wp2
  go_loopw [4] (fun i wr => ∃ k : Nat, k ≤ n ∧ i = .int .i64 k ∧ CopyV w wr (k * 2) (podCs l)) (fun i _ => n - (intOf i).toNat)
  case atStart => exact ⟨0, Nat.zero_le _, rfl, by simpa using X⟩
  case round =>
    clear X
    obtain ⟨k, hk, rfl, X⟩ := hrel
    by_cases hlt : k < n
    · obtain ⟨b, off, rfl, hb, hc⟩ := ((S.out.below X.K (Nat.le_refl _)).more X.K.size).cell hlt
      have hp := podCs_at l (i := k) (by rw [HQ.out]; exact hlt)
      have q0 := (hc 0 (by decide)).trans hp.1
      have q1 := (hc 1 (by decide)).trans hp.2
      rw [Nat.add_zero] at q0
      have HP := Lib.hid hp
      clear hc hp
      generalize podA l k = r at *
      obtain ⟨x, y⟩ := r
      dsimp only at q0 q1
      go_wp2_with (go_at_call 63; refine (toPodAt_any _ _ _).mono ?_; rintro e w2 ⟨rfl, hb2⟩; have X2 := X.step hb2; obtain ⟨v0, t0, f0⟩ := X2.at_ (j := k * 2) (by rw [HCL.out]; omega); obtain ⟨v1, t1, f1⟩ := X2.at_ (j := k * 2 + 1) (by rw [HCL.out]; omega); clear hb2)
      refine ⟨⟨k + 1, by omega, by go_num, ?_⟩, by simp [intOf]; omega⟩
      have e : (k + 1) * 2 = k * 2 + 1 + 1 := by omega
      rw [e]
      exact (X2.set HP.out.1).set HP.out.2
    · obtain rfl : k = n := by omega
      go_wp2
      go_ret
      exact X.made (by rw [HCL.out]; exact Nat.le_refl _)
set_option maxHeartbeats 1000000 in
theorem toMountAtS_any (A : Option Addr) (c : Nat) (l : List (Bool × Int)) (w : World) (h : SlV w w.heap.size 2 A l.length (mntCs l)) (hn : l.length ≤ 1048576) :
    Calls Try.prog 36 #[.slice A l.length c] w (MadeV w l.length (mntCs l)) := by
  have S := Lib.hid h
  clear h
  obtain ⟨i0, hi, hz0, hz1, hz2⟩ := info_parts info_mountAt
  have hcl := mntCs_len l
  generalize hq : l.length = n at *
  have HQ := Lib.hid hq
  have HN := Lib.hid hn
  have hn' : n ≤ 2 ^ 63 - 1 := by omega
  have HCL := Lib.hid hcl
  clear hn hq hcl
  go_enter Try.func36, Try.ntmps36
  go_wp2_with (at_make; refine wpList_make_full _ rfl _ _ 45 rfl w.heap.size 74 i0 (.agg #[.bool false, .int .i64 0]) 2 Try.underlying45 hi hz0 hz1 _ _ _ _ n rfl rfl rfl rfl ?b2 ?b3 (Nat.le_refl _) ?_)
  case b2 => have := HN.out; rw [hz2]; omega
  case b3 => have := HN.out; unfold maxLen; omega
  intro w1 hown hgrow
  have X : CopyV w w1 0 (mntCs l) := CopyV.start hown hgrow HCL.out
  clear hown hgrow hz0 hz1 hz2 hi
  go_wp2
  go_loopw [4] (fun i wr => ∃ k : Nat, k ≤ n ∧ i = .int .i64 k ∧ CopyV w wr (k * 2) (mntCs l)) (fun i _ => n - (intOf i).toNat)
  case atStart => exact ⟨0, Nat.zero_le _, rfl, by simpa using X⟩
  case round =>
    clear X
    obtain ⟨k, hk, rfl, X⟩ := hrel
    by_cases hlt : k < n
    · obtain ⟨b, off, rfl, hb, hc⟩ := ((S.out.below X.K (Nat.le_refl _)).more X.K.size).cell hlt
      have hp := mntCs_at l (i := k) (by rw [HQ.out]; exact hlt)
      have q0 := (hc 0 (by decide)).trans hp.1
      have q1 := (hc 1 (by decide)).trans hp.2
      rw [Nat.add_zero] at q0
      have HP := Lib.hid hp
      clear hc hp
      generalize mntA l k = r at *
      obtain ⟨x, y⟩ := r
      dsimp only at q0 q1
      go_wp2_with (go_at_call 64; refine (toMountAt_any _ _ _).mono ?_; rintro e w2 ⟨rfl, hb2⟩; have X2 := X.step hb2; obtain ⟨v0, t0, f0⟩ := X2.at_ (j := k * 2) (by rw [HCL.out]; omega); obtain ⟨v1, t1, f1⟩ := X2.at_ (j := k * 2 + 1) (by rw [HCL.out]; omega); clear hb2)
      refine ⟨⟨k + 1, by omega, by go_num, ?_⟩, by simp [intOf]; omega⟩
      have e : (k + 1) * 2 = k * 2 + 1 + 1 := by omega
      rw [e]
      exact (X2.set HP.out.1).set HP.out.2
    · obtain rfl : k = n := by omega
      go_wp2
      go_ret
      exact X.made (by rw [HCL.out]; exact Nat.le_refl _)
set_option maxHeartbeats 1000000 in
theorem toBoolS_any (A : Option Addr) (c : Nat) (l : List Bool) (w : World) (h : SlV w w.heap.size 1 A l.length (devCs l)) (hn : l.length ≤ 1048576) :
    Calls Try.prog 37 #[.slice A l.length c] w (MadeV w l.length (devCs l)) := by
  have S := Lib.hid h
  clear h
  obtain ⟨i0, hi, hz0, hz1, hz2⟩ := info_parts info_bool
  have hcl := devCs_len l
  generalize hq : l.length = n at *
  have HQ := Lib.hid hq
  have HN := Lib.hid hn
  have hn' : n ≤ 2 ^ 63 - 1 := by omega
  have HCL := Lib.hid hcl
  clear hn hq hcl
  go_enter Try.func37, Try.ntmps37
  go_wp2_with (at_make; refine wpList_make_full _ rfl _ _ 30 rfl w.heap.size 4 i0 (.bool false) 1 Try.underlying30 hi hz0 hz1 _ _ _ _ n rfl rfl rfl rfl ?b2 ?b3 (Nat.le_refl _) ?_)
  case b2 => have := HN.out; rw [hz2]; omega
  case b3 => have := HN.out; unfold maxLen; omega
  intro w1 hown hgrow
  have X : CopyV w w1 0 (devCs l) := CopyV.start hown hgrow HCL.out
  clear hown hgrow hz0 hz1 hz2 hi
  go_wp2
  go_loopw [4] (fun i wr => ∃ k : Nat, k ≤ n ∧ i = .int .i64 k ∧ CopyV w wr k (devCs l)) (fun i _ => n - (intOf i).toNat)
  case atStart => exact ⟨0, Nat.zero_le _, rfl, X⟩
  case round =>
    clear X
    obtain ⟨k, hk, rfl, X⟩ := hrel
    by_cases hlt : k < n
    · obtain ⟨b, off, rfl, hb, hc⟩ := ((S.out.below X.K (Nat.le_refl _)).more X.K.size).cell hlt
      have hp := devCs_at l (i := k) (by rw [HQ.out]; exact hlt)
      have q0 := hc 0 (by decide)
      rw [Nat.add_zero, Nat.mul_one, Nat.add_zero, hp] at q0
      have HP := Lib.hid hp
      clear hc hp
      generalize devA l k = x at *
      obtain ⟨v0, t0, f0⟩ := X.at_ (j := k) (by rw [HCL.out]; omega)
      go_wp2
      exact ⟨⟨k + 1, by omega, by go_num, X.set HP.out⟩, by simp [intOf]; omega⟩
    · obtain rfl : k = n := by omega
      go_wp2
      go_ret
      exact X.made (by rw [HCL.out]; omega)
set_option maxHeartbeats 1000000 in
theorem toInts_any (A : Option Addr) (c : Nat) (l : List Int) (w : World) (h : SlV w w.heap.size 1 A l.length (lkCs l)) (hn : l.length ≤ 1048576) :
    Calls Try.prog 32 #[.slice A l.length c] w (MadeV w l.length (lkCs l)) := by
  have S := Lib.hid h
  clear h
  obtain ⟨i0, hi, hz0, hz1, hz2⟩ := info_parts info_int
  have hcl := lkCs_len l
  generalize hq : l.length = n at *
  have HQ := Lib.hid hq
  have HN := Lib.hid hn
  have hn' : n ≤ 2 ^ 63 - 1 := by omega
  have HCL := Lib.hid hcl
  clear hn hq hcl
  go_enter Try.func32, Try.ntmps32
  go_wp2_with (at_make; refine wpList_make_full _ rfl _ _ 23 rfl w.heap.size 2 i0 (.int .i64 0) 1 Try.underlying23 hi hz0 hz1 _ _ _ _ n rfl rfl rfl rfl ?b2 ?b3 (Nat.le_refl _) ?_)
  case b2 => have := HN.out; rw [hz2]; omega
  case b3 => have := HN.out; unfold maxLen; omega
  intro w1 hown hgrow
  have X : CopyV w w1 0 (lkCs l) := CopyV.start hown hgrow HCL.out
  clear hown hgrow hz0 hz1 hz2 hi
  go_wp2
  go_loopw [4] (fun i wr => ∃ k : Nat, k ≤ n ∧ i = .int .i64 k ∧ CopyV w wr k (lkCs l)) (fun i _ => n - (intOf i).toNat)
  case atStart => exact ⟨0, Nat.zero_le _, rfl, X⟩
  case round =>
    clear X
    obtain ⟨k, hk, rfl, X⟩ := hrel
    by_cases hlt : k < n
    · obtain ⟨b, off, rfl, hb, hc⟩ := ((S.out.below X.K (Nat.le_refl _)).more X.K.size).cell hlt
      have hp := lkCs_at l (i := k) (by rw [HQ.out]; exact hlt)
      have q0 := hc 0 (by decide)
      rw [Nat.add_zero, Nat.mul_one, Nat.add_zero, hp] at q0
      have HP := Lib.hid hp
      clear hc hp
      generalize lkA l k = x at *
      obtain ⟨v0, t0, f0⟩ := X.at_ (j := k) (by rw [HCL.out]; omega)
      go_wp2
      exact ⟨⟨k + 1, by omega, by go_num, X.set HP.out⟩, by simp [intOf]; omega⟩
    · obtain rfl : k = n := by omega
      go_wp2
      go_ret
      exact X.made (by rw [HCL.out]; omega)
end Go.Proofs.Ytlmllnbibiihhaa
/- Uc -/
set_option linter.unusedVariables false
namespace Go.Proofs.Ytlmllnbibiihhaa
open Go.RowKit

set_option maxHeartbeats 1000000 in
theorem eqPodAtS_same (A A' : Option Addr) (c c' : Nat) (l : List (Int × Int)) (w : World) (h : SlV w w.heap.size 2 A l.length (podCs l)) (h' : SlV w w.heap.size 2 A' l.length (podCs l)) (hl : l.length ≤ maxLen) :
    Calls Try.prog 46 #[.slice A l.length c, .slice A' l.length c'] w fun e w' => e = .returned (.bool true) ∧ Below w.heap.size w w' := by
  have H := Lib.hid h
  have H' := Lib.hid h'
  have hl' : l.length ≤ 2 ^ 63 - 1 := by unfold maxLen at hl; omega
  clear hl h h'
  generalize hq : l.length = n at *
  have HQ := Lib.hid hq
  clear hq
  go_enter Try.func46, Try.ntmps46
  go_wp2
  go_loopw [5] (fun i wr => ∃ k : Nat, k ≤ n ∧ i = .int .i64 k ∧ Below w.heap.size w wr) (fun i _ => n - (intOf i).toNat)
  case atStart => exact ⟨0, Nat.zero_le _, rfl, Below.refl _ _⟩
  case round =>
    obtain ⟨k, hk, rfl, K⟩ := hrel
    by_cases hlt : k < n
    · obtain ⟨b, off, rfl, hb, hc⟩ := (H.out.below K (Nat.le_refl _)).cell hlt
      obtain ⟨b', off', rfl, hb', hc'⟩ := (H'.out.below K (Nat.le_refl _)).cell hlt
      have hp := podCs_at l (i := k) (by rw [HQ.out]; exact hlt)
      have q0 := (hc 0 (by decide)).trans hp.1
      have q1 := (hc 1 (by decide)).trans hp.2
      have r0 := (hc' 0 (by decide)).trans hp.1
      have r1 := (hc' 1 (by decide)).trans hp.2
      rw [Nat.add_zero] at q0 r0
      clear hc hc' hp
      generalize podA l k = r at *
      obtain ⟨x, y⟩ := r
      dsimp only at q0 q1 r0 r1
      have HBB := Lib.hid hb
      have HBB' := Lib.hid hb'
      clear hb hb'
      have S0 : (wr.cell? ⟨b, off + k * 2, none⟩ = some (.int .i64 x) ∧ wr.cell? ⟨b, off + k * 2 + 1, none⟩ = some (.int .i64 y)) ∧ (wr.cell? ⟨b', off' + k * 2, none⟩ = some (.int .i64 x) ∧ wr.cell? ⟨b', off' + k * 2 + 1, none⟩ = some (.int .i64 y)) ∧ Below w.heap.size w wr := ⟨⟨q0, q1⟩, ⟨r0, r1⟩, K⟩
      clear q0 q1 r0 r1
      go_wp2_with fail
      go_region_held3 (fun w' => (w'.cell? ⟨b, off + k * 2, none⟩ = some (.int .i64 x) ∧ w'.cell? ⟨b, off + k * 2 + 1, none⟩ = some (.int .i64 y)) ∧ (w'.cell? ⟨b', off' + k * 2, none⟩ = some (.int .i64 x) ∧ w'.cell? ⟨b', off' + k * 2 + 1, none⟩ = some (.int .i64 y)) ∧ Below w.heap.size w w')
        (first | exact S0 | exact S1 | exact ⟨S0.1, S0.2.1, S0.2.2.drew⟩)
        (first
          | (go_at_call 73
             refine (eqPodAt_same _ _ _).mono ?_
             rintro e w2 ⟨rfl, hb2⟩
             have L2 : wr.heap.size ≤ w2.heap.size := hb2.size
             have hs : w.heap.size ≤ wr.heap.size := K.size
             have S1 : (w2.cell? ⟨b, off + k * 2, none⟩ = some (.int .i64 x) ∧ w2.cell? ⟨b, off + k * 2 + 1, none⟩ = some (.int .i64 y)) ∧ (w2.cell? ⟨b', off' + k * 2, none⟩ = some (.int .i64 x) ∧ w2.cell? ⟨b', off' + k * 2 + 1, none⟩ = some (.int .i64 y)) ∧ Below w.heap.size w w2 :=
               ⟨⟨(hb2.cell (p := ⟨b, off + k * 2, none⟩) (Nat.lt_of_lt_of_le HBB.out hs)).trans S0.1.1, (hb2.cell (p := ⟨b, off + k * 2 + 1, none⟩) (Nat.lt_of_lt_of_le HBB.out hs)).trans S0.1.2⟩, ⟨(hb2.cell (p := ⟨b', off' + k * 2, none⟩) (Nat.lt_of_lt_of_le HBB'.out hs)).trans S0.2.1.1, (hb2.cell (p := ⟨b', off' + k * 2 + 1, none⟩) (Nat.lt_of_lt_of_le HBB'.out hs)).trans S0.2.1.2⟩, K.drew.trans (hb2.mono K.size)⟩))
      have K2 := S1.2.2
      clear S0 S1
      go_wp2
      exact ⟨⟨k + 1, by omega, by go_num, K2⟩, by simp [intOf]; omega⟩
    · obtain rfl : k = n := by omega
      go_wp2
      go_ret
      exact ⟨rfl, K⟩

set_option maxHeartbeats 1000000 in
theorem eqMountAtS_same (A A' : Option Addr) (c c' : Nat) (l : List (Bool × Int)) (w : World) (h : SlV w w.heap.size 2 A l.length (mntCs l)) (h' : SlV w w.heap.size 2 A' l.length (mntCs l)) (hl : l.length ≤ maxLen) :
    Calls Try.prog 47 #[.slice A l.length c, .slice A' l.length c'] w fun e w' => e = .returned (.bool true) ∧ Below w.heap.size w w' := by
  have H := Lib.hid h
  have H' := Lib.hid h'
  have hl' : l.length ≤ 2 ^ 63 - 1 := by unfold maxLen at hl; omega
  clear hl h h'
  generalize hq : l.length = n at *
  have HQ := Lib.hid hq
  clear hq
  go_enter Try.func47, Try.ntmps47
  go_wp2
  go_loopw [5] (fun i wr => ∃ k : Nat, k ≤ n ∧ i = .int .i64 k ∧ Below w.heap.size w wr) (fun i _ => n - (intOf i).toNat)
  case atStart => exact ⟨0, Nat.zero_le _, rfl, Below.refl _ _⟩
  case round =>
    obtain ⟨k, hk, rfl, K⟩ := hrel
    by_cases hlt : k < n
    · obtain ⟨b, off, rfl, hb, hc⟩ := (H.out.below K (Nat.le_refl _)).cell hlt
      obtain ⟨b', off', rfl, hb', hc'⟩ := (H'.out.below K (Nat.le_refl _)).cell hlt
      have hp := mntCs_at l (i := k) (by rw [HQ.out]; exact hlt)
      have q0 := (hc 0 (by decide)).trans hp.1
      have q1 := (hc 1 (by decide)).trans hp.2
      have r0 := (hc' 0 (by decide)).trans hp.1
      have r1 := (hc' 1 (by decide)).trans hp.2
      rw [Nat.add_zero] at q0 r0
      clear hc hc' hp
      generalize mntA l k = r at *
      obtain ⟨x, y⟩ := r
      dsimp only at q0 q1 r0 r1
      have HBB := Lib.hid hb
      have HBB' := Lib.hid hb'
      clear hb hb'
      have S0 : (wr.cell? ⟨b, off + k * 2, none⟩ = some (.bool x) ∧ wr.cell? ⟨b, off + k * 2 + 1, none⟩ = some (.int .i64 y)) ∧ (wr.cell? ⟨b', off' + k * 2, none⟩ = some (.bool x) ∧ wr.cell? ⟨b', off' + k * 2 + 1, none⟩ = some (.int .i64 y)) ∧ Below w.heap.size w wr := ⟨⟨q0, q1⟩, ⟨r0, r1⟩, K⟩
      clear q0 q1 r0 r1
      go_wp2_with fail
      go_region_held3 (fun w' => (w'.cell? ⟨b, off + k * 2, none⟩ = some (.bool x) ∧ w'.cell? ⟨b, off + k * 2 + 1, none⟩ = some (.int .i64 y)) ∧ (w'.cell? ⟨b', off' + k * 2, none⟩ = some (.bool x) ∧ w'.cell? ⟨b', off' + k * 2 + 1, none⟩ = some (.int .i64 y)) ∧ Below w.heap.size w w')
        (first | exact S0 | exact S1 | exact ⟨S0.1, S0.2.1, S0.2.2.drew⟩)
        (first
          | (go_at_call 74
             refine (eqMountAt_same _ _ _).mono ?_
             rintro e w2 ⟨rfl, hb2⟩
             have L2 : wr.heap.size ≤ w2.heap.size := hb2.size
             have hs : w.heap.size ≤ wr.heap.size := K.size
             have S1 : (w2.cell? ⟨b, off + k * 2, none⟩ = some (.bool x) ∧ w2.cell? ⟨b, off + k * 2 + 1, none⟩ = some (.int .i64 y)) ∧ (w2.cell? ⟨b', off' + k * 2, none⟩ = some (.bool x) ∧ w2.cell? ⟨b', off' + k * 2 + 1, none⟩ = some (.int .i64 y)) ∧ Below w.heap.size w w2 :=
               ⟨⟨(hb2.cell (p := ⟨b, off + k * 2, none⟩) (Nat.lt_of_lt_of_le HBB.out hs)).trans S0.1.1, (hb2.cell (p := ⟨b, off + k * 2 + 1, none⟩) (Nat.lt_of_lt_of_le HBB.out hs)).trans S0.1.2⟩, ⟨(hb2.cell (p := ⟨b', off' + k * 2, none⟩) (Nat.lt_of_lt_of_le HBB'.out hs)).trans S0.2.1.1, (hb2.cell (p := ⟨b', off' + k * 2 + 1, none⟩) (Nat.lt_of_lt_of_le HBB'.out hs)).trans S0.2.1.2⟩, K.drew.trans (hb2.mono K.size)⟩))
      have K2 := S1.2.2
      clear S0 S1
      go_wp2
      exact ⟨⟨k + 1, by omega, by go_num, K2⟩, by simp [intOf]; omega⟩
    · obtain rfl : k = n := by omega
      go_wp2
      go_ret
      exact ⟨rfl, K⟩

set_option maxHeartbeats 1000000 in
theorem eqBoolS_same (A A' : Option Addr) (c c' : Nat) (l : List Bool) (w : World) (h : SlV w w.heap.size 1 A l.length (devCs l)) (h' : SlV w w.heap.size 1 A' l.length (devCs l)) (hl : l.length ≤ maxLen) :
    Calls Try.prog 48 #[.slice A l.length c, .slice A' l.length c'] w fun e w' => e = .returned (.bool true) ∧ Below w.heap.size w w' := by
  have H := Lib.hid h
  have H' := Lib.hid h'
  have hl' : l.length ≤ 2 ^ 63 - 1 := by unfold maxLen at hl; omega
  clear hl h h'
  generalize hq : l.length = n at *
  have HQ := Lib.hid hq
  clear hq
  go_enter Try.func48, Try.ntmps48
  go_wp2
  go_loopw [5] (fun i wr => ∃ k : Nat, k ≤ n ∧ i = .int .i64 k ∧ Below w.heap.size w wr) (fun i _ => n - (intOf i).toNat)
  case atStart => exact ⟨0, Nat.zero_le _, rfl, Below.refl _ _⟩
  case round =>
    obtain ⟨k, hk, rfl, K⟩ := hrel
    by_cases hlt : k < n
    · obtain ⟨b, off, rfl, hb, hc⟩ := (H.out.below K (Nat.le_refl _)).cell hlt
      obtain ⟨b', off', rfl, hb', hc'⟩ := (H'.out.below K (Nat.le_refl _)).cell hlt
      have hp := devCs_at l (i := k) (by rw [HQ.out]; exact hlt)
      have q0 := hc 0 (by decide)
      have r0 := hc' 0 (by decide)
      rw [Nat.add_zero, Nat.mul_one, Nat.add_zero, hp] at q0 r0
      clear hc hc' hp
      generalize devA l k = x at *
      go_wp2_with fail
      go_quiet (fail)
      go_wp2
      exact ⟨⟨k + 1, by omega, by go_num, below_drewN K _⟩, by simp [intOf]; omega⟩
    · obtain rfl : k = n := by omega
      go_wp2
      go_ret
      exact ⟨rfl, K⟩

set_option maxHeartbeats 1000000 in
theorem eqInts_same (A A' : Option Addr) (c c' : Nat) (l : List Int) (w : World) (h : SlV w w.heap.size 1 A l.length (lkCs l)) (h' : SlV w w.heap.size 1 A' l.length (lkCs l)) (hl : l.length ≤ maxLen) :
    Calls Try.prog 43 #[.slice A l.length c, .slice A' l.length c'] w fun e w' => e = .returned (.bool true) ∧ Below w.heap.size w w' := by
  have H := Lib.hid h
  have H' := Lib.hid h'
  have hl' : l.length ≤ 2 ^ 63 - 1 := by unfold maxLen at hl; omega
  clear hl h h'
  generalize hq : l.length = n at *
  have HQ := Lib.hid hq
  clear hq
  go_enter Try.func43, Try.ntmps43
  go_wp2
  go_loopw [5] (fun i wr => ∃ k : Nat, k ≤ n ∧ i = .int .i64 k ∧ Below w.heap.size w wr) (fun i _ => n - (intOf i).toNat)
  case atStart => exact ⟨0, Nat.zero_le _, rfl, Below.refl _ _⟩
  case round =>
    obtain ⟨k, hk, rfl, K⟩ := hrel
    by_cases hlt : k < n
    · obtain ⟨b, off, rfl, hb, hc⟩ := (H.out.below K (Nat.le_refl _)).cell hlt
      obtain ⟨b', off', rfl, hb', hc'⟩ := (H'.out.below K (Nat.le_refl _)).cell hlt
      have hp := lkCs_at l (i := k) (by rw [HQ.out]; exact hlt)
      have q0 := hc 0 (by decide)
      have r0 := hc' 0 (by decide)
      rw [Nat.add_zero, Nat.mul_one, Nat.add_zero, hp] at q0 r0
      clear hc hc' hp
      generalize lkA l k = x at *
      go_wp2_with fail
      go_quiet (fail)
      go_wp2
      exact ⟨⟨k + 1, by omega, by go_num, below_drewN K _⟩, by simp [intOf]; omega⟩
    · obtain rfl : k = n := by omega
      go_wp2
      go_ret
      exact ⟨rfl, K⟩
end Go.Proofs.Ytlmllnbibiihhaa
/- Sc -/
set_option linter.unusedVariables false
namespace Go.Proofs.Ytlmllnbibiihhaa
open Go.RowKit

end Go.Proofs.Ytlmllnbibiihhaa
/- Sd -/
set_option linter.unusedVariables false
namespace Go.Proofs.Ytlmllnbibiihhaa
open Go.RowKit

theorem Cells.owns {w : World} {g n : Nat} {y : Nat → Int} {L : List Int} (h : Cells w g n y) (hn : n ≤ 12) (hl : L.length ≤ n) (hL : ∀ j, j < L.length → y j = L.getD j 0) :
    w.ownsRow g 2 1 (.slice (some ⟨g, 0, none⟩) L.length n) L.length (L.map (Value.int .i64)) := by
  obtain ⟨cur, hh, hs, hc⟩ := h
  refine ⟨by simp, .inr ⟨g, n, cur, rfl, Nat.le_refl _, hh, hl, by unfold maxLen; omega, by omega, ?_⟩⟩
  rw [Nat.mul_one]
  refine List.ext_getElem? fun j => ?_
  by_cases hj : j < L.length
  · rw [List.getElem?_take_of_lt hj, Array.getElem?_toList, hc j (by omega), hL j hj]
    simp [List.getD, hj]
  · rw [List.getElem?_take_eq_none (by omega), List.getElem?_eq_none (by simp; omega)]

end Go.Proofs.Ytlmllnbibiihhaa
/- Se -/
set_option linter.unusedVariables false
namespace Go.Proofs.Ytlmllnbibiihhaa
open Go.RowKit Go.Sort

/-- Block g, of n whole numbers, is being filled: the first k are as f tells. -/
structure Filling (wr : World) (g n k : Nat) (f : Nat → Int) : Prop where
  it : ∃ cur, wr.heap[g]? = some (.cells cur 2 (0, 0)) ∧ cur.size = n ∧ ∀ j, j < k → cur[j]? = some (.int .i64 (f j))
theorem Filling.lt {wr : World} {g n k : Nat} {f : Nat → Int} (h : Filling wr g n k f) : g < wr.heap.size := by
  obtain ⟨cur, hh, _⟩ := h
  exact (Array.getElem?_eq_some_iff.1 hh).1
theorem Filling.below {wr w' : World} {g n k : Nat} {f : Nat → Int} (h : Filling wr g n k f) (hb : Below wr.heap.size wr w') : Filling w' g n k f := by
  have hl := h.lt
  obtain ⟨cur, hh, r⟩ := h
  exact ⟨cur, (hb.block g hl).trans hh, r⟩
theorem Filling.at_ {wr : World} {g n k i : Nat} {f : Nat → Int} (h : Filling wr g n k f) (hi : i < n) : ∃ v, wr.cell? ⟨g, i, none⟩ = some v ∧ wr.frozen? ⟨g, i, none⟩ = false := by
  obtain ⟨cur, hh, hs, _⟩ := h
  exact ⟨cur[i]'(by omega), (cell_of_row _ _ _ _ _ _ hh).trans (Array.getElem?_eq_getElem (by omega)), frozen_of_row _ _ _ _ _ hh⟩
theorem Filling.set {wr : World} {g n k : Nat} {f : Nat → Int} (h : Filling wr g n k f) (hk : k < n) : Filling (wr.setCell ⟨g, k, none⟩ (.int .i64 (f k))) g n (k + 1) f := by
  obtain ⟨cur, hh, hs, hc⟩ := h
  refine ⟨cur.setIfInBounds k (.int .i64 (f k)), ?_, by simp [hs], fun j hj => ?_⟩
  · rw [setCell_eq]
    simp [mapBlock, Array.getElem?_modify, hh, onCells]
  · by_cases e : j = k
    · subst e
      simp [hs, hk]
    · rw [Array.getElem?_setIfInBounds_ne (fun he => e he.symm)]
      exact hc j (by omega)
end Go.Proofs.Ytlmllnbibiihhaa
