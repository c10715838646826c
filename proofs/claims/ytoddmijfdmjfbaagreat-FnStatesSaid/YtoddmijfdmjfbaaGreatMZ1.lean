/-
  Lists of the call's own, opened; how they stay.
-/
import Derived.Test.YtoddmijfdmjfbaaGreatMZ0
import Derived.Deep.Draws
import Derived.Deep.QuietTactic
import Derived.BigQuiet
import Derived.WalkSmall
import Derived.Lib.Hide
import Derived.StillTailTactics
/- Pb -/
set_option linter.unusedVariables false
namespace Go.Proofs.YtoddmijfdmjfbaaGreat
open Go.RowKit
def podB (n1 : Nat) (x : Nat → Int) (i : Nat) : Bool := inB (x (i * 4)) 0 (n1 - 1) && inB (x (i * 4 + 1)) 0 5 && inB (x (i * 4 + 2)) 0 500 && inB (x (i * 4 + 3)) 0 500

set_option maxHeartbeats 400000 in
theorem podRight_any (A0 A1 A2 A3 : Option Addr) (n0 c0 n1 c1 n2 c2 n3 c3 : Nat) (l p t : Int) (x0 : Nat → Int) (i : Nat) (w : World)
    (s0 : Sl w w.heap.size 4 A0 n0 x0) (hi : i < n0) (b0 : n0 ≤ maxLen) (b1 : n1 ≤ maxLen) :
    Calls Tryz.prog 29 #[planV A0 A1 A2 A3 n0 c0 n1 c1 n2 c2 n3 c3 l p t, .int .i64 i] w fun e w' =>
      e = .returned (.bool (podB n1 x0 i)) ∧ Below w.heap.size w w' := by
  unfold maxLen at b0 b1
  obtain ⟨b, off, rfl, hb, q0, q1, q2, q3⟩ := s0.cell4 hi
  clear s0
  go_enter Tryz.func29, Tryz.ntmps29
  go_wp2_with (first | (go_at_call 47; refine (within_any _ _ _ _).mono ?_; rintro e w' ⟨rfl, rfl⟩) | (go_at_call 48; refine (isIndex_any _ _ _).mono ?_; rintro e w' ⟨rfl, rfl⟩))
  all_goals (go_ret; refine ⟨ret_bool ?_, ((Below.refl _ _).alloc (Nat.le_refl _) _).alloc (by simp) _⟩)
  all_goals simp [podB, *]

def minB (x : Nat → Int) (i : Nat) : Bool := inB (x i) 0 12
set_option maxHeartbeats 400000 in
theorem minRight_any (A0 A1 A2 A3 : Option Addr) (n0 c0 n1 c1 n2 c2 n3 c3 : Nat) (l p t : Int) (x1 : Nat → Int) (i : Nat) (w : World)
    (s1 : Sl w w.heap.size 1 A1 n1 x1) (hi : i < n1) (b1 : n1 ≤ maxLen) :
    Calls Tryz.prog 30 #[planV A0 A1 A2 A3 n0 c0 n1 c1 n2 c2 n3 c3 l p t, .int .i64 i] w fun e w' =>
      e = .returned (.bool (minB x1 i)) ∧ Below w.heap.size w w' := by
  unfold maxLen at b1
  obtain ⟨b, off, rfl, hb, q0⟩ := s1.cell1 hi
  clear s1
  go_enter Tryz.func30, Tryz.ntmps30
  go_wp2_with (first | (go_at_call 47; refine (within_any _ _ _ _).mono ?_; rintro e w' ⟨rfl, rfl⟩))
  go_ret
  exact ⟨rfl, (Below.refl _ _).alloc (Nat.le_refl _) _⟩

def mountB (n0 : Nat) (x : Nat → Int) (i : Nat) : Bool := inB (x (i * 2)) 0 (n0 - 1) && inB (x (i * 2 + 1)) (-1) (i - 1)
theorem mountB_eq (n0 : Nat) (x : Nat → Int) (i : Nat) : mountB n0 x i = (inB (x (i * 2)) 0 (n0 - 1) && (x (i * 2 + 1) == -1 || inB (x (i * 2 + 1)) 0 (i - 1))) := by
  unfold mountB
  congr 1
  rw [Bool.eq_iff_iff]
  simp [inB]
  omega
set_option maxHeartbeats 400000 in
theorem mountRight_any (A0 A1 A2 A3 : Option Addr) (n0 c0 n1 c1 n2 c2 n3 c3 : Nat) (l p t : Int) (x2 : Nat → Int) (i : Nat) (w : World)
    (s2 : Sl w w.heap.size 2 A2 n2 x2) (hi : i < n2) (b0 : n0 ≤ maxLen) (b2 : n2 ≤ maxLen) :
    Calls Tryz.prog 31 #[planV A0 A1 A2 A3 n0 c0 n1 c1 n2 c2 n3 c3 l p t, .int .i64 i] w fun e w' =>
      e = .returned (.bool (mountB n0 x2 i)) ∧ Below w.heap.size w w' := by
  rw [mountB_eq]
  unfold maxLen at b0 b2
  obtain ⟨b, off, rfl, hb, q0, q1⟩ := s2.cell2 hi
  clear s2
  go_enter Tryz.func31, Tryz.ntmps31
  go_wp2_with (first | (go_at_call 48; refine (isIndex_any _ _ _).mono ?_; rintro e w' ⟨rfl, rfl⟩))
  all_goals (go_ret; refine ⟨ret_bool ?_, ((Below.refl _ _).alloc (Nat.le_refl _) _).alloc (by simp) _⟩)
  all_goals simp [*]

def deviceB (n2 : Nat) (x : Nat → Int) (i : Nat) : Bool := inB (x i) 0 (n2 - 1)
set_option maxHeartbeats 400000 in
theorem deviceRight_any (A0 A1 A2 A3 : Option Addr) (n0 c0 n1 c1 n2 c2 n3 c3 : Nat) (l p t : Int) (x3 : Nat → Int) (i : Nat) (w : World)
    (s3 : Sl w w.heap.size 1 A3 n3 x3) (hi : i < n3) (b2 : n2 ≤ maxLen) (b3 : n3 ≤ maxLen) :
    Calls Tryz.prog 32 #[planV A0 A1 A2 A3 n0 c0 n1 c1 n2 c2 n3 c3 l p t, .int .i64 i] w fun e w' =>
      e = .returned (.bool (deviceB n2 x3 i)) ∧ Below w.heap.size w w' := by
  unfold maxLen at b2 b3
  obtain ⟨b, off, rfl, hb, q0⟩ := s3.cell1 hi
  clear s3
  go_enter Tryz.func32, Tryz.ntmps32
  go_wp2_with fail
  go_quiet ((go_at_call 48; exact Calls.quiet_of_same ((isIndex_any _ _ _).mono fun e w' h => ⟨h.1, h.2.symm⟩)))
  go_wp2
  go_ret
  exact ⟨rfl, below_drewN ((Below.refl _ _).alloc (Nat.le_refl _) _) _⟩
end Go.Proofs.YtoddmijfdmjfbaaGreat
/- Pc -/
set_option linter.unusedVariables false
namespace Go.Proofs.YtoddmijfdmjfbaaGreat
open Go.RowKit
theorem enter_podRight (x y : Value) (wr : World) : (callFunc 29 #[x, y]).run Tryz.prog wr = .ok (.enter 29 #[x, y]) wr := by simp [go_sem]
theorem enter_minRight (x y : Value) (wr : World) : (callFunc 30 #[x, y]).run Tryz.prog wr = .ok (.enter 30 #[x, y]) wr := by simp [go_sem]
theorem enter_mountRight (x y : Value) (wr : World) : (callFunc 31 #[x, y]).run Tryz.prog wr = .ok (.enter 31 #[x, y]) wr := by simp [go_sem]
theorem enter_deviceRight (x y : Value) (wr : World) : (callFunc 32 #[x, y]).run Tryz.prog wr = .ok (.enter 32 #[x, y]) wr := by simp [go_sem]

/-- What a plan holds: how many, and the numbers. -/
structure PlanD where
  n0 : Nat
  n1 : Nat
  n2 : Nat
  n3 : Nat
  x0 : Nat → Int
  x1 : Nat → Int
  x2 : Nat → Int
  x3 : Nat → Int
  l : Int
  p : Int
  t : Int

/-- A plan's value, read in world w below block B. -/
structure IsPlan (w : World) (B : Nat) (v : Value) (d : PlanD) : Prop where
  val : ∃ A0 A1 A2 A3 c0 c1 c2 c3, v = planV A0 A1 A2 A3 d.n0 c0 d.n1 c1 d.n2 c2 d.n3 c3 d.l d.p d.t ∧ Sl w B 4 A0 d.n0 d.x0 ∧ Sl w B 1 A1 d.n1 d.x1 ∧ Sl w B 2 A2 d.n2 d.x2 ∧ Sl w B 1 A3 d.n3 d.x3
  b0 : d.n0 ≤ maxLen
  b1 : d.n1 ≤ maxLen
  b2 : d.n2 ≤ maxLen
  b3 : d.n3 ≤ maxLen

theorem IsPlan.below {w w' : World} {B B' : Nat} {v : Value} {d : PlanD} (h : IsPlan w B v d) (hb : Below B' w w') (hB : B ≤ B') : IsPlan w' B v d := by
  obtain ⟨⟨A0, A1, A2, A3, c0, c1, c2, c3, hv, s0, s1, s2, s3⟩, b0, b1, b2, b3⟩ := h
  exact ⟨⟨A0, A1, A2, A3, c0, c1, c2, c3, hv, s0.below hb hB, s1.below hb hB, s2.below hb hB, s3.below hb hB⟩, b0, b1, b2, b3⟩
theorem IsPlan.more {w : World} {B B' : Nat} {v : Value} {d : PlanD} (h : IsPlan w B v d) (hB : B ≤ B') : IsPlan w B' v d := by
  obtain ⟨⟨A0, A1, A2, A3, c0, c1, c2, c3, hv, s0, s1, s2, s3⟩, b0, b1, b2, b3⟩ := h
  exact ⟨⟨A0, A1, A2, A3, c0, c1, c2, c3, hv, s0.more hB, s1.more hB, s2.more hB, s3.more hB⟩, b0, b1, b2, b3⟩

/-- A plan is right. -/
def planOkB (d : PlanD) : Bool :=
  sizesB d.n0 d.n1 d.n2 d.n3 && timesB d.l d.p d.t && allB d.n0 (podB d.n1 d.x0) && allB d.n1 (minB d.x1) && allB d.n2 (mountB d.n0 d.x2) && allB d.n3 (deviceB d.n2 d.x3)

section
variable (A0 A1 A2 A3 : Option Addr) (n0 c0 n1 c1 n2 c2 n3 c3 : Nat) (l p t : Int) (x0 x1 x2 x3 : Nat → Int) (w W : World)
theorem all_pods (K : Below w.heap.size w W) (s0 : Sl w w.heap.size 4 A0 n0 x0) (b0 : n0 ≤ maxLen) (b1 : n1 ≤ maxLen) :
    Calls Tryz.prog 28 #[.int .i64 n0, .func (.func 29) #[planV A0 A1 A2 A3 n0 c0 n1 c1 n2 c2 n3 c3 l p t] #[]] W fun e w' =>
      e = .returned (.bool (allB n0 (podB n1 x0))) ∧ Below W.heap.size W w' :=
  allBelow_any _ _ n0 _ W b0 enter_podRight fun i hi wr hb =>
    podRight_any A0 A1 A2 A3 n0 c0 n1 c1 n2 c2 n3 c3 l p t x0 i wr ((s0.below (below_via K hb) (Nat.le_refl _)).more (below_via K hb).size) hi b0 b1
theorem all_mins (K : Below w.heap.size w W) (s1 : Sl w w.heap.size 1 A1 n1 x1) (b1 : n1 ≤ maxLen) :
    Calls Tryz.prog 28 #[.int .i64 n1, .func (.func 30) #[planV A0 A1 A2 A3 n0 c0 n1 c1 n2 c2 n3 c3 l p t] #[]] W fun e w' =>
      e = .returned (.bool (allB n1 (minB x1))) ∧ Below W.heap.size W w' :=
  allBelow_any _ _ n1 _ W b1 enter_minRight fun i hi wr hb =>
    minRight_any A0 A1 A2 A3 n0 c0 n1 c1 n2 c2 n3 c3 l p t x1 i wr ((s1.below (below_via K hb) (Nat.le_refl _)).more (below_via K hb).size) hi b1
theorem all_mounts (K : Below w.heap.size w W) (s2 : Sl w w.heap.size 2 A2 n2 x2) (b0 : n0 ≤ maxLen) (b2 : n2 ≤ maxLen) :
    Calls Tryz.prog 28 #[.int .i64 n2, .func (.func 31) #[planV A0 A1 A2 A3 n0 c0 n1 c1 n2 c2 n3 c3 l p t] #[]] W fun e w' =>
      e = .returned (.bool (allB n2 (mountB n0 x2))) ∧ Below W.heap.size W w' :=
  allBelow_any _ _ n2 _ W b2 enter_mountRight fun i hi wr hb =>
    mountRight_any A0 A1 A2 A3 n0 c0 n1 c1 n2 c2 n3 c3 l p t x2 i wr ((s2.below (below_via K hb) (Nat.le_refl _)).more (below_via K hb).size) hi b0 b2
theorem all_devices (K : Below w.heap.size w W) (s3 : Sl w w.heap.size 1 A3 n3 x3) (b2 : n2 ≤ maxLen) (b3 : n3 ≤ maxLen) :
    Calls Tryz.prog 28 #[.int .i64 n3, .func (.func 32) #[planV A0 A1 A2 A3 n0 c0 n1 c1 n2 c2 n3 c3 l p t] #[]] W fun e w' =>
      e = .returned (.bool (allB n3 (deviceB n2 x3))) ∧ Below W.heap.size W w' :=
  allBelow_any _ _ n3 _ W b3 enter_deviceRight fun i hi wr hb =>
    deviceRight_any A0 A1 A2 A3 n0 c0 n1 c1 n2 c2 n3 c3 l p t x3 i wr ((s3.below (below_via K hb) (Nat.le_refl _)).more (below_via K hb).size) hi b2 b3
end

set_option maxHeartbeats 2000000 in
theorem planOk_any (v : Value) (d : PlanD) (w : World) (h : IsPlan w w.heap.size v d) :
    Calls Tryz.prog 17 #[v] w fun e w' => e = .returned (.bool (planOkB d)) ∧ Below w.heap.size w w' := by
  obtain ⟨⟨A0, A1, A2, A3, c0, c1, c2, c3, rfl, s0, s1, s2, s3⟩, b0, b1, b2, b3⟩ := h
  obtain ⟨n0, n1, n2, n3, x0, x1, x2, x3, l, p, t⟩ := d
  dsimp only at *
  have S0 := Lib.hid s0
  have S1 := Lib.hid s1
  have S2 := Lib.hid s2
  have S3 := Lib.hid s3
  have B0 := Lib.hid b0
  have B1 := Lib.hid b1
  have B2 := Lib.hid b2
  have B3 := Lib.hid b3
  clear s0 s1 s2 s3 b0 b1 b2 b3
  go_enter Tryz.func17, Tryz.ntmps17
  go_wp2_with fail
  refine (sizesRight_any A0 A1 A2 A3 n0 c0 n1 c1 n2 c2 n3 c3 l p t _ B0.out B1.out B2.out B3.out).mono ?_
  rintro e w1 ⟨rfl, hb1⟩
  have X1 := (Own.box w _ _).step hb1
  have hC1 := X1.C
  clear hb1
  go_wp2_with (first
    | (go_at_call 27; refine (timesRight_any A0 A1 A2 A3 n0 c0 n1 c1 n2 c2 n3 c3 l p t _).mono ?_; rintro e w2 ⟨rfl, hb2⟩; have X2 := X1.step hb2; have hC2 := X2.C; clear hb2)
    | (with_reducible refine (all_pods A0 A1 A2 A3 n0 c0 n1 c1 n2 c2 n3 c3 l p t x0 w _ X2.K S0.out B0.out B1.out).mono ?_; rintro e w3 ⟨rfl, hb3⟩; have X3 := X2.step hb3; have hC3 := X3.C; clear hb3)
    | (with_reducible refine (all_mins A0 A1 A2 A3 n0 c0 n1 c1 n2 c2 n3 c3 l p t x1 w _ X3.K S1.out B1.out).mono ?_; rintro e w4 ⟨rfl, hb4⟩; have X4 := X3.step hb4; have hC4 := X4.C; clear hb4)
    | (with_reducible refine (all_mounts A0 A1 A2 A3 n0 c0 n1 c1 n2 c2 n3 c3 l p t x2 w _ X4.K S2.out B0.out B2.out).mono ?_; rintro e w5 ⟨rfl, hb5⟩; have X5 := X4.step hb5; have hC5 := X5.C; clear hb5)
    | (with_reducible refine (all_devices A0 A1 A2 A3 n0 c0 n1 c1 n2 c2 n3 c3 l p t x3 w _ X5.K S3.out B2.out B3.out).mono ?_; rintro e w6 ⟨rfl, hb6⟩; have X6 := X5.step hb6; have hC6 := X6.C; clear hb6))
  all_goals (go_ret; refine ⟨ret_bool (by simp [planOkB, *]), ?_⟩)
  · exact X6.K
  · exact X5.K
  · exact X4.K
  · exact X3.K
  · exact X2.K
  · exact X1.K
end Go.Proofs.YtoddmijfdmjfbaaGreat
/- Pd -/
set_option linter.unusedVariables false
namespace Go.Proofs.YtoddmijfdmjfbaaGreat
open Go.RowKit

abbrev planC (A0 A1 A2 A3 : Option Addr) (n0 c0 n1 c1 n2 c2 n3 c3 : Nat) (l p t : Int) : Array Value :=
  #[.slice A0 n0 c0, .slice A1 n1 c1, .slice A2 n2 c2, .slice A3 n3 c3, .int .i64 l, .int .i64 p, .int .i64 t]

set_option maxHeartbeats 1000000 in
theorem l1Pods_any (A0 A1 A2 A3 : Option Addr) (n0 c0 n1 c1 n2 c2 n3 c3 : Nat) (l p t : Int) (x0 : Nat → Int) (w : World)
    (s0 : Sl w w.heap.size 4 A0 n0 x0) (b0 : n0 ≤ maxLen) (b1 : n1 ≤ maxLen) :
    Calls Tryz.prog 45 #[planV A0 A1 A2 A3 n0 c0 n1 c1 n2 c2 n3 c3 l p t] w fun e w' =>
      e = .returned (.bool (allB n0 (podB n1 x0) && decide (n0 ≤ 12))) ∧ Below w.heap.size w w' := by
  unfold maxLen at b0 b1
  have S0 := Lib.hid s0
  clear s0
  go_enter Tryz.func45, Tryz.ntmps45
  go_wp2
  go_loopw [3] (fun i wr => ∃ k : Nat, k ≤ n0 ∧ i = .int .i64 k ∧ (∀ j, j < k → podB n1 x0 j = true) ∧ Own w wr w.heap.size (planC A0 A1 A2 A3 n0 c0 n1 c1 n2 c2 n3 c3 l p t)) (fun i _ => n0 - (intOf i).toNat)
  case atStart => exact ⟨0, Nat.zero_le _, rfl, fun j hj => absurd hj (by omega), Own.box w _ _⟩
  case round =>
    obtain ⟨k, hk, rfl, hall, X⟩ := hrel
    have HA := Lib.hid hall
    clear hall
    have hC := X.C
    have hz := X.z
    by_cases hlt : k < n0
    · obtain ⟨b, off, rfl, hb, q0, q1, q2, q3⟩ := (S0.out.own X).cell4 hlt
      go_wp2_with (go_at_call 23; refine (in_any _ _ _ _).mono ?_; rintro e w' ⟨rfl, rfl⟩)
      all_goals first
        | (refine ⟨⟨k + 1, by omega, by go_num, step_all HA.out (by simp_all [podB]), X.alloc _⟩, by simp [intOf]; omega⟩)
        | (go_ret; exact ⟨ret_bool (by rw [allB_false hlt (by simp_all [podB])]; rfl), (X.alloc _).K⟩)
    · obtain rfl : k = n0 := by omega
      go_wp2
      go_ret
      exact ⟨ret_bool (by rw [allB_true.2 HA.out, Bool.eq_iff_iff]; simp; omega), X.K⟩

set_option maxHeartbeats 1000000 in
theorem l1Mounts_any (A0 A1 A2 A3 : Option Addr) (n0 c0 n1 c1 n2 c2 n3 c3 : Nat) (l p t : Int) (x2 x3 : Nat → Int) (w : World)
    (s2 : Sl w w.heap.size 2 A2 n2 x2) (s3 : Sl w w.heap.size 1 A3 n3 x3) (b0 : n0 ≤ maxLen) (b2 : n2 ≤ maxLen) (b3 : n3 ≤ maxLen) :
    Calls Tryz.prog 46 #[planV A0 A1 A2 A3 n0 c0 n1 c1 n2 c2 n3 c3 l p t] w fun e w' =>
      e = .returned (.bool (allB n2 (mountB n0 x2) && allB n3 (deviceB n2 x3) && decide (n2 ≤ 12) && decide (n3 ≤ 12))) ∧ Below w.heap.size w w' := by
  unfold maxLen at b0 b2 b3
  have S2 := Lib.hid s2
  have S3 := Lib.hid s3
  clear s2 s3
  go_enter Tryz.func46, Tryz.ntmps46
  go_wp2
  go_loopw [3] (fun i wr => ∃ k : Nat, k ≤ n2 ∧ i = .int .i64 k ∧ (∀ j, j < k → mountB n0 x2 j = true) ∧ Own w wr w.heap.size (planC A0 A1 A2 A3 n0 c0 n1 c1 n2 c2 n3 c3 l p t)) (fun i _ => n2 - (intOf i).toNat)
  case atStart => exact ⟨0, Nat.zero_le _, rfl, fun j hj => absurd hj (by omega), Own.box w _ _⟩
  case round =>
    obtain ⟨k, hk, rfl, hall, X⟩ := hrel
    have HA := Lib.hid hall
    clear hall
    have hC := X.C
    have hz := X.z
    by_cases hlt : k < n2
    · obtain ⟨b, off, rfl, hb, q0, q1⟩ := (S2.out.own X).cell2 hlt
      cases hp : inB (x2 (k * 2)) 0 (n0 - 1)
      all_goals
        go_wp2_with fail
        go_quiet ((go_at_call 23; exact Calls.quiet_of_same ((in_any _ _ _ _).mono fun e w' h => ⟨h.1, h.2.symm⟩)))
        go_wp2
        all_goals first
          | (refine ⟨⟨k + 1, by omega, by go_num, step_all HA.out (by simp_all [mountB]), X.drewN _⟩, by simp [intOf]; omega⟩)
          | (go_ret; exact ⟨ret_bool (by rw [allB_false hlt (by simp_all [mountB])]; rfl), (X.drewN _).K⟩)
    · obtain rfl : k = n2 := by omega
      have HA2 := Lib.hid (allB_true.2 HA.out)
      clear HA hk hlt
      go_wp2
      go_loopw [4] (fun i wr => ∃ m : Nat, m ≤ n3 ∧ i = .int .i64 m ∧ (∀ j, j < m → deviceB k x3 j = true) ∧ Own w wr w.heap.size (planC A0 A1 A2 A3 n0 c0 n1 c1 k c2 n3 c3 l p t)) (fun i _ => n3 - (intOf i).toNat)
      case atStart => exact ⟨0, Nat.zero_le _, rfl, fun j hj => absurd hj (by omega), X⟩
      case round =>
        clear hC hz X
        obtain ⟨m, hm, rfl, hall, X⟩ := hrel
        have HA := Lib.hid hall
        clear hall
        have hC := X.C
        have hz := X.z
        by_cases hlt : m < n3
        · obtain ⟨b, off, rfl, hb, q0⟩ := (S3.out.own X).cell1 hlt
          go_wp2_with fail
          go_quiet ((go_at_call 23; exact Calls.quiet_of_same ((in_any _ _ _ _).mono fun e w' h => ⟨h.1, h.2.symm⟩)))
          go_wp2
          all_goals first
            | (refine ⟨⟨m + 1, by omega, by go_num, step_all HA.out (by simp_all [deviceB]), X.drewN _⟩, by simp [intOf]; omega⟩)
            | (go_ret; exact ⟨ret_bool (by rw [allB_false hlt (by simp_all [deviceB])]; simp), (X.drewN _).K⟩)
        · obtain rfl : m = n3 := by omega
          have HB := Lib.hid (allB_true.2 HA.out)
          clear HA hm hlt
          go_wp2
          all_goals (go_ret; refine ⟨ret_bool ?_, X.K⟩)
          all_goals (rw [HA2.out, HB.out, Bool.eq_iff_iff]; simp; omega)

set_option maxHeartbeats 1000000 in
theorem spec_planOk_any (v : Value) (d : PlanD) (w : World) (h : IsPlan w w.heap.size v d) :
    Calls Tryz.prog 22 #[v] w fun e w' => e = .returned (.bool (planOkB d)) ∧ Below w.heap.size w w' := by
  obtain ⟨⟨A0, A1, A2, A3, c0, c1, c2, c3, rfl, s0, s1, s2, s3⟩, b0, b1, b2, b3⟩ := h
  obtain ⟨n0, n1, n2, n3, x0, x1, x2, x3, l, p, t⟩ := d
  dsimp only at *
  have S0 := Lib.hid s0
  have S1 := Lib.hid s1
  have S2 := Lib.hid s2
  have S3 := Lib.hid s3
  have B0 := Lib.hid b0
  have B2 := Lib.hid b2
  have B3 := Lib.hid b3
  clear s0 s1 s2 s3 b0 b2 b3
  have B1 := Lib.hid b1
  unfold maxLen at b1
  go_enter Tryz.func22, Tryz.ntmps22
  go_wp2
  go_loopw [3] (fun i wr => ∃ k : Nat, k ≤ n1 ∧ i = .int .i64 k ∧ (∀ j, j < k → minB x1 j = true) ∧ Own w wr w.heap.size (planC A0 A1 A2 A3 n0 c0 n1 c1 n2 c2 n3 c3 l p t)) (fun i _ => n1 - (intOf i).toNat)
  case atStart => exact ⟨0, Nat.zero_le _, rfl, fun j hj => absurd hj (by omega), Own.box w _ _⟩
  case round =>
    obtain ⟨k, hk, rfl, hall, X⟩ := hrel
    have HA := Lib.hid hall
    clear hall
    have hC := X.C
    have hz := X.z
    by_cases hlt : k < n1
    · obtain ⟨b, off, rfl, hb, q0⟩ := (S1.out.own X).cell1 hlt
      go_wp2_with (go_at_call 23; refine (in_any _ _ _ _).mono ?_; rintro e w' ⟨rfl, rfl⟩)
      all_goals first
        | (refine ⟨⟨k + 1, by omega, by go_num, step_all HA.out (by simp_all [minB]), X⟩, by simp [intOf]; omega⟩)
        | (go_ret; exact ⟨ret_bool (by simp [planOkB, allB_false hlt (show minB x1 k = false by simp_all [minB])]), X.K⟩)
    · obtain rfl : k = n1 := by omega
      have HB := Lib.hid (allB_true.2 HA.out)
      clear HA hk hlt
      go_wp2_with (first
        | (go_at_call 23; refine (in_any _ _ _ _).mono ?_; rintro e w' ⟨rfl, rfl⟩)
        | (go_at_call 45; refine (l1Pods_any A0 A1 A2 A3 n0 c0 k c1 n2 c2 n3 c3 l p t x0 _ (S0.out.own X) B0.out B1.out).mono ?_; rintro e w2 ⟨rfl, hb2⟩; have X2 := X.step hb2; have hC2 := X2.C; clear hb2)
        | (go_at_call 46; refine (l1Mounts_any A0 A1 A2 A3 n0 c0 k c1 n2 c2 n3 c3 l p t x2 x3 _ (S2.out.own X2) (S3.out.own X2) B0.out B2.out B3.out).mono ?_; rintro e w3 ⟨rfl, hb3⟩; have X3 := X2.step hb3; have hC3 := X3.C; clear hb3))
      all_goals (go_ret; refine ⟨ret_bool ?_, by first | exact X3.K | exact X2.K | exact X.K⟩)
      all_goals (have hB := HB.out; clear HB hC X; rw [Bool.eq_iff_iff]; simp only [planOkB, sizesB, timesB, hB, Bool.and_eq_true, decide_eq_true_eq]; grind)
end Go.Proofs.YtoddmijfdmjfbaaGreat
/- Pe -/
set_option linter.unusedVariables false
namespace Go.Proofs.YtoddmijfdmjfbaaGreat
open Go.RowKit
theorem info_pod : (Tryz.prog.info? 50).map (fun i => (i.zero, i.size, i.bytes)) = some (some (.agg #[.int .i64 0, .int .i64 0, .int .i64 0, .int .i64 0]), 4, 32) := by kernel_rfl
theorem info_i64 : (Tryz.prog.info? 2).map (fun i => (i.zero, i.size, i.bytes)) = some (some (.int .i64 0), 1, 8) := by kernel_rfl
theorem info_mount : (Tryz.prog.info? 52).map (fun i => (i.zero, i.size, i.bytes)) = some (some (.agg #[.int .i64 0, .int .i64 0]), 2, 16) := by kernel_rfl
theorem info_device : (Tryz.prog.info? 54).map (fun i => (i.zero, i.size, i.bytes)) = some (some (.agg #[.int .i64 0]), 1, 8) := by kernel_rfl

end Go.Proofs.YtoddmijfdmjfbaaGreat
/- Pf -/
set_option linter.unusedVariables false
namespace Go.Proofs.YtoddmijfdmjfbaaGreat
open Go.RowKit

theorem RowF.far {w : World} {g N : Nat} {x : Nat → Int} (h : RowF w g N x) {p : Addr} (hne : p.block ≠ g) (v : Value) : RowF (w.setCell p v) g N x := fun j hj =>
  ⟨(World.cell?_setCell_other _ _ _ _ (fun e => hne (by rw [e]))).trans (h j hj).1, by rw [World.frozen?_setCell]; exact (h j hj).2⟩
theorem RowF.alloc {w : World} {g N : Nat} {x : Nat → Int} (h : RowF w g N x) (hg : g < w.heap.size) (o : Obj) : RowF (w.alloc o) g N x := h.below ((Below.refl _ _).alloc (Nat.le_refl _) o) hg
theorem RowF.sl {w : World} {g N k n B : Nat} {x : Nat → Int} (h : RowF w g N x) (hN : n * k ≤ N) (hg : g < B) : Sl w B k (some ⟨g, 0, none⟩) n x := fun _ =>
  ⟨g, 0, rfl, hg, fun j hj => by rw [Nat.zero_add]; exact (h j (by omega)).1⟩

/-- A plan of new memory. -/
structure NewPlan (w w' : World) (d : PlanD) (g0 g1 g2 g3 : Nat) : Prop where
  l0 : w.heap.size ≤ g0
  l1 : g0 < g1
  l2 : g1 < g2
  l3 : g2 < g3
  l4 : g3 < w'.heap.size
  R0 : RowF w' g0 (d.n0 * 4) d.x0
  R1 : RowF w' g1 d.n1 d.x1
  R2 : RowF w' g2 (d.n2 * 2) d.x2
  R3 : RowF w' g3 d.n3 d.x3
abbrev newPlanV (d : PlanD) (g0 g1 g2 g3 : Nat) : Value := planV (some ⟨g0, 0, none⟩) (some ⟨g1, 0, none⟩) (some ⟨g2, 0, none⟩) (some ⟨g3, 0, none⟩) d.n0 d.n0 d.n1 d.n1 d.n2 d.n2 d.n3 d.n3 d.l d.p d.t
def MadePlan (w : World) (d : PlanD) (e : Ending) (w' : World) : Prop :=
  ∃ g0 g1 g2 g3, e = .returned (newPlanV d g0 g1 g2 g3) ∧ NewPlan w w' d g0 g1 g2 g3 ∧ Below w.heap.size w w'

theorem heap_size_alloc_ (w : World) (o : Obj) : (w.alloc o).heap.size = w.heap.size + 1 := by simp

/-- The three blocks of a copy under way: what came in, the answer's cell, the copy. -/
structure TP (w w1 : World) (cs zs os : Array Value) : Prop where
  A : Own w w1 w.heap.size cs
  Z : Own w w1 (w.heap.size + 1) zs
  O : Own w w1 (w.heap.size + 1 + 1) os
theorem TP.start (w : World) (cs zs os : Array Value) (t t' t'' : TypeId) : TP w (((w.alloc (.cells cs t)).alloc (.cells zs t')).alloc (.cells os t'')) cs zs os := by
  have h1 := Own.box w cs t
  have h2 := Own.box2 h1.K zs t'
  have h3 := Own.box2 h2.K os t''
  simp only [heap_size_alloc_] at h2 h3
  exact ⟨(h1.alloc _).alloc _, h2.alloc _, h3⟩
theorem TP.step {w w1 w2 : World} {cs zs os : Array Value} (h : TP w w1 cs zs os) (hb : Below w1.heap.size w1 w2) : TP w w2 cs zs os := ⟨h.A.step hb, h.Z.step hb, h.O.step hb⟩
theorem TP.set {w w1 : World} {cs zs os : Array Value} (h : TP w w1 cs zs os) {i : Nat} (hi : i < os.size) (v : Value) : TP w (w1.setCell ⟨w.heap.size + 1 + 1, i, none⟩ v) cs zs (os.setIfInBounds i v) :=
  ⟨h.A.far (by simp; omega) (by simp; omega) v, h.Z.far (by simp; omega) (by simp) v, h.O.set (by omega) hi v⟩

theorem NewPlan.is {w w' : World} {d : PlanD} {g0 g1 g2 g3 : Nat} (h : NewPlan w w' d g0 g1 g2 g3) (b0 : d.n0 ≤ maxLen) (b1 : d.n1 ≤ maxLen) (b2 : d.n2 ≤ maxLen) (b3 : d.n3 ≤ maxLen) :
    IsPlan w' w'.heap.size (newPlanV d g0 g1 g2 g3) d := by
  obtain ⟨l0, l1, l2, l3, l4, R0, R1, R2, R3⟩ := h
  exact ⟨⟨_, _, _, _, _, _, _, _, rfl, R0.sl (by omega) (by omega), R1.sl (by omega) (by omega), R2.sl (by omega) (by omega), R3.sl (by omega) (by omega)⟩, b0, b1, b2, b3⟩

/-- Two blocks of what came in. -/
structure Two (w w1 : World) (cs os : Array Value) : Prop where
  A : Own w w1 w.heap.size cs
  O : Own w w1 (w.heap.size + 1) os
theorem Two.start (w : World) (cs os : Array Value) (t t' : TypeId) : Two w ((w.alloc (.cells cs t)).alloc (.cells os t')) cs os := by
  have h1 := Own.box w cs t
  have h2 := Own.box2 h1.K os t'
  simp only [heap_size_alloc_] at h2
  exact ⟨h1.alloc _, h2⟩
theorem Two.step {w w1 w2 : World} {cs os : Array Value} (h : Two w w1 cs os) (hb : Below w1.heap.size w1 w2) : Two w w2 cs os := ⟨h.A.step hb, h.O.step hb⟩

def fits (d : PlanD) : Prop := d.n0 + d.n1 + d.n2 + d.n3 ≤ 1048576
def szP (d : PlanD) : Int := if d.n0 + d.n1 + d.n2 + d.n3 ≤ 1048576 then 1048576 - d.n0 - d.n1 - d.n2 - d.n3 else -1
end Go.Proofs.YtoddmijfdmjfbaaGreat
/- PjA -/
set_option linter.unusedVariables false
namespace Go.Proofs.YtoddmijfdmjfbaaGreat
open Go.RowKit
/-- The indexes below n at which f is the wanted number, rising. -/
def hits (n : Nat) (f : Nat → Int) (wanted : Int) : List Int := ((List.range n).filter (fun i => f i == wanted)).map (fun i : Nat => (i : Int))
theorem hits_zero (f : Nat → Int) (wanted : Int) : hits 0 f wanted = [] := rfl
theorem hits_yes {n : Nat} {f : Nat → Int} {wanted : Int} (h : (f n == wanted) = true) : hits (n + 1) f wanted = hits n f wanted ++ [(n : Int)] := by
  simp [hits, List.range_succ, List.filter_append, h]
theorem hits_no {n : Nat} {f : Nat → Int} {wanted : Int} (h : (f n == wanted) = false) : hits (n + 1) f wanted = hits n f wanted := by
  simp [hits, List.range_succ, List.filter_append, h]
theorem hits_le (n : Nat) (f : Nat → Int) (wanted : Int) : (hits n f wanted).length ≤ n := by
  have := List.length_filter_le (fun i => f i == wanted) (List.range n)
  simpa [hits] using this

/-- What the chapter asks of these functions: the indexes, or nothing where the plan is not right. -/
def found (d : PlanD) (n : Nat) (f : Nat → Int) (wanted : Int) : List Int := if planOkB d then hits n f wanted else []
theorem found_yes {d : PlanD} {n : Nat} {f : Nat → Int} {wanted : Int} (h : planOkB d = true) : found d n f wanted = hits n f wanted := if_pos h
theorem found_no {d : PlanD} {n : Nat} {f : Nat → Int} {wanted : Int} (h : planOkB d = false) : found d n f wanted = [] := if_neg (by rw [h]; decide)
end Go.Proofs.YtoddmijfdmjfbaaGreat
/- PwL -/
set_option linter.unusedVariables false
namespace Go.Proofs.YtoddmijfdmjfbaaGreat
open Go.RowKit

theorem plan_of_owned {w : World} {B0 B1 B2 B3 : Nat} {v0 v1 v2 v3 : Value} {d : PlanD} (o0 : OI w B0 50 4 v0 d.n0 d.x0) (o1 : OI w B1 2 1 v1 d.n1 d.x1) (o2 : OI w B2 52 2 v2 d.n2 d.x2) (o3 : OI w B3 54 1 v3 d.n3 d.x3) :
    IsPlan w w.heap.size (.agg #[v0, v1, v2, v3, .int .i64 d.l, .int .i64 d.p, .int .i64 d.t]) d := by
  obtain ⟨A0, c0, rfl, s0, b0⟩ := o0.form
  obtain ⟨A1, c1, rfl, s1, b1⟩ := o1.form
  obtain ⟨A2, c2, rfl, s2, b2⟩ := o2.form
  obtain ⟨A3, c3, rfl, s3, b3⟩ := o3.form
  exact ⟨⟨_, _, _, _, _, _, _, _, rfl, s0, s1, s2, s3⟩, b0, b1, b2, b3⟩

/-- The four lists of a plan. -/
structure Lists (w : World) (B : Nat) (v0 v1 v2 v3 : Value) (d : PlanD) : Prop where
  o0 : OI w B 50 4 v0 d.n0 d.x0
  o1 : OI w B 2 1 v1 d.n1 d.x1
  o2 : OI w B 52 2 v2 d.n2 d.x2
  o3 : OI w B 54 1 v3 d.n3 d.x3
theorem Lists.below {w w' : World} {B : Nat} {v0 v1 v2 v3 : Value} {d : PlanD} (h : Lists w B v0 v1 v2 v3 d) (hb : Below w.heap.size w w') : Lists w' B v0 v1 v2 v3 d :=
  ⟨h.o0.below hb, h.o1.below hb, h.o2.below hb, h.o3.below hb⟩
theorem Lists.keeps {w w' : World} {B g T : Nat} {cs : Array Value} {v0 v1 v2 v3 : Value} {d : PlanD} (h : Lists w B v0 v1 v2 v3 d) (kk : Keeps (· = g) w w') (hg : w.heap[g]? = some (.cells cs T (0, 0)))
    (hT : T ≠ 50 ∧ T ≠ 2 ∧ T ≠ 52 ∧ T ≠ 54) : Lists w' B v0 v1 v2 v3 d :=
  ⟨h.o0.keeps kk hg hT.1, h.o1.keeps kk hg hT.2.1, h.o2.keeps kk hg hT.2.2.1, h.o3.keeps kk hg hT.2.2.2⟩
theorem Lists.base {w : World} {B B' : Nat} {v0 v1 v2 v3 : Value} {d : PlanD} (h : Lists w B v0 v1 v2 v3 d) (hb : B' ≤ B) : Lists w B' v0 v1 v2 v3 d := by
  obtain ⟨⟨a, ha, ha'⟩, ⟨b, hb1, hb2⟩, ⟨c, hc, hc'⟩, ⟨e, he, he'⟩⟩ := h
  exact ⟨⟨a, ownsRow_base ha hb, ha'⟩, ⟨b, ownsRow_base hb1 hb, hb2⟩, ⟨c, ownsRow_base hc hb, hc'⟩, ⟨e, ownsRow_base he hb, he'⟩⟩
theorem Lists.plan {w : World} {B : Nat} {v0 v1 v2 v3 : Value} {d : PlanD} (h : Lists w B v0 v1 v2 v3 d) : IsPlan w w.heap.size (.agg #[v0, v1, v2, v3, .int .i64 d.l, .int .i64 d.p, .int .i64 d.t]) d :=
  plan_of_owned h.o0 h.o1 h.o2 h.o3
end Go.Proofs.YtoddmijfdmjfbaaGreat
/- Pj -/
set_option linter.unusedVariables false
namespace Go.Proofs.YtoddmijfdmjfbaaGreat
open Go.RowKit

end Go.Proofs.YtoddmijfdmjfbaaGreat
/- PmA -/
set_option linter.unusedVariables false
namespace Go.Proofs.YtoddmijfdmjfbaaGreat
open Go.RowKit
theorem found_le (d : PlanD) (n : Nat) (f : Nat → Int) (wanted : Int) : (found d n f wanted).length ≤ n := by
  unfold found
  split
  · exact hits_le _ _ _
  · exact Nat.zero_le _

theorem NewPlan.below {w0 w w' : World} {d : PlanD} {g0 g1 g2 g3 : Nat} (h : NewPlan w0 w d g0 g1 g2 g3) (hb : Below w.heap.size w w') : NewPlan w0 w' d g0 g1 g2 g3 := by
  obtain ⟨l0, l1, l2, l3, l4, R0, R1, R2, R3⟩ := h
  exact ⟨l0, l1, l2, l3, Nat.lt_of_lt_of_le l4 hb.size, R0.below hb (by omega), R1.below hb (by omega), R2.below hb (by omega), R3.below hb (by omega)⟩

end Go.Proofs.YtoddmijfdmjfbaaGreat
