/-
  'all below n', and the plan's own whole check.
-/
import Derived.Test.YtlmjjkljkmalpaaMGxA2
import Derived.Test.YtlmjjkljkmalpaaMGxPb
/- Pc -/
set_option linter.unusedVariables false
namespace Go.Proofs.Ytlmjjkljkmalpaa
open Go.RowKit
theorem enter_podRight (x y : Value) (wr : World) : (callFunc 66 #[x, y]).run Try.prog wr = .ok (.enter 66 #[x, y]) wr := by simp [go_sem]
theorem enter_minRight (x y : Value) (wr : World) : (callFunc 67 #[x, y]).run Try.prog wr = .ok (.enter 67 #[x, y]) wr := by simp [go_sem]
theorem enter_mountRight (x y : Value) (wr : World) : (callFunc 68 #[x, y]).run Try.prog wr = .ok (.enter 68 #[x, y]) wr := by simp [go_sem]
theorem enter_deviceRight (x y : Value) (wr : World) : (callFunc 69 #[x, y]).run Try.prog wr = .ok (.enter 69 #[x, y]) wr := by simp [go_sem]

/-- What a plan holds: how many, and the numbers. -/
structure PlanD where
  n0 : Nat
  n1 : Nat
  n2 : Nat
  n3 : Nat
  x0 : Nat → Int
  x1 : Nat → Int
  x2 : Nat → Int
  x3 : Nat → Int
  l : Int
  p : Int
  t : Int

/-- A plan's value, read in world w below block B. -/
structure IsPlan (w : World) (B : Nat) (v : Value) (d : PlanD) : Prop where
  val : ∃ A0 A1 A2 A3 c0 c1 c2 c3, v = planV A0 A1 A2 A3 d.n0 c0 d.n1 c1 d.n2 c2 d.n3 c3 d.l d.p d.t ∧ Sl w B 4 A0 d.n0 d.x0 ∧ Sl w B 1 A1 d.n1 d.x1 ∧ Sl w B 2 A2 d.n2 d.x2 ∧ Sl w B 1 A3 d.n3 d.x3
  b0 : d.n0 ≤ maxLen
  b1 : d.n1 ≤ maxLen
  b2 : d.n2 ≤ maxLen
  b3 : d.n3 ≤ maxLen

theorem IsPlan.below {w w' : World} {B B' : Nat} {v : Value} {d : PlanD} (h : IsPlan w B v d) (hb : Below B' w w') (hB : B ≤ B') : IsPlan w' B v d := by
  obtain ⟨⟨A0, A1, A2, A3, c0, c1, c2, c3, hv, s0, s1, s2, s3⟩, b0, b1, b2, b3⟩ := h
  exact ⟨⟨A0, A1, A2, A3, c0, c1, c2, c3, hv, s0.below hb hB, s1.below hb hB, s2.below hb hB, s3.below hb hB⟩, b0, b1, b2, b3⟩
theorem IsPlan.more {w : World} {B B' : Nat} {v : Value} {d : PlanD} (h : IsPlan w B v d) (hB : B ≤ B') : IsPlan w B' v d := by
  obtain ⟨⟨A0, A1, A2, A3, c0, c1, c2, c3, hv, s0, s1, s2, s3⟩, b0, b1, b2, b3⟩ := h
  exact ⟨⟨A0, A1, A2, A3, c0, c1, c2, c3, hv, s0.more hB, s1.more hB, s2.more hB, s3.more hB⟩, b0, b1, b2, b3⟩

/-- A plan is right. -/
def planOkB (d : PlanD) : Bool :=
  sizesB d.n0 d.n1 d.n2 d.n3 && timesB d.l d.p d.t && allB d.n0 (podB d.n1 d.x0) && allB d.n1 (minB d.x1) && allB d.n2 (mountB d.n0 d.x2) && allB d.n3 (deviceB d.n2 d.x3)

section
variable (A0 A1 A2 A3 : Option Addr) (n0 c0 n1 c1 n2 c2 n3 c3 : Nat) (l p t : Int) (x0 x1 x2 x3 : Nat → Int) (w W : World)
theorem all_pods (K : Below w.heap.size w W) (s0 : Sl w w.heap.size 4 A0 n0 x0) (b0 : n0 ≤ maxLen) (b1 : n1 ≤ maxLen) :
    Calls Try.prog 65 #[.int .i64 n0, .func (.func 66) #[planV A0 A1 A2 A3 n0 c0 n1 c1 n2 c2 n3 c3 l p t] #[]] W fun e w' =>
      e = .returned (.bool (allB n0 (podB n1 x0))) ∧ Below W.heap.size W w' :=
  allBelow_any _ _ n0 _ W b0 enter_podRight fun i hi wr hb =>
    podRight_any A0 A1 A2 A3 n0 c0 n1 c1 n2 c2 n3 c3 l p t x0 i wr ((s0.below (below_via K hb) (Nat.le_refl _)).more (below_via K hb).size) hi b0 b1
theorem all_mins (K : Below w.heap.size w W) (s1 : Sl w w.heap.size 1 A1 n1 x1) (b1 : n1 ≤ maxLen) :
    Calls Try.prog 65 #[.int .i64 n1, .func (.func 67) #[planV A0 A1 A2 A3 n0 c0 n1 c1 n2 c2 n3 c3 l p t] #[]] W fun e w' =>
      e = .returned (.bool (allB n1 (minB x1))) ∧ Below W.heap.size W w' :=
  allBelow_any _ _ n1 _ W b1 enter_minRight fun i hi wr hb =>
    minRight_any A0 A1 A2 A3 n0 c0 n1 c1 n2 c2 n3 c3 l p t x1 i wr ((s1.below (below_via K hb) (Nat.le_refl _)).more (below_via K hb).size) hi b1
theorem all_mounts (K : Below w.heap.size w W) (s2 : Sl w w.heap.size 2 A2 n2 x2) (b0 : n0 ≤ maxLen) (b2 : n2 ≤ maxLen) :
    Calls Try.prog 65 #[.int .i64 n2, .func (.func 68) #[planV A0 A1 A2 A3 n0 c0 n1 c1 n2 c2 n3 c3 l p t] #[]] W fun e w' =>
      e = .returned (.bool (allB n2 (mountB n0 x2))) ∧ Below W.heap.size W w' :=
  allBelow_any _ _ n2 _ W b2 enter_mountRight fun i hi wr hb =>
    mountRight_any A0 A1 A2 A3 n0 c0 n1 c1 n2 c2 n3 c3 l p t x2 i wr ((s2.below (below_via K hb) (Nat.le_refl _)).more (below_via K hb).size) hi b0 b2
theorem all_devices (K : Below w.heap.size w W) (s3 : Sl w w.heap.size 1 A3 n3 x3) (b2 : n2 ≤ maxLen) (b3 : n3 ≤ maxLen) :
    Calls Try.prog 65 #[.int .i64 n3, .func (.func 69) #[planV A0 A1 A2 A3 n0 c0 n1 c1 n2 c2 n3 c3 l p t] #[]] W fun e w' =>
      e = .returned (.bool (allB n3 (deviceB n2 x3))) ∧ Below W.heap.size W w' :=
  allBelow_any _ _ n3 _ W b3 enter_deviceRight fun i hi wr hb =>
    deviceRight_any A0 A1 A2 A3 n0 c0 n1 c1 n2 c2 n3 c3 l p t x3 i wr ((s3.below (below_via K hb) (Nat.le_refl _)).more (below_via K hb).size) hi b2 b3
end

set_option maxHeartbeats 2000000 in
theorem planOk_any (v : Value) (d : PlanD) (w : World) (h : IsPlan w w.heap.size v d) :
    Calls Try.prog 53 #[v] w fun e w' => e = .returned (.bool (planOkB d)) ∧ Below w.heap.size w w' := by
  obtain ⟨⟨A0, A1, A2, A3, c0, c1, c2, c3, rfl, s0, s1, s2, s3⟩, b0, b1, b2, b3⟩ := h
  obtain ⟨n0, n1, n2, n3, x0, x1, x2, x3, l, p, t⟩ := d
  dsimp only at *
  have S0 := Lib.hid s0
  have S1 := Lib.hid s1
  have S2 := Lib.hid s2
  have S3 := Lib.hid s3
  have B0 := Lib.hid b0
  have B1 := Lib.hid b1
  have B2 := Lib.hid b2
  have B3 := Lib.hid b3
  clear s0 s1 s2 s3 b0 b1 b2 b3
  go_enter Try.func53, Try.ntmps53
  go_wp2_with fail
  refine (sizesRight_any A0 A1 A2 A3 n0 c0 n1 c1 n2 c2 n3 c3 l p t _ B0.out B1.out B2.out B3.out).mono ?_
  rintro e w1 ⟨rfl, hb1⟩
  have X1 := (Own.box w _ _).step hb1
  have hC1 := X1.C
  clear hb1
  go_wp2_with (first
    | (go_at_call 64; refine (timesRight_any A0 A1 A2 A3 n0 c0 n1 c1 n2 c2 n3 c3 l p t _).mono ?_; rintro e w2 ⟨rfl, hb2⟩; have X2 := X1.step hb2; have hC2 := X2.C; clear hb2)
    | (with_reducible refine (all_pods A0 A1 A2 A3 n0 c0 n1 c1 n2 c2 n3 c3 l p t x0 w _ X2.K S0.out B0.out B1.out).mono ?_; rintro e w3 ⟨rfl, hb3⟩; have X3 := X2.step hb3; have hC3 := X3.C; clear hb3)
    | (with_reducible refine (all_mins A0 A1 A2 A3 n0 c0 n1 c1 n2 c2 n3 c3 l p t x1 w _ X3.K S1.out B1.out).mono ?_; rintro e w4 ⟨rfl, hb4⟩; have X4 := X3.step hb4; have hC4 := X4.C; clear hb4)
    | (with_reducible refine (all_mounts A0 A1 A2 A3 n0 c0 n1 c1 n2 c2 n3 c3 l p t x2 w _ X4.K S2.out B0.out B2.out).mono ?_; rintro e w5 ⟨rfl, hb5⟩; have X5 := X4.step hb5; have hC5 := X5.C; clear hb5)
    | (with_reducible refine (all_devices A0 A1 A2 A3 n0 c0 n1 c1 n2 c2 n3 c3 l p t x3 w _ X5.K S3.out B2.out B3.out).mono ?_; rintro e w6 ⟨rfl, hb6⟩; have X6 := X5.step hb6; have hC6 := X6.C; clear hb6))
  all_goals (go_ret; refine ⟨ret_bool (by simp [planOkB, *]), ?_⟩)
  · exact X6.K
  · exact X5.K
  · exact X4.K
  · exact X3.K
  · exact X2.K
  · exact X1.K
end Go.Proofs.Ytlmjjkljkmalpaa
