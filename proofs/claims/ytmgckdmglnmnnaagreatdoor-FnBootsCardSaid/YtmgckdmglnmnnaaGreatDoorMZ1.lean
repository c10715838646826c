/-
  Bytes and records where they lie: read, and the call's own.
-/
import Derived.Test.YtmgckdmglnmnnaaGreatDoorMZ0
import Derived.Test.YtmgckdmglnmnnaaGreatDoorRows
import Derived.WalkKit
import Derived.WalkSpells
import Derived.WalkLawsBesides
import Derived.Deep.Draws
import Derived.Deep.QuietTactic
import Derived.BigQuiet
import Derived.WalkSmall
import Derived.Lib.Hide
import Derived.RegionTactic
import Derived.BigRegion
import Derived.StillTailTactics
/- A9 -/
set_option linter.unusedVariables false
namespace Go.Proofs.YtmgckdmglnmnnaaGreatDoor
open Go.ChangeShapes Go.WideShapes Go.ChangeAt Go.RowKit Go.Deep

set_option maxRecDepth 100000 in
theorem open_bytes {H : Type} {enc : TypeId × Value → H} {W : World} {spare : Nat → Bool} {held : Bool} {r : Reach} {b0 : Nat} {v : Value} {d : DataW H} {p : List MemPlace}
    (hv : Value.okWide Tryz.prog W r b0 22 v) (h : DataW.Trod enc Tryz.prog W 0 spare held 22 v d p) : ∃ A n c, v = .slice A n c ∧ n ≤ maxLen ∧ Bytes W W.heap.size A n := by
  obtain ⟨a0, l0, c0, rfl⟩ := okWide_slice Tryz.underlying22 hv
  obtain ⟨fuel, hf⟩ := h
  have hf : DataW.trod enc Tryz.prog W 0 spare held fuel 22 [.slice a0 l0 c0] = some (d, p) := hf
  rcases open_ints Tryz.underlying22 Tryz.underlying5 (by kernel_rfl) hf with ⟨h1, _⟩ | ⟨a, len, cap, zs, hcs, hb, hl, hm, hz, hx, hcell, hwf⟩
  · injection h1 with h1 _
    exact ⟨none, 0, 0, h1, Nat.zero_le _, fun h0 => absurd h0 (by omega)⟩
  · injection hcs with hv _
    have hlm : len ≤ zs.length := by rw [hz]; split <;> omega
    refine ⟨some a, len, cap, hv, Nat.le_trans hl hm, fun hn => ?_⟩
    have h0 := hcell 0 (by omega)
    have hsp : a.spot = none := by simpa [Addr.add] using World.cell?_spot h0
    obtain ⟨b, off, sp⟩ := a
    subst hsp
    refine ⟨b, off, rfl, block_lt_of_cell h0, fun j hj => ⟨zs.getD j 0, by have := hcell j (by omega); rwa [add_plain] at this, ?_⟩⟩
    have := hwf (zs.getD j 0) (by rw [List.getD_eq_getElem?_getD, List.getElem?_eq_getElem (by omega)]; exact List.getElem_mem _)
    generalize zs.getD j 0 = z at this ⊢
    simp [Lit.wf, IntKind.min, IntKind.max, IntKind.signed, IntKind.bits] at this
    omega

end Go.Proofs.YtmgckdmglnmnnaaGreatDoor
/- Pa -/
namespace Go.Proofs.YtmgckdmglnmnnaaGreatDoor
open Go.RowKit
/-- the plan as a value: its four lists and three numbers -/
abbrev planV (A0 A1 A2 A3 : Option Addr) (n0 c0 n1 c1 n2 c2 n3 c3 : Nat) (l p t : Int) : Value :=
  .agg #[.slice A0 n0 c0, .slice A1 n1 c1, .slice A2 n2 c2, .slice A3 n3 c3, .int .i64 l, .int .i64 p, .int .i64 t]

def sizesB (n0 n1 n2 n3 : Nat) : Bool := decide (n0 ≤ 12) && decide (n1 ≤ 4) && decide (n2 ≤ 12) && decide (n3 ≤ 12)
def timesB (l p t : Int) : Bool := inB l 0 500 && inB p 1 9 && inB t p 30
set_option maxHeartbeats 400000 in
theorem sizesRight_any (A0 A1 A2 A3 : Option Addr) (n0 c0 n1 c1 n2 c2 n3 c3 : Nat) (l p t : Int) (w : World)
    (b0 : n0 ≤ maxLen) (b1 : n1 ≤ maxLen) (b2 : n2 ≤ maxLen) (b3 : n3 ≤ maxLen) :
    Calls Tryz.prog 61 #[planV A0 A1 A2 A3 n0 c0 n1 c1 n2 c2 n3 c3 l p t] w fun e w' =>
      e = .returned (.bool (sizesB n0 n1 n2 n3)) ∧ Below w.heap.size w w' := by
  unfold maxLen at b0 b1 b2 b3
  go_enter Tryz.func61, Tryz.ntmps61
  go_wp2
  all_goals (go_ret; refine ⟨ret_bool ?_, (Below.refl _ _).alloc (Nat.le_refl _) _⟩)
  all_goals (unfold sizesB; rw [Bool.eq_iff_iff]; simp; omega)

set_option maxHeartbeats 400000 in
theorem timesRight_any (A0 A1 A2 A3 : Option Addr) (n0 c0 n1 c1 n2 c2 n3 c3 : Nat) (l p t : Int) (w : World) :
    Calls Tryz.prog 62 #[planV A0 A1 A2 A3 n0 c0 n1 c1 n2 c2 n3 c3 l p t] w fun e w' =>
      e = .returned (.bool (timesB l p t)) ∧ Below w.heap.size w w' := by
  unfold timesB
  cases h1 : inB l 0 500
  · go_enter Tryz.func62, Tryz.ntmps62
    go_wp2_with (go_at_call 18; refine (within_any _ _ _ _).mono ?_; rintro e w' ⟨rfl, rfl⟩)
    go_ret
    exact ⟨rfl, (Below.refl _ _).alloc (Nat.le_refl _) _⟩
  · cases h2 : inB p 1 9
    · go_enter Tryz.func62, Tryz.ntmps62
      go_wp2_with (go_at_call 18; refine (within_any _ _ _ _).mono ?_; rintro e w' ⟨rfl, rfl⟩)
      go_ret
      exact ⟨rfl, (Below.refl _ _).alloc (Nat.le_refl _) _⟩
    · go_enter Tryz.func62, Tryz.ntmps62
      go_wp2_with (go_at_call 18; refine (within_any _ _ _ _).mono ?_; rintro e w' ⟨rfl, rfl⟩)
      go_ret
      exact ⟨ret_bool (by simp), (Below.refl _ _).alloc (Nat.le_refl _) _⟩
end Go.Proofs.YtmgckdmglnmnnaaGreatDoor
/- Pb -/
set_option linter.unusedVariables false
namespace Go.Proofs.YtmgckdmglnmnnaaGreatDoor
open Go.RowKit
def podB (n1 : Nat) (x : Nat → Int) (i : Nat) : Bool := inB (x (i * 4)) 0 (n1 - 1) && inB (x (i * 4 + 1)) 0 5 && inB (x (i * 4 + 2)) 0 500 && inB (x (i * 4 + 3)) 0 500

set_option maxHeartbeats 400000 in
theorem podRight_any (A0 A1 A2 A3 : Option Addr) (n0 c0 n1 c1 n2 c2 n3 c3 : Nat) (l p t : Int) (x0 : Nat → Int) (i : Nat) (w : World)
    (s0 : Sl w w.heap.size 4 A0 n0 x0) (hi : i < n0) (b0 : n0 ≤ maxLen) (b1 : n1 ≤ maxLen) :
    Calls Tryz.prog 64 #[planV A0 A1 A2 A3 n0 c0 n1 c1 n2 c2 n3 c3 l p t, .int .i64 i] w fun e w' =>
      e = .returned (.bool (podB n1 x0 i)) ∧ Below w.heap.size w w' := by
  unfold maxLen at b0 b1
  obtain ⟨b, off, rfl, hb, q0, q1, q2, q3⟩ := s0.cell4 hi
  clear s0
  go_enter Tryz.func64, Tryz.ntmps64
  go_wp2_with (first | (go_at_call 18; refine (within_any _ _ _ _).mono ?_; rintro e w' ⟨rfl, rfl⟩) | (go_at_call 56; refine (isIndex_any _ _ _).mono ?_; rintro e w' ⟨rfl, rfl⟩))
  all_goals (go_ret; refine ⟨ret_bool ?_, ((Below.refl _ _).alloc (Nat.le_refl _) _).alloc (by simp) _⟩)
  all_goals simp [podB, *]

def minB (x : Nat → Int) (i : Nat) : Bool := inB (x i) 0 12
set_option maxHeartbeats 400000 in
theorem minRight_any (A0 A1 A2 A3 : Option Addr) (n0 c0 n1 c1 n2 c2 n3 c3 : Nat) (l p t : Int) (x1 : Nat → Int) (i : Nat) (w : World)
    (s1 : Sl w w.heap.size 1 A1 n1 x1) (hi : i < n1) (b1 : n1 ≤ maxLen) :
    Calls Tryz.prog 65 #[planV A0 A1 A2 A3 n0 c0 n1 c1 n2 c2 n3 c3 l p t, .int .i64 i] w fun e w' =>
      e = .returned (.bool (minB x1 i)) ∧ Below w.heap.size w w' := by
  unfold maxLen at b1
  obtain ⟨b, off, rfl, hb, q0⟩ := s1.cell1 hi
  clear s1
  go_enter Tryz.func65, Tryz.ntmps65
  go_wp2_with (first | (go_at_call 18; refine (within_any _ _ _ _).mono ?_; rintro e w' ⟨rfl, rfl⟩))
  go_ret
  exact ⟨rfl, (Below.refl _ _).alloc (Nat.le_refl _) _⟩

def mountB (n0 : Nat) (x : Nat → Int) (i : Nat) : Bool := inB (x (i * 2)) 0 (n0 - 1) && inB (x (i * 2 + 1)) (-1) (i - 1)
theorem mountB_eq (n0 : Nat) (x : Nat → Int) (i : Nat) : mountB n0 x i = (inB (x (i * 2)) 0 (n0 - 1) && (x (i * 2 + 1) == -1 || inB (x (i * 2 + 1)) 0 (i - 1))) := by
  unfold mountB
  congr 1
  rw [Bool.eq_iff_iff]
  simp [inB]
  omega
set_option maxHeartbeats 400000 in
theorem mountRight_any (A0 A1 A2 A3 : Option Addr) (n0 c0 n1 c1 n2 c2 n3 c3 : Nat) (l p t : Int) (x2 : Nat → Int) (i : Nat) (w : World)
    (s2 : Sl w w.heap.size 2 A2 n2 x2) (hi : i < n2) (b0 : n0 ≤ maxLen) (b2 : n2 ≤ maxLen) :
    Calls Tryz.prog 66 #[planV A0 A1 A2 A3 n0 c0 n1 c1 n2 c2 n3 c3 l p t, .int .i64 i] w fun e w' =>
      e = .returned (.bool (mountB n0 x2 i)) ∧ Below w.heap.size w w' := by
  rw [mountB_eq]
  unfold maxLen at b0 b2
  obtain ⟨b, off, rfl, hb, q0, q1⟩ := s2.cell2 hi
  clear s2
  go_enter Tryz.func66, Tryz.ntmps66
  go_wp2_with (first | (go_at_call 56; refine (isIndex_any _ _ _).mono ?_; rintro e w' ⟨rfl, rfl⟩))
  all_goals (go_ret; refine ⟨ret_bool ?_, ((Below.refl _ _).alloc (Nat.le_refl _) _).alloc (by simp) _⟩)
  all_goals simp [*]

def deviceB (n2 : Nat) (x : Nat → Int) (i : Nat) : Bool := inB (x i) 0 (n2 - 1)
set_option maxHeartbeats 400000 in
theorem deviceRight_any (A0 A1 A2 A3 : Option Addr) (n0 c0 n1 c1 n2 c2 n3 c3 : Nat) (l p t : Int) (x3 : Nat → Int) (i : Nat) (w : World)
    (s3 : Sl w w.heap.size 1 A3 n3 x3) (hi : i < n3) (b2 : n2 ≤ maxLen) (b3 : n3 ≤ maxLen) :
    Calls Tryz.prog 67 #[planV A0 A1 A2 A3 n0 c0 n1 c1 n2 c2 n3 c3 l p t, .int .i64 i] w fun e w' =>
      e = .returned (.bool (deviceB n2 x3 i)) ∧ Below w.heap.size w w' := by
  unfold maxLen at b2 b3
  obtain ⟨b, off, rfl, hb, q0⟩ := s3.cell1 hi
  clear s3
  go_enter Tryz.func67, Tryz.ntmps67
  go_wp2_with fail
  go_quiet ((go_at_call 56; exact Calls.quiet_of_same ((isIndex_any _ _ _).mono fun e w' h => ⟨h.1, h.2.symm⟩)))
  go_wp2
  go_ret
  exact ⟨rfl, below_drewN ((Below.refl _ _).alloc (Nat.le_refl _) _) _⟩
end Go.Proofs.YtmgckdmglnmnnaaGreatDoor
/- Pc -/
set_option linter.unusedVariables false
namespace Go.Proofs.YtmgckdmglnmnnaaGreatDoor
open Go.RowKit
theorem enter_podRight (x y : Value) (wr : World) : (callFunc 64 #[x, y]).run Tryz.prog wr = .ok (.enter 64 #[x, y]) wr := by simp [go_sem]
theorem enter_minRight (x y : Value) (wr : World) : (callFunc 65 #[x, y]).run Tryz.prog wr = .ok (.enter 65 #[x, y]) wr := by simp [go_sem]
theorem enter_mountRight (x y : Value) (wr : World) : (callFunc 66 #[x, y]).run Tryz.prog wr = .ok (.enter 66 #[x, y]) wr := by simp [go_sem]
theorem enter_deviceRight (x y : Value) (wr : World) : (callFunc 67 #[x, y]).run Tryz.prog wr = .ok (.enter 67 #[x, y]) wr := by simp [go_sem]

/-- What a plan holds: how many, and the numbers. -/
structure PlanD where
  n0 : Nat
  n1 : Nat
  n2 : Nat
  n3 : Nat
  x0 : Nat → Int
  x1 : Nat → Int
  x2 : Nat → Int
  x3 : Nat → Int
  l : Int
  p : Int
  t : Int

/-- A plan's value, read in world w below block B. -/
structure IsPlan (w : World) (B : Nat) (v : Value) (d : PlanD) : Prop where
  val : ∃ A0 A1 A2 A3 c0 c1 c2 c3, v = planV A0 A1 A2 A3 d.n0 c0 d.n1 c1 d.n2 c2 d.n3 c3 d.l d.p d.t ∧ Sl w B 4 A0 d.n0 d.x0 ∧ Sl w B 1 A1 d.n1 d.x1 ∧ Sl w B 2 A2 d.n2 d.x2 ∧ Sl w B 1 A3 d.n3 d.x3
  b0 : d.n0 ≤ maxLen
  b1 : d.n1 ≤ maxLen
  b2 : d.n2 ≤ maxLen
  b3 : d.n3 ≤ maxLen

theorem IsPlan.below {w w' : World} {B B' : Nat} {v : Value} {d : PlanD} (h : IsPlan w B v d) (hb : Below B' w w') (hB : B ≤ B') : IsPlan w' B v d := by
  obtain ⟨⟨A0, A1, A2, A3, c0, c1, c2, c3, hv, s0, s1, s2, s3⟩, b0, b1, b2, b3⟩ := h
  exact ⟨⟨A0, A1, A2, A3, c0, c1, c2, c3, hv, s0.below hb hB, s1.below hb hB, s2.below hb hB, s3.below hb hB⟩, b0, b1, b2, b3⟩
theorem IsPlan.more {w : World} {B B' : Nat} {v : Value} {d : PlanD} (h : IsPlan w B v d) (hB : B ≤ B') : IsPlan w B' v d := by
  obtain ⟨⟨A0, A1, A2, A3, c0, c1, c2, c3, hv, s0, s1, s2, s3⟩, b0, b1, b2, b3⟩ := h
  exact ⟨⟨A0, A1, A2, A3, c0, c1, c2, c3, hv, s0.more hB, s1.more hB, s2.more hB, s3.more hB⟩, b0, b1, b2, b3⟩

/-- A plan is right. -/
def planOkB (d : PlanD) : Bool :=
  sizesB d.n0 d.n1 d.n2 d.n3 && timesB d.l d.p d.t && allB d.n0 (podB d.n1 d.x0) && allB d.n1 (minB d.x1) && allB d.n2 (mountB d.n0 d.x2) && allB d.n3 (deviceB d.n2 d.x3)

section
variable (A0 A1 A2 A3 : Option Addr) (n0 c0 n1 c1 n2 c2 n3 c3 : Nat) (l p t : Int) (x0 x1 x2 x3 : Nat → Int) (w W : World)
theorem all_pods (K : Below w.heap.size w W) (s0 : Sl w w.heap.size 4 A0 n0 x0) (b0 : n0 ≤ maxLen) (b1 : n1 ≤ maxLen) :
    Calls Tryz.prog 63 #[.int .i64 n0, .func (.func 64) #[planV A0 A1 A2 A3 n0 c0 n1 c1 n2 c2 n3 c3 l p t] #[]] W fun e w' =>
      e = .returned (.bool (allB n0 (podB n1 x0))) ∧ Below W.heap.size W w' :=
  allBelow_any _ _ n0 _ W b0 enter_podRight fun i hi wr hb =>
    podRight_any A0 A1 A2 A3 n0 c0 n1 c1 n2 c2 n3 c3 l p t x0 i wr ((s0.below (below_via K hb) (Nat.le_refl _)).more (below_via K hb).size) hi b0 b1
theorem all_mins (K : Below w.heap.size w W) (s1 : Sl w w.heap.size 1 A1 n1 x1) (b1 : n1 ≤ maxLen) :
    Calls Tryz.prog 63 #[.int .i64 n1, .func (.func 65) #[planV A0 A1 A2 A3 n0 c0 n1 c1 n2 c2 n3 c3 l p t] #[]] W fun e w' =>
      e = .returned (.bool (allB n1 (minB x1))) ∧ Below W.heap.size W w' :=
  allBelow_any _ _ n1 _ W b1 enter_minRight fun i hi wr hb =>
    minRight_any A0 A1 A2 A3 n0 c0 n1 c1 n2 c2 n3 c3 l p t x1 i wr ((s1.below (below_via K hb) (Nat.le_refl _)).more (below_via K hb).size) hi b1
theorem all_mounts (K : Below w.heap.size w W) (s2 : Sl w w.heap.size 2 A2 n2 x2) (b0 : n0 ≤ maxLen) (b2 : n2 ≤ maxLen) :
    Calls Tryz.prog 63 #[.int .i64 n2, .func (.func 66) #[planV A0 A1 A2 A3 n0 c0 n1 c1 n2 c2 n3 c3 l p t] #[]] W fun e w' =>
      e = .returned (.bool (allB n2 (mountB n0 x2))) ∧ Below W.heap.size W w' :=
  allBelow_any _ _ n2 _ W b2 enter_mountRight fun i hi wr hb =>
    mountRight_any A0 A1 A2 A3 n0 c0 n1 c1 n2 c2 n3 c3 l p t x2 i wr ((s2.below (below_via K hb) (Nat.le_refl _)).more (below_via K hb).size) hi b0 b2
theorem all_devices (K : Below w.heap.size w W) (s3 : Sl w w.heap.size 1 A3 n3 x3) (b2 : n2 ≤ maxLen) (b3 : n3 ≤ maxLen) :
    Calls Tryz.prog 63 #[.int .i64 n3, .func (.func 67) #[planV A0 A1 A2 A3 n0 c0 n1 c1 n2 c2 n3 c3 l p t] #[]] W fun e w' =>
      e = .returned (.bool (allB n3 (deviceB n2 x3))) ∧ Below W.heap.size W w' :=
  allBelow_any _ _ n3 _ W b3 enter_deviceRight fun i hi wr hb =>
    deviceRight_any A0 A1 A2 A3 n0 c0 n1 c1 n2 c2 n3 c3 l p t x3 i wr ((s3.below (below_via K hb) (Nat.le_refl _)).more (below_via K hb).size) hi b2 b3
end

set_option maxHeartbeats 2000000 in
theorem planOk_any (v : Value) (d : PlanD) (w : World) (h : IsPlan w w.heap.size v d) :
    Calls Tryz.prog 35 #[v] w fun e w' => e = .returned (.bool (planOkB d)) ∧ Below w.heap.size w w' := by
  obtain ⟨⟨A0, A1, A2, A3, c0, c1, c2, c3, rfl, s0, s1, s2, s3⟩, b0, b1, b2, b3⟩ := h
  obtain ⟨n0, n1, n2, n3, x0, x1, x2, x3, l, p, t⟩ := d
  dsimp only at *
  have S0 := Lib.hid s0
  have S1 := Lib.hid s1
  have S2 := Lib.hid s2
  have S3 := Lib.hid s3
  have B0 := Lib.hid b0
  have B1 := Lib.hid b1
  have B2 := Lib.hid b2
  have B3 := Lib.hid b3
  clear s0 s1 s2 s3 b0 b1 b2 b3
  go_enter Tryz.func35, Tryz.ntmps35
  go_wp2_with fail
  refine (sizesRight_any A0 A1 A2 A3 n0 c0 n1 c1 n2 c2 n3 c3 l p t _ B0.out B1.out B2.out B3.out).mono ?_
  rintro e w1 ⟨rfl, hb1⟩
  have X1 := (Own.box w _ _).step hb1
  have hC1 := X1.C
  clear hb1
  go_wp2_with (first
    | (go_at_call 62; refine (timesRight_any A0 A1 A2 A3 n0 c0 n1 c1 n2 c2 n3 c3 l p t _).mono ?_; rintro e w2 ⟨rfl, hb2⟩; have X2 := X1.step hb2; have hC2 := X2.C; clear hb2)
    | (with_reducible refine (all_pods A0 A1 A2 A3 n0 c0 n1 c1 n2 c2 n3 c3 l p t x0 w _ X2.K S0.out B0.out B1.out).mono ?_; rintro e w3 ⟨rfl, hb3⟩; have X3 := X2.step hb3; have hC3 := X3.C; clear hb3)
    | (with_reducible refine (all_mins A0 A1 A2 A3 n0 c0 n1 c1 n2 c2 n3 c3 l p t x1 w _ X3.K S1.out B1.out).mono ?_; rintro e w4 ⟨rfl, hb4⟩; have X4 := X3.step hb4; have hC4 := X4.C; clear hb4)
    | (with_reducible refine (all_mounts A0 A1 A2 A3 n0 c0 n1 c1 n2 c2 n3 c3 l p t x2 w _ X4.K S2.out B0.out B2.out).mono ?_; rintro e w5 ⟨rfl, hb5⟩; have X5 := X4.step hb5; have hC5 := X5.C; clear hb5)
    | (with_reducible refine (all_devices A0 A1 A2 A3 n0 c0 n1 c1 n2 c2 n3 c3 l p t x3 w _ X5.K S3.out B2.out B3.out).mono ?_; rintro e w6 ⟨rfl, hb6⟩; have X6 := X5.step hb6; have hC6 := X6.C; clear hb6))
  all_goals (go_ret; refine ⟨ret_bool (by simp [planOkB, *]), ?_⟩)
  · exact X6.K
  · exact X5.K
  · exact X4.K
  · exact X3.K
  · exact X2.K
  · exact X1.K
end Go.Proofs.YtmgckdmglnmnnaaGreatDoor
/- PwL -/
set_option linter.unusedVariables false
namespace Go.Proofs.YtmgckdmglnmnnaaGreatDoor
open Go.RowKit

theorem plan_of_owned {w : World} {B0 B1 B2 B3 : Nat} {v0 v1 v2 v3 : Value} {d : PlanD} (o0 : OI w B0 97 4 v0 d.n0 d.x0) (o1 : OI w B1 2 1 v1 d.n1 d.x1) (o2 : OI w B2 99 2 v2 d.n2 d.x2) (o3 : OI w B3 101 1 v3 d.n3 d.x3) :
    IsPlan w w.heap.size (.agg #[v0, v1, v2, v3, .int .i64 d.l, .int .i64 d.p, .int .i64 d.t]) d := by
  obtain ⟨A0, c0, rfl, s0, b0⟩ := o0.form
  obtain ⟨A1, c1, rfl, s1, b1⟩ := o1.form
  obtain ⟨A2, c2, rfl, s2, b2⟩ := o2.form
  obtain ⟨A3, c3, rfl, s3, b3⟩ := o3.form
  exact ⟨⟨_, _, _, _, _, _, _, _, rfl, s0, s1, s2, s3⟩, b0, b1, b2, b3⟩

/-- The four lists of a plan. -/
structure Lists (w : World) (B : Nat) (v0 v1 v2 v3 : Value) (d : PlanD) : Prop where
  o0 : OI w B 97 4 v0 d.n0 d.x0
  o1 : OI w B 2 1 v1 d.n1 d.x1
  o2 : OI w B 99 2 v2 d.n2 d.x2
  o3 : OI w B 101 1 v3 d.n3 d.x3
theorem Lists.below {w w' : World} {B : Nat} {v0 v1 v2 v3 : Value} {d : PlanD} (h : Lists w B v0 v1 v2 v3 d) (hb : Below w.heap.size w w') : Lists w' B v0 v1 v2 v3 d :=
  ⟨h.o0.below hb, h.o1.below hb, h.o2.below hb, h.o3.below hb⟩
theorem Lists.keeps {w w' : World} {B g T : Nat} {cs : Array Value} {v0 v1 v2 v3 : Value} {d : PlanD} (h : Lists w B v0 v1 v2 v3 d) (kk : Keeps (· = g) w w') (hg : w.heap[g]? = some (.cells cs T (0, 0)))
    (hT : T ≠ 97 ∧ T ≠ 2 ∧ T ≠ 99 ∧ T ≠ 101) : Lists w' B v0 v1 v2 v3 d :=
  ⟨h.o0.keeps kk hg hT.1, h.o1.keeps kk hg hT.2.1, h.o2.keeps kk hg hT.2.2.1, h.o3.keeps kk hg hT.2.2.2⟩
theorem Lists.base {w : World} {B B' : Nat} {v0 v1 v2 v3 : Value} {d : PlanD} (h : Lists w B v0 v1 v2 v3 d) (hb : B' ≤ B) : Lists w B' v0 v1 v2 v3 d := by
  obtain ⟨⟨a, ha, ha'⟩, ⟨b, hb1, hb2⟩, ⟨c, hc, hc'⟩, ⟨e, he, he'⟩⟩ := h
  exact ⟨⟨a, ownsRow_base ha hb, ha'⟩, ⟨b, ownsRow_base hb1 hb, hb2⟩, ⟨c, ownsRow_base hc hb, hc'⟩, ⟨e, ownsRow_base he hb, he'⟩⟩
theorem Lists.plan {w : World} {B : Nat} {v0 v1 v2 v3 : Value} {d : PlanD} (h : Lists w B v0 v1 v2 v3 d) : IsPlan w w.heap.size (.agg #[v0, v1, v2, v3, .int .i64 d.l, .int .i64 d.p, .int .i64 d.t]) d :=
  plan_of_owned h.o0 h.o1 h.o2 h.o3
end Go.Proofs.YtmgckdmglnmnnaaGreatDoor
/- Pq -/
set_option linter.unusedVariables false
namespace Go.Proofs.YtmgckdmglnmnnaaGreatDoor
open Go.RowKit
end Go.Proofs.YtmgckdmglnmnnaaGreatDoor
/- Pr -/
set_option linter.unusedVariables false
namespace Go.Proofs.YtmgckdmglnmnnaaGreatDoor
open Go.RowKit
end Go.Proofs.YtmgckdmglnmnnaaGreatDoor
/- Ra -/
set_option linter.unusedVariables false
namespace Go.Proofs.YtmgckdmglnmnnaaGreatDoor
open Go.RowKit

/-- A number in 7 bits a byte, the lowest ones first. -/
def putN (n : Nat) : List Nat := if h : n < 128 then [n] else (n % 128 + 128) :: putN (n / 128)
termination_by n
decreasing_by omega
theorem putN_small {n : Nat} (h : n < 128) : putN n = [n] := by rw [putN, dif_pos h]
theorem putN_big {n : Nat} (h : ¬ n < 128) : putN n = (n % 128 + 128) :: putN (n / 128) := by rw [putN, dif_neg h]
/-- The number ahead, and what is behind it. -/
def getN : List Nat → Option (Nat × List Nat)
  | [] => none
  | x :: r => if x < 128 then some (x, r) else match getN r with
    | none => none
    | some (n, r') => if n = 0 then none else some (x - 128 + 128 * n, r')
theorem putN_pos (n : Nat) : 0 < (putN n).length := by
  by_cases h : n < 128
  · rw [putN_small h]; simp
  · rw [putN_big h]; simp
theorem putN_length (k n : Nat) : 0 < k → ((putN n).length ≤ k ↔ n < 128 ^ k) := by
  induction k generalizing n with
  | zero => omega
  | succ k ih =>
    intro _
    by_cases h : n < 128
    · rw [putN_small h]
      have : 128 ^ 1 ≤ 128 ^ (k + 1) := Nat.pow_le_pow_right (by omega) (by omega)
      simp
      omega
    · rw [putN_big h, List.length_cons]
      rcases Nat.eq_zero_or_pos k with rfl | hk
      · have := putN_pos (n / 128)
        omega
      · have e := ih (n / 128) hk
        have hp : 128 ^ (k + 1) = 128 ^ k * 128 := Nat.pow_succ ..
        have h2 : n / 128 < 128 ^ k ↔ n < 128 ^ k * 128 := Nat.div_lt_iff_lt_mul (by omega)
        omega
/-- A record's three numbers. -/
structure RecD where
  k : Int
  a : Int
  b : Int
deriving DecidableEq
def recOkB (r : RecD) : Bool := inB r.k 1 12 && inB r.a 0 1000000 && inB r.b 0 1000000
theorem recOkB_true {r : RecD} : recOkB r = true ↔ (1 ≤ r.k ∧ r.k ≤ 12) ∧ (0 ≤ r.a ∧ r.a ≤ 1000000) ∧ (0 ≤ r.b ∧ r.b ≤ 1000000) := by
  simp [recOkB, inB_true, and_assoc]
def recN (r : RecD) : List Nat := putN r.k.toNat ++ (putN r.a.toNat ++ putN r.b.toNat)
def recsN : List RecD → List Nat
  | [] => []
  | r :: l => recN r ++ recsN l
theorem recsN_append (l m : List RecD) : recsN (l ++ m) = recsN l ++ recsN m := by
  induction l with
  | nil => rfl
  | cons r l ih => simp [recsN, ih]
def allOk (l : List RecD) : Bool := l.all recOkB
def getRec (b : List Nat) : Option (RecD × List Nat) :=
  match getN b with
  | none => none
  | some (k, b1) => match getN b1 with
    | none => none
    | some (a, b2) => match getN b2 with
      | none => none
      | some (c, b3) => if recOkB ⟨k, a, c⟩ then some (⟨k, a, c⟩, b3) else none
def getRecs : Nat → List Nat → Option (List RecD × List Nat)
  | 0, b => some ([], b)
  | n + 1, b => match getRec b with
    | none => none
    | some (r, b1) => match getRecs n b1 with
      | none => none
      | some (l, b2) => some (r :: l, b2)
/-- What is read of bytes. -/
def readN (b : List Nat) : Option (List RecD) :=
  match getN b with
  | none => none
  | some (n, r) => if 80 < n then none else match getRecs n r with
    | none => none
    | some (l, r2) => if r2 = [] then some l else none

end Go.Proofs.YtmgckdmglnmnnaaGreatDoor
/- Rb -/
set_option linter.unusedVariables false
namespace Go.Proofs.YtmgckdmglnmnnaaGreatDoor
open Go.RowKit

def sumN (b : List Nat) : Nat := b.foldl (fun n x => (31 * n + x) % 65521) 7
theorem sumN_lt (b : List Nat) : sumN b < 65521 := by
  have : ∀ (b : List Nat) (a : Nat), a < 65521 → b.foldl (fun n x => (31 * n + x) % 65521) a < 65521 := fun b => by
    induction b with
    | nil => exact fun a h => h
    | cons x b ih => exact fun a _ => ih _ (Nat.mod_lt _ (by omega))
  exact this b 7 (by omega)
def twoN (n : Nat) : List Nat := [n % 256, n / 256]
def frameN (b : List Nat) : List Nat := twoN b.length ++ (twoN (sumN b) ++ b)
theorem frameN_length (b : List Nat) : (frameN b).length = 4 + b.length := by simp [frameN, twoN]; omega
def at2 (b : List Nat) (i : Nat) : Nat := b.getD i 0 + 256 * b.getD (i + 1) 0
/-- The frame ahead: its records, and how long it is. -/
def getFrame (b : List Nat) : Option (List RecD × Nat) :=
  if b.length < 4 then none else
  if b.length < 4 + at2 b 0 then none else
  if sumN ((b.drop 4).take (at2 b 0)) ≠ at2 b 2 then none else
  match readN ((b.drop 4).take (at2 b 0)) with
  | none => none
  | some l => some (l, 4 + at2 b 0)
theorem getFrame_len {b : List Nat} {l : List RecD} {k : Nat} (h : getFrame b = some (l, k)) : 4 ≤ k ∧ k ≤ b.length := by
  unfold getFrame at h
  split at h
  · cases h
  split at h
  · cases h
  split at h
  · cases h
  split at h
  · cases h
  cases h
  omega
/-- All frames ahead, as far as they are whole: their lists, and how many bytes they are. -/
def framesN (b : List Nat) : List (List RecD) × Nat :=
  match h : getFrame b with
  | none => ([], 0)
  | some (l, k) => (l :: (framesN (b.drop k)).1, k + (framesN (b.drop k)).2)
termination_by b.length
decreasing_by all_goals (have := getFrame_len h; simp; omega)
end Go.Proofs.YtmgckdmglnmnnaaGreatDoor
/- Rc -/
set_option linter.unusedVariables false
namespace Go.Proofs.YtmgckdmglnmnnaaGreatDoor
open Go.RowKit

end Go.Proofs.YtmgckdmglnmnnaaGreatDoor
/- Ba -/
set_option linter.unusedVariables false
namespace Go.Proofs.YtmgckdmglnmnnaaGreatDoor
open Go.RowKit

theorem info_u8 : (Tryz.prog.info? 5).map (fun i => (i.zero, i.size, i.bytes)) = some (some (.int .u8 0), 1, 1) := by kernel_rfl
theorem info_rec : (Tryz.prog.info? 56).map (fun i => (i.zero, i.size, i.bytes)) = some (some (.agg #[.int .i64 0, .int .i64 0, .int .i64 0]), 3, 24) := by kernel_rfl

/-! Bytes. -/
def byteV (b : Nat) : Value := .int .u8 (b : Int)
def SmallB (L : List Nat) : Prop := ∀ x ∈ L, x < 256
theorem SmallB.getD {L : List Nat} (h : SmallB L) (k : Nat) : L.getD k 0 < 256 := by
  by_cases hk : k < L.length
  · rw [List.getD_eq_getElem?_getD, List.getElem?_eq_getElem hk]; exact h _ (List.getElem_mem _)
  · rw [List.getD_eq_getElem?_getD, List.getElem?_eq_none (by omega)]; simp
theorem SmallB.drop {L : List Nat} (h : SmallB L) (k : Nat) : SmallB (L.drop k) := fun x hx => h x (List.mem_of_mem_drop hx)
theorem SmallB.take {L : List Nat} (h : SmallB L) (k : Nat) : SmallB (L.take k) := fun x hx => h x (List.mem_of_mem_take hx)
theorem SmallB.append {L M : List Nat} (h : SmallB L) (h' : SmallB M) : SmallB (L ++ M) := fun x hx => (List.mem_append.1 hx).elim (h x) (h' x)

/-- A slice of the bytes L, lying below block B. -/
structure Bt (w : World) (B : Nat) (v : Value) (L : List Nat) : Prop where
  it : ∃ A c, v = .slice A L.length c ∧ L.length ≤ c ∧ (0 < L.length → ∃ b off, A = some ⟨b, off, none⟩ ∧ b < B ∧ ∀ j, j < L.length → w.cell? ⟨b, off + j, none⟩ = some (.int .u8 (L.getD j 0 : Nat)))
  len : L.length ≤ maxLen
  small : SmallB L
theorem Bt.below {w w' : World} {B B' : Nat} {v : Value} {L : List Nat} (h : Bt w B v L) (hb : Below B' w w') (hB : B ≤ B') : Bt w' B v L := by
  obtain ⟨⟨A, c, rfl, hcap, hc⟩, hl, hs⟩ := h
  refine ⟨⟨A, c, rfl, hcap, fun hn => ?_⟩, hl, hs⟩
  obtain ⟨b, off, rfl, hlt, hc⟩ := hc hn
  exact ⟨b, off, rfl, hlt, fun j hj => (hb.cell (p := ⟨b, off + j, none⟩) (by show b < B'; omega)).trans (hc j hj)⟩
theorem Bt.more {w : World} {B B' : Nat} {v : Value} {L : List Nat} (h : Bt w B v L) (hB : B ≤ B') : Bt w B' v L := by
  obtain ⟨⟨A, c, rfl, hcap, hc⟩, hl, hs⟩ := h
  refine ⟨⟨A, c, rfl, hcap, fun hn => ?_⟩, hl, hs⟩
  obtain ⟨b, off, rfl, hlt, hc⟩ := hc hn
  exact ⟨b, off, rfl, by omega, hc⟩
theorem Bt.go {w w' : World} {v : Value} {L : List Nat} (h : Bt w w.heap.size v L) (hb : Below w.heap.size w w') : Bt w' w'.heap.size v L := (h.below hb (Nat.le_refl _)).more hb.size
theorem Bt.cell {w : World} {B : Nat} {A : Option Addr} {n c : Nat} {L : List Nat} (h : Bt w B (.slice A n c) L) {k : Nat} (hk : k < L.length) :
    ∃ b off, A = some ⟨b, off, none⟩ ∧ b < B ∧ w.cell? ⟨b, off + k, none⟩ = some (.int .u8 (L.getD k 0 : Nat)) := by
  obtain ⟨⟨A', c', hv, hcap, hc⟩, hl, hs⟩ := h
  injection hv with h1 _ _
  subst h1
  obtain ⟨b, off, e, hlt, hc⟩ := hc (by omega)
  exact ⟨b, off, e, hlt, hc k hk⟩
theorem getD_drop (L : List Nat) (k j : Nat) : (L.drop k).getD j 0 = L.getD (k + j) 0 := by simp [List.getD]
theorem Bt.drop {w : World} {B : Nat} {A : Option Addr} {n c : Nat} {L : List Nat} (h : Bt w B (.slice A n c) L) {k : Nat} (hk : k ≤ L.length) :
    Bt w B (.slice (if c = k then A else A.map (·.add k)) (n - k) (c - k)) (L.drop k) := by
  obtain ⟨⟨A', c1, hv, hcap, hc⟩, hl, hs⟩ := h
  injection hv with h1 h2 h3
  subst h1 h2 h3
  refine ⟨⟨_, c - k, by rw [List.length_drop], by rw [List.length_drop]; omega, fun hn => ?_⟩, by rw [List.length_drop]; omega, hs.drop k⟩
  rw [List.length_drop] at hn
  obtain ⟨b, off, rfl, hlt, hc⟩ := hc (by omega)
  rw [if_neg (by omega)]
  have ha : (⟨b, off, none⟩ : Addr).add k = ⟨b, off + k, none⟩ := by unfold Addr.add; split <;> simp_all
  refine ⟨b, off + k, by simp [ha], hlt, fun j hj => ?_⟩
  rw [List.length_drop] at hj
  rw [getD_drop, Nat.add_assoc]
  exact hc (k + j) (by omega)
theorem Bt.nil (w : World) (B : Nat) (A : Option Addr) (c : Nat) : Bt w B (.slice A 0 c) [] := ⟨⟨A, c, rfl, Nat.zero_le _, fun h => absurd h (Nat.lt_irrefl _)⟩, Nat.zero_le _, fun x hx => by cases hx⟩
theorem Bt.take {w : World} {B : Nat} {A : Option Addr} {n c : Nat} {L : List Nat} (h : Bt w B (.slice A n c) L) {k : Nat} (hk : k ≤ L.length) {c' : Nat} (hc' : k ≤ c') :
    Bt w B (.slice A k c') (L.take k) := by
  obtain ⟨⟨A', c1, hv, hcap, hc⟩, hl, hs⟩ := h
  injection hv with h1 h2 h3
  subst h1
  refine ⟨⟨A, c', by rw [List.length_take, Nat.min_eq_left hk], by rw [List.length_take]; omega, fun hn => ?_⟩, by rw [List.length_take]; omega, hs.take k⟩
  rw [List.length_take] at hn
  obtain ⟨b, off, rfl, hlt, hc⟩ := hc (by omega)
  refine ⟨b, off, rfl, hlt, fun j hj => ?_⟩
  rw [List.length_take] at hj
  have : (L.take k).getD j 0 = L.getD j 0 := by simp [List.getD, show j < k by omega]
  rw [this]
  exact hc j (by omega)

/-- A row of bytes of the call's own. -/
structure OB (w : World) (B : Nat) (v : Value) (L : List Nat) : Prop where
  own : w.ownsRow B 5 1 v L.length (L.map byteV)
  small : SmallB L
theorem OB.below {w w' : World} {B : Nat} {v : Value} {L : List Nat} (h : OB w B v L) (hb : Below w.heap.size w w') : OB w' B v L := ⟨ownsRow_below h.own hb, h.small⟩
theorem OB.base {w : World} {B B' : Nat} {v : Value} {L : List Nat} (h : OB w B v L) (hb : B' ≤ B) : OB w B' v L := ⟨ownsRow_base h.own hb, h.small⟩
theorem OB.lt {w : World} {B : Nat} {v : Value} {L : List Nat} (h : OB w B v L) {r : Nat} (hr : v.ownBlock = some r) : B ≤ r ∧ r < w.heap.size := World.ownsRow.lt h.own r hr
theorem OB.nil_ (w : World) (B : Nat) : OB w B (.slice none 0 0) [] := ⟨World.ownsRow_nil _ _ _ _, fun x hx => by cases hx⟩
theorem OB.len {w : World} {B : Nat} {v : Value} {L : List Nat} (h : OB w B v L) : L.length ≤ maxLen := by
  rcases h.own.2 with ⟨_, h0⟩ | ⟨g, cap, cur, _, _, _, hnc, hcm, _⟩
  · rw [h0]; exact Nat.zero_le _
  · exact Nat.le_trans hnc hcm
theorem OB.empty {w : World} {B : Nat} (hB : B ≤ w.heap.size) : OB (w.alloc (.cells #[] 5)) B (.slice (some ⟨w.heap.size, 0, none⟩) 0 0) [] := by
  have := World.ownsRow_made (base := w.heap.size) (e := 5) (size := 1) w #[] 0 (by simp) (Nat.zero_le _) rfl
  exact ⟨ownsRow_base (by simpa using this) hB, fun x hx => by cases hx⟩
theorem byteV_get {L : List Nat} {j : Nat} (hj : j < L.length) : (L.map byteV)[j]? = some (.int .u8 (L.getD j 0 : Nat)) := by simp [byteV, List.getD, hj]
theorem OB.open_ {w : World} {B : Nat} {v : Value} {L : List Nat} (h : OB w B v L) :
    ∃ A c g, v = .slice A L.length c ∧ L.length ≤ c ∧ (0 < L.length → A = some ⟨g, 0, none⟩) ∧ B ≤ g ∧ (0 < L.length → g < w.heap.size) ∧ (∀ j, j < L.length → w.cell? ⟨g, j, none⟩ = some (.int .u8 (L.getD j 0 : Nat)) ∧ w.frozen? ⟨g, j, none⟩ = false) := by
  rcases h.own.2 with ⟨rfl, h0⟩ | ⟨g, cap, cur, rfl, hb, hh, hnc, _⟩
  · exact ⟨none, 0, B, by rw [h0], by omega, fun h => by omega, Nat.le_refl _, fun h => by omega, fun j hj => by omega⟩
  · refine ⟨_, cap, g, rfl, hnc, fun _ => rfl, hb, fun _ => (Array.getElem?_eq_some_iff.1 hh).1, fun j hj => ⟨?_, frozen_of_row _ _ _ _ _ hh⟩⟩
    have := h.own.cells (g := g) rfl j _ (byteV_get hj)
    rwa [add_zero_block] at this
theorem OB.bt {w : World} {B : Nat} {v : Value} {L : List Nat} (h : OB w B v L) : Bt w w.heap.size v L := by
  have hl := h.len
  have hs := h.small
  obtain ⟨A, c, g, rfl, hcap, hA, hB, hg, hc⟩ := h.open_
  exact ⟨⟨A, c, rfl, hcap, fun hn => ⟨g, 0, hA hn, hg hn, fun j hj => by rw [Nat.zero_add]; exact (hc j hj).1⟩⟩, hl, hs⟩

/-! Records. -/
def flat (l : List RecD) : List Int := l.flatMap fun r => [r.k, r.a, r.b]
theorem flat_cons (r : RecD) (l : List RecD) : flat (r :: l) = r.k :: r.a :: r.b :: flat l := rfl
theorem flat_append (l m : List RecD) : flat (l ++ m) = flat l ++ flat m := List.flatMap_append
theorem flat_length (l : List RecD) : (flat l).length = l.length * 3 := by
  induction l with
  | nil => rfl
  | cons r l ih => rw [flat_cons]; simp [ih]; omega
def recAt (l : List RecD) (i : Nat) : RecD := l.getD i ⟨0, 0, 0⟩
def cellR (l : List RecD) (j : Nat) : Int := (flat l).getD j 0
theorem cellR_at (l : List RecD) (i : Nat) : cellR l (i * 3) = (recAt l i).k ∧ cellR l (i * 3 + 1) = (recAt l i).a ∧ cellR l (i * 3 + 2) = (recAt l i).b := by
  unfold cellR recAt
  induction l generalizing i with
  | nil => simp [flat]
  | cons r l ih =>
    cases i with
    | zero => exact ⟨rfl, rfl, rfl⟩
    | succ i =>
      have := ih i
      rw [flat_cons, show (i + 1) * 3 = i * 3 + 1 + 1 + 1 by omega, show i * 3 + 1 + 1 + 1 + 1 = (i * 3 + 1) + 1 + 1 + 1 by omega, show i * 3 + 1 + 1 + 1 + 2 = (i * 3 + 2) + 1 + 1 + 1 by omega]
      simpa only [List.getD_cons_succ] using this
def recV (r : RecD) : Value := .agg #[.int .i64 r.k, .int .i64 r.a, .int .i64 r.b]
def recVs (l : List RecD) : List Value := (flat l).map (Value.int .i64)
theorem recVs_get {l : List RecD} {j : Nat} (hj : j < l.length * 3) : (recVs l)[j]? = some (.int .i64 (cellR l j)) := by
  have : j < (flat l).length := by rw [flat_length]; exact hj
  simp [recVs, cellR, List.getD, this]
/-- A slice of the records l, lying below block B. -/
structure Rt (w : World) (B : Nat) (v : Value) (l : List RecD) : Prop where
  it : ∃ A c, v = .slice A l.length c ∧ Sl w B 3 A l.length (cellR l)
  len : l.length ≤ maxLen
theorem Rt.below {w w' : World} {B B' : Nat} {v : Value} {l : List RecD} (h : Rt w B v l) (hb : Below B' w w') (hB : B ≤ B') : Rt w' B v l := by
  obtain ⟨⟨A, c, rfl, hc⟩, hl⟩ := h
  exact ⟨⟨A, c, rfl, hc.below hb hB⟩, hl⟩
theorem Rt.more {w : World} {B B' : Nat} {v : Value} {l : List RecD} (h : Rt w B v l) (hB : B ≤ B') : Rt w B' v l := by
  obtain ⟨⟨A, c, rfl, hc⟩, hl⟩ := h
  exact ⟨⟨A, c, rfl, hc.more hB⟩, hl⟩
theorem Rt.go {w w' : World} {v : Value} {l : List RecD} (h : Rt w w.heap.size v l) (hb : Below w.heap.size w w') : Rt w' w'.heap.size v l := (h.below hb (Nat.le_refl _)).more hb.size
theorem Sl.cell3 {w : World} {B n : Nat} {A : Option Addr} {x : Nat → Int} (h : Sl w B 3 A n x) {i : Nat} (hi : i < n) : ∃ b off, A = some ⟨b, off, none⟩ ∧ b < B ∧
    w.cell? ⟨b, off + i * 3, none⟩ = some (.int .i64 (x (i * 3))) ∧ w.cell? ⟨b, off + i * 3 + 1, none⟩ = some (.int .i64 (x (i * 3 + 1))) ∧ w.cell? ⟨b, off + i * 3 + 2, none⟩ = some (.int .i64 (x (i * 3 + 2))) := by
  obtain ⟨b, off, rfl, hb, hc⟩ := h (by omega)
  exact ⟨b, off, rfl, hb, hc _ (by omega), by rw [Nat.add_assoc]; exact hc _ (by omega), by rw [Nat.add_assoc]; exact hc _ (by omega)⟩
theorem Rt.cell {w : World} {B : Nat} {A : Option Addr} {n c : Nat} {l : List RecD} (h : Rt w B (.slice A n c) l) {i : Nat} (hi : i < l.length) : ∃ b off, A = some ⟨b, off, none⟩ ∧ b < B ∧
    w.cell? ⟨b, off + i * 3, none⟩ = some (.int .i64 (recAt l i).k) ∧ w.cell? ⟨b, off + i * 3 + 1, none⟩ = some (.int .i64 (recAt l i).a) ∧ w.cell? ⟨b, off + i * 3 + 2, none⟩ = some (.int .i64 (recAt l i).b) := by
  obtain ⟨⟨A', c', hv, hc⟩, hl⟩ := h
  injection hv with h1 _ _
  subst h1
  obtain ⟨e1, e2, e3⟩ := cellR_at l i
  have := hc.cell3 hi
  rwa [e1, e2, e3] at this
/-- A row of records of the call's own. -/
def OR (w : World) (B : Nat) (v : Value) (l : List RecD) : Prop := w.ownsRow B 56 3 v l.length (recVs l)
theorem OR.below {w w' : World} {B : Nat} {v : Value} {l : List RecD} (h : OR w B v l) (hb : Below w.heap.size w w') : OR w' B v l := ownsRow_below h hb
theorem OR.base {w : World} {B B' : Nat} {v : Value} {l : List RecD} (h : OR w B v l) (hb : B' ≤ B) : OR w B' v l := ownsRow_base h hb
theorem OR.lt {w : World} {B : Nat} {v : Value} {l : List RecD} (h : OR w B v l) {r : Nat} (hr : v.ownBlock = some r) : B ≤ r ∧ r < w.heap.size := World.ownsRow.lt h r hr
theorem OR.nil_ (w : World) (B : Nat) : OR w B (.slice none 0 0) [] := World.ownsRow_nil _ _ _ _
theorem OR.len {w : World} {B : Nat} {v : Value} {l : List RecD} (h : OR w B v l) : l.length ≤ maxLen := by
  rcases h.2 with ⟨_, h0⟩ | ⟨g, cap, cur, _, _, _, hnc, hcm, _⟩
  · rw [h0]; exact Nat.zero_le _
  · exact Nat.le_trans hnc hcm
theorem OR.empty {w : World} {B : Nat} (hB : B ≤ w.heap.size) : OR (w.alloc (.cells #[] 56)) B (.slice (some ⟨w.heap.size, 0, none⟩) 0 0) [] := by
  have := World.ownsRow_made (base := w.heap.size) (e := 56) (size := 3) w #[] 0 (by simp) (Nat.zero_le _) rfl
  exact ownsRow_base (by simpa [recVs, flat] using this) hB
theorem OR.open_ {w : World} {B : Nat} {v : Value} {l : List RecD} (h : OR w B v l) :
    ∃ A c g, v = .slice A l.length c ∧ (0 < l.length → A = some ⟨g, 0, none⟩) ∧ B ≤ g ∧ (0 < l.length → g < w.heap.size) ∧ RowF w g (l.length * 3) (cellR l) := by
  rcases h.2 with ⟨rfl, h0⟩ | ⟨g, cap, cur, rfl, hb, hh, _⟩
  · exact ⟨none, 0, B, by rw [h0], fun h => by omega, Nat.le_refl _, fun h => by omega, fun j hj => by omega⟩
  · refine ⟨_, cap, g, rfl, fun _ => rfl, hb, fun _ => (Array.getElem?_eq_some_iff.1 hh).1, fun j hj => ⟨?_, frozen_of_row _ _ _ _ _ hh⟩⟩
    have := World.ownsRow.cells h (g := g) rfl j _ (recVs_get hj)
    rwa [add_zero_block] at this
theorem OR.rt {w : World} {B : Nat} {v : Value} {l : List RecD} (h : OR w B v l) : Rt w w.heap.size v l := by
  have hl := h.len
  obtain ⟨A, c, g, rfl, hA, hB, hg, hc⟩ := h.open_
  exact ⟨⟨A, c, rfl, fun hn => ⟨g, 0, hA hn, hg hn, fun j hj => by rw [Nat.zero_add]; exact (hc j hj).1⟩⟩, hl⟩
end Go.Proofs.YtmgckdmglnmnnaaGreatDoor
