/-
  Numbers and records as bytes, there and back.
-/
import Derived.Test.YtmcafdhffkhcgaaGreatMZ0
import Derived.StillTailTactics
import Derived.RegionTactic
import Derived.BigRegion
import Derived.Deep.AppendLies
import Derived.Deep.RegionLaw
import Derived.Deep.DeepCutAuto
/- Pd -/
set_option linter.unusedVariables false
namespace Go.Proofs.YtmcafdhffkhcgaaGreat
open Go.RowKit

abbrev planC (A0 A1 A2 A3 : Option Addr) (n0 c0 n1 c1 n2 c2 n3 c3 : Nat) (l p t : Int) : Array Value :=
  #[.slice A0 n0 c0, .slice A1 n1 c1, .slice A2 n2 c2, .slice A3 n3 c3, .int .i64 l, .int .i64 p, .int .i64 t]

set_option maxHeartbeats 1000000 in
theorem l1Pods_any (A0 A1 A2 A3 : Option Addr) (n0 c0 n1 c1 n2 c2 n3 c3 : Nat) (l p t : Int) (x0 : Nat → Int) (w : World)
    (s0 : Sl w w.heap.size 4 A0 n0 x0) (b0 : n0 ≤ maxLen) (b1 : n1 ≤ maxLen) :
    Calls Tryz.prog 28 #[planV A0 A1 A2 A3 n0 c0 n1 c1 n2 c2 n3 c3 l p t] w fun e w' =>
      e = .returned (.bool (allB n0 (podB n1 x0) && decide (n0 ≤ 12))) ∧ Below w.heap.size w w' := by
  unfold maxLen at b0 b1
  have S0 := Lib.hid s0
  clear s0
  go_enter Tryz.func28, Tryz.ntmps28
  go_wp2
  go_loopw [3] (fun i wr => ∃ k : Nat, k ≤ n0 ∧ i = .int .i64 k ∧ (∀ j, j < k → podB n1 x0 j = true) ∧ Own w wr w.heap.size (planC A0 A1 A2 A3 n0 c0 n1 c1 n2 c2 n3 c3 l p t)) (fun i _ => n0 - (intOf i).toNat)
  case atStart => exact ⟨0, Nat.zero_le _, rfl, fun j hj => absurd hj (by omega), Own.box w _ _⟩
  case round =>
    obtain ⟨k, hk, rfl, hall, X⟩ := hrel
    have HA := Lib.hid hall
    clear hall
    have hC := X.C
    have hz := X.z
    by_cases hlt : k < n0
    · obtain ⟨b, off, rfl, hb, q0, q1, q2, q3⟩ := (S0.out.own X).cell4 hlt
      go_wp2_with (go_at_call 25; refine (in_any _ _ _ _).mono ?_; rintro e w' ⟨rfl, rfl⟩)
      all_goals first
        | (refine ⟨⟨k + 1, by omega, by go_num, step_all HA.out (by simp_all [podB]), X.alloc _⟩, by simp [intOf]; omega⟩)
        | (go_ret; exact ⟨ret_bool (by rw [allB_false hlt (by simp_all [podB])]; rfl), (X.alloc _).K⟩)
    · obtain rfl : k = n0 := by omega
      go_wp2
      go_ret
      exact ⟨ret_bool (by rw [allB_true.2 HA.out, Bool.eq_iff_iff]; simp; omega), X.K⟩

set_option maxHeartbeats 1000000 in
theorem l1Mounts_any (A0 A1 A2 A3 : Option Addr) (n0 c0 n1 c1 n2 c2 n3 c3 : Nat) (l p t : Int) (x2 x3 : Nat → Int) (w : World)
    (s2 : Sl w w.heap.size 2 A2 n2 x2) (s3 : Sl w w.heap.size 1 A3 n3 x3) (b0 : n0 ≤ maxLen) (b2 : n2 ≤ maxLen) (b3 : n3 ≤ maxLen) :
    Calls Tryz.prog 29 #[planV A0 A1 A2 A3 n0 c0 n1 c1 n2 c2 n3 c3 l p t] w fun e w' =>
      e = .returned (.bool (allB n2 (mountB n0 x2) && allB n3 (deviceB n2 x3) && decide (n2 ≤ 12) && decide (n3 ≤ 12))) ∧ Below w.heap.size w w' := by
  unfold maxLen at b0 b2 b3
  have S2 := Lib.hid s2
  have S3 := Lib.hid s3
  clear s2 s3
  go_enter Tryz.func29, Tryz.ntmps29
  go_wp2
  go_loopw [3] (fun i wr => ∃ k : Nat, k ≤ n2 ∧ i = .int .i64 k ∧ (∀ j, j < k → mountB n0 x2 j = true) ∧ Own w wr w.heap.size (planC A0 A1 A2 A3 n0 c0 n1 c1 n2 c2 n3 c3 l p t)) (fun i _ => n2 - (intOf i).toNat)
  case atStart => exact ⟨0, Nat.zero_le _, rfl, fun j hj => absurd hj (by omega), Own.box w _ _⟩
  case round =>
    obtain ⟨k, hk, rfl, hall, X⟩ := hrel
    have HA := Lib.hid hall
    clear hall
    have hC := X.C
    have hz := X.z
    by_cases hlt : k < n2
    · obtain ⟨b, off, rfl, hb, q0, q1⟩ := (S2.out.own X).cell2 hlt
      cases hp : inB (x2 (k * 2)) 0 (n0 - 1)
      all_goals
        go_wp2_with fail
        go_quiet ((go_at_call 25; exact Calls.quiet_of_same ((in_any _ _ _ _).mono fun e w' h => ⟨h.1, h.2.symm⟩)))
        go_wp2
        all_goals first
          | (refine ⟨⟨k + 1, by omega, by go_num, step_all HA.out (by simp_all [mountB]), X.drewN _⟩, by simp [intOf]; omega⟩)
          | (go_ret; exact ⟨ret_bool (by rw [allB_false hlt (by simp_all [mountB])]; rfl), (X.drewN _).K⟩)
    · obtain rfl : k = n2 := by omega
      have HA2 := Lib.hid (allB_true.2 HA.out)
      clear HA hk hlt
      go_wp2
      go_loopw [4] (fun i wr => ∃ m : Nat, m ≤ n3 ∧ i = .int .i64 m ∧ (∀ j, j < m → deviceB k x3 j = true) ∧ Own w wr w.heap.size (planC A0 A1 A2 A3 n0 c0 n1 c1 k c2 n3 c3 l p t)) (fun i _ => n3 - (intOf i).toNat)
      case atStart => exact ⟨0, Nat.zero_le _, rfl, fun j hj => absurd hj (by omega), X⟩
      case round =>
        clear hC hz X
        obtain ⟨m, hm, rfl, hall, X⟩ := hrel
        have HA := Lib.hid hall
        clear hall
        have hC := X.C
        have hz := X.z
        by_cases hlt : m < n3
        · obtain ⟨b, off, rfl, hb, q0⟩ := (S3.out.own X).cell1 hlt
          go_wp2_with fail
          go_quiet ((go_at_call 25; exact Calls.quiet_of_same ((in_any _ _ _ _).mono fun e w' h => ⟨h.1, h.2.symm⟩)))
          go_wp2
          all_goals first
            | (refine ⟨⟨m + 1, by omega, by go_num, step_all HA.out (by simp_all [deviceB]), X.drewN _⟩, by simp [intOf]; omega⟩)
            | (go_ret; exact ⟨ret_bool (by rw [allB_false hlt (by simp_all [deviceB])]; simp), (X.drewN _).K⟩)
        · obtain rfl : m = n3 := by omega
          have HB := Lib.hid (allB_true.2 HA.out)
          clear HA hm hlt
          go_wp2
          all_goals (go_ret; refine ⟨ret_bool ?_, X.K⟩)
          all_goals (rw [HA2.out, HB.out, Bool.eq_iff_iff]; simp; omega)

set_option maxHeartbeats 1000000 in
theorem spec_planOk_any (v : Value) (d : PlanD) (w : World) (h : IsPlan w w.heap.size v d) :
    Calls Tryz.prog 15 #[v] w fun e w' => e = .returned (.bool (planOkB d)) ∧ Below w.heap.size w w' := by
  obtain ⟨⟨A0, A1, A2, A3, c0, c1, c2, c3, rfl, s0, s1, s2, s3⟩, b0, b1, b2, b3⟩ := h
  obtain ⟨n0, n1, n2, n3, x0, x1, x2, x3, l, p, t⟩ := d
  dsimp only at *
  have S0 := Lib.hid s0
  have S1 := Lib.hid s1
  have S2 := Lib.hid s2
  have S3 := Lib.hid s3
  have B0 := Lib.hid b0
  have B2 := Lib.hid b2
  have B3 := Lib.hid b3
  clear s0 s1 s2 s3 b0 b2 b3
  have B1 := Lib.hid b1
  unfold maxLen at b1
  go_enter Tryz.func15, Tryz.ntmps15
  go_wp2
  go_loopw [3] (fun i wr => ∃ k : Nat, k ≤ n1 ∧ i = .int .i64 k ∧ (∀ j, j < k → minB x1 j = true) ∧ Own w wr w.heap.size (planC A0 A1 A2 A3 n0 c0 n1 c1 n2 c2 n3 c3 l p t)) (fun i _ => n1 - (intOf i).toNat)
  case atStart => exact ⟨0, Nat.zero_le _, rfl, fun j hj => absurd hj (by omega), Own.box w _ _⟩
  case round =>
    obtain ⟨k, hk, rfl, hall, X⟩ := hrel
    have HA := Lib.hid hall
    clear hall
    have hC := X.C
    have hz := X.z
    by_cases hlt : k < n1
    · obtain ⟨b, off, rfl, hb, q0⟩ := (S1.out.own X).cell1 hlt
      go_wp2_with (go_at_call 25; refine (in_any _ _ _ _).mono ?_; rintro e w' ⟨rfl, rfl⟩)
      all_goals first
        | (refine ⟨⟨k + 1, by omega, by go_num, step_all HA.out (by simp_all [minB]), X⟩, by simp [intOf]; omega⟩)
        | (go_ret; exact ⟨ret_bool (by simp [planOkB, allB_false hlt (show minB x1 k = false by simp_all [minB])]), X.K⟩)
    · obtain rfl : k = n1 := by omega
      have HB := Lib.hid (allB_true.2 HA.out)
      clear HA hk hlt
      go_wp2_with (first
        | (go_at_call 25; refine (in_any _ _ _ _).mono ?_; rintro e w' ⟨rfl, rfl⟩)
        | (go_at_call 28; refine (l1Pods_any A0 A1 A2 A3 n0 c0 k c1 n2 c2 n3 c3 l p t x0 _ (S0.out.own X) B0.out B1.out).mono ?_; rintro e w2 ⟨rfl, hb2⟩; have X2 := X.step hb2; have hC2 := X2.C; clear hb2)
        | (go_at_call 29; refine (l1Mounts_any A0 A1 A2 A3 n0 c0 k c1 n2 c2 n3 c3 l p t x2 x3 _ (S2.out.own X2) (S3.out.own X2) B0.out B2.out B3.out).mono ?_; rintro e w3 ⟨rfl, hb3⟩; have X3 := X2.step hb3; have hC3 := X3.C; clear hb3))
      all_goals (go_ret; refine ⟨ret_bool ?_, by first | exact X3.K | exact X2.K | exact X.K⟩)
      all_goals (have hB := HB.out; clear HB hC X; rw [Bool.eq_iff_iff]; simp only [planOkB, sizesB, timesB, hB, Bool.and_eq_true, decide_eq_true_eq]; grind)
end Go.Proofs.YtmcafdhffkhcgaaGreat
/- Pe -/
set_option linter.unusedVariables false
namespace Go.Proofs.YtmcafdhffkhcgaaGreat
open Go.RowKit
theorem info_pod : (Tryz.prog.info? 53).map (fun i => (i.zero, i.size, i.bytes)) = some (some (.agg #[.int .i64 0, .int .i64 0, .int .i64 0, .int .i64 0]), 4, 32) := by kernel_rfl
theorem info_i64 : (Tryz.prog.info? 2).map (fun i => (i.zero, i.size, i.bytes)) = some (some (.int .i64 0), 1, 8) := by kernel_rfl
theorem info_mount : (Tryz.prog.info? 47).map (fun i => (i.zero, i.size, i.bytes)) = some (some (.agg #[.int .i64 0, .int .i64 0]), 2, 16) := by kernel_rfl
theorem info_device : (Tryz.prog.info? 55).map (fun i => (i.zero, i.size, i.bytes)) = some (some (.agg #[.int .i64 0]), 1, 8) := by kernel_rfl

end Go.Proofs.YtmcafdhffkhcgaaGreat
/- Pf -/
set_option linter.unusedVariables false
namespace Go.Proofs.YtmcafdhffkhcgaaGreat
open Go.RowKit

theorem RowF.far {w : World} {g N : Nat} {x : Nat → Int} (h : RowF w g N x) {p : Addr} (hne : p.block ≠ g) (v : Value) : RowF (w.setCell p v) g N x := fun j hj =>
  ⟨(World.cell?_setCell_other _ _ _ _ (fun e => hne (by rw [e]))).trans (h j hj).1, by rw [World.frozen?_setCell]; exact (h j hj).2⟩
theorem RowF.alloc {w : World} {g N : Nat} {x : Nat → Int} (h : RowF w g N x) (hg : g < w.heap.size) (o : Obj) : RowF (w.alloc o) g N x := h.below ((Below.refl _ _).alloc (Nat.le_refl _) o) hg
theorem RowF.sl {w : World} {g N k n B : Nat} {x : Nat → Int} (h : RowF w g N x) (hN : n * k ≤ N) (hg : g < B) : Sl w B k (some ⟨g, 0, none⟩) n x := fun _ =>
  ⟨g, 0, rfl, hg, fun j hj => by rw [Nat.zero_add]; exact (h j (by omega)).1⟩

/-- A plan of new memory. -/
structure NewPlan (w w' : World) (d : PlanD) (g0 g1 g2 g3 : Nat) : Prop where
  l0 : w.heap.size ≤ g0
  l1 : g0 < g1
  l2 : g1 < g2
  l3 : g2 < g3
  l4 : g3 < w'.heap.size
  R0 : RowF w' g0 (d.n0 * 4) d.x0
  R1 : RowF w' g1 d.n1 d.x1
  R2 : RowF w' g2 (d.n2 * 2) d.x2
  R3 : RowF w' g3 d.n3 d.x3
abbrev newPlanV (d : PlanD) (g0 g1 g2 g3 : Nat) : Value := planV (some ⟨g0, 0, none⟩) (some ⟨g1, 0, none⟩) (some ⟨g2, 0, none⟩) (some ⟨g3, 0, none⟩) d.n0 d.n0 d.n1 d.n1 d.n2 d.n2 d.n3 d.n3 d.l d.p d.t
theorem heap_size_alloc_ (w : World) (o : Obj) : (w.alloc o).heap.size = w.heap.size + 1 := by simp

/-- The three blocks of a copy under way: what came in, the answer's cell, the copy. -/
structure TP (w w1 : World) (cs zs os : Array Value) : Prop where
  A : Own w w1 w.heap.size cs
  Z : Own w w1 (w.heap.size + 1) zs
  O : Own w w1 (w.heap.size + 1 + 1) os
theorem TP.start (w : World) (cs zs os : Array Value) (t t' t'' : TypeId) : TP w (((w.alloc (.cells cs t)).alloc (.cells zs t')).alloc (.cells os t'')) cs zs os := by
  have h1 := Own.box w cs t
  have h2 := Own.box2 h1.K zs t'
  have h3 := Own.box2 h2.K os t''
  simp only [heap_size_alloc_] at h2 h3
  exact ⟨(h1.alloc _).alloc _, h2.alloc _, h3⟩
theorem TP.step {w w1 w2 : World} {cs zs os : Array Value} (h : TP w w1 cs zs os) (hb : Below w1.heap.size w1 w2) : TP w w2 cs zs os := ⟨h.A.step hb, h.Z.step hb, h.O.step hb⟩
theorem TP.set {w w1 : World} {cs zs os : Array Value} (h : TP w w1 cs zs os) {i : Nat} (hi : i < os.size) (v : Value) : TP w (w1.setCell ⟨w.heap.size + 1 + 1, i, none⟩ v) cs zs (os.setIfInBounds i v) :=
  ⟨h.A.far (by simp; omega) (by simp; omega) v, h.Z.far (by simp; omega) (by simp) v, h.O.set (by omega) hi v⟩

theorem NewPlan.is {w w' : World} {d : PlanD} {g0 g1 g2 g3 : Nat} (h : NewPlan w w' d g0 g1 g2 g3) (b0 : d.n0 ≤ maxLen) (b1 : d.n1 ≤ maxLen) (b2 : d.n2 ≤ maxLen) (b3 : d.n3 ≤ maxLen) :
    IsPlan w' w'.heap.size (newPlanV d g0 g1 g2 g3) d := by
  obtain ⟨l0, l1, l2, l3, l4, R0, R1, R2, R3⟩ := h
  exact ⟨⟨_, _, _, _, _, _, _, _, rfl, R0.sl (by omega) (by omega), R1.sl (by omega) (by omega), R2.sl (by omega) (by omega), R3.sl (by omega) (by omega)⟩, b0, b1, b2, b3⟩

/-- Two blocks of what came in. -/
structure Two (w w1 : World) (cs os : Array Value) : Prop where
  A : Own w w1 w.heap.size cs
  O : Own w w1 (w.heap.size + 1) os
theorem Two.start (w : World) (cs os : Array Value) (t t' : TypeId) : Two w ((w.alloc (.cells cs t)).alloc (.cells os t')) cs os := by
  have h1 := Own.box w cs t
  have h2 := Own.box2 h1.K os t'
  simp only [heap_size_alloc_] at h2
  exact ⟨h1.alloc _, h2⟩
theorem Two.step {w w1 w2 : World} {cs os : Array Value} (h : Two w w1 cs os) (hb : Below w1.heap.size w1 w2) : Two w w2 cs os := ⟨h.A.step hb, h.O.step hb⟩

end Go.Proofs.YtmcafdhffkhcgaaGreat
/- PjA -/
set_option linter.unusedVariables false
namespace Go.Proofs.YtmcafdhffkhcgaaGreat
open Go.RowKit
/-- The indexes below n at which f is the wanted number, rising. -/
def hits (n : Nat) (f : Nat → Int) (wanted : Int) : List Int := ((List.range n).filter (fun i => f i == wanted)).map (fun i : Nat => (i : Int))
theorem hits_yes {n : Nat} {f : Nat → Int} {wanted : Int} (h : (f n == wanted) = true) : hits (n + 1) f wanted = hits n f wanted ++ [(n : Int)] := by
  simp [hits, List.range_succ, List.filter_append, h]
theorem hits_no {n : Nat} {f : Nat → Int} {wanted : Int} (h : (f n == wanted) = false) : hits (n + 1) f wanted = hits n f wanted := by
  simp [hits, List.range_succ, List.filter_append, h]
theorem hits_le (n : Nat) (f : Nat → Int) (wanted : Int) : (hits n f wanted).length ≤ n := by
  have := List.length_filter_le (fun i => f i == wanted) (List.range n)
  simpa [hits] using this

/-- What the chapter asks of these functions: the indexes, or nothing where the plan is not right. -/
def found (d : PlanD) (n : Nat) (f : Nat → Int) (wanted : Int) : List Int := if planOkB d then hits n f wanted else []
theorem found_yes {d : PlanD} {n : Nat} {f : Nat → Int} {wanted : Int} (h : planOkB d = true) : found d n f wanted = hits n f wanted := if_pos h
theorem found_no {d : PlanD} {n : Nat} {f : Nat → Int} {wanted : Int} (h : planOkB d = false) : found d n f wanted = [] := if_neg (by rw [h]; decide)
end Go.Proofs.YtmcafdhffkhcgaaGreat
/- Pj -/
set_option linter.unusedVariables false
namespace Go.Proofs.YtmcafdhffkhcgaaGreat
open Go.RowKit

end Go.Proofs.YtmcafdhffkhcgaaGreat
/- PbG -/
set_option linter.unusedVariables false
namespace Go.Proofs.YtmcafdhffkhcgaaGreat
open Go.RowKit

end Go.Proofs.YtmcafdhffkhcgaaGreat
/- Pl -/
set_option linter.unusedVariables false
namespace Go.Proofs.YtmcafdhffkhcgaaGreat
open Go.RowKit

end Go.Proofs.YtmcafdhffkhcgaaGreat
/- PwL -/
set_option linter.unusedVariables false
namespace Go.Proofs.YtmcafdhffkhcgaaGreat
open Go.RowKit

theorem plan_of_owned {w : World} {B0 B1 B2 B3 : Nat} {v0 v1 v2 v3 : Value} {d : PlanD} (o0 : OI w B0 53 4 v0 d.n0 d.x0) (o1 : OI w B1 2 1 v1 d.n1 d.x1) (o2 : OI w B2 47 2 v2 d.n2 d.x2) (o3 : OI w B3 55 1 v3 d.n3 d.x3) :
    IsPlan w w.heap.size (.agg #[v0, v1, v2, v3, .int .i64 d.l, .int .i64 d.p, .int .i64 d.t]) d := by
  obtain ⟨A0, c0, rfl, s0, b0⟩ := o0.form
  obtain ⟨A1, c1, rfl, s1, b1⟩ := o1.form
  obtain ⟨A2, c2, rfl, s2, b2⟩ := o2.form
  obtain ⟨A3, c3, rfl, s3, b3⟩ := o3.form
  exact ⟨⟨_, _, _, _, _, _, _, _, rfl, s0, s1, s2, s3⟩, b0, b1, b2, b3⟩

/-- The four lists of a plan. -/
structure Lists (w : World) (B : Nat) (v0 v1 v2 v3 : Value) (d : PlanD) : Prop where
  o0 : OI w B 53 4 v0 d.n0 d.x0
  o1 : OI w B 2 1 v1 d.n1 d.x1
  o2 : OI w B 47 2 v2 d.n2 d.x2
  o3 : OI w B 55 1 v3 d.n3 d.x3
theorem Lists.below {w w' : World} {B : Nat} {v0 v1 v2 v3 : Value} {d : PlanD} (h : Lists w B v0 v1 v2 v3 d) (hb : Below w.heap.size w w') : Lists w' B v0 v1 v2 v3 d :=
  ⟨h.o0.below hb, h.o1.below hb, h.o2.below hb, h.o3.below hb⟩
theorem Lists.keeps {w w' : World} {B g T : Nat} {cs : Array Value} {v0 v1 v2 v3 : Value} {d : PlanD} (h : Lists w B v0 v1 v2 v3 d) (kk : Keeps (· = g) w w') (hg : w.heap[g]? = some (.cells cs T (0, 0)))
    (hT : T ≠ 53 ∧ T ≠ 2 ∧ T ≠ 47 ∧ T ≠ 55) : Lists w' B v0 v1 v2 v3 d :=
  ⟨h.o0.keeps kk hg hT.1, h.o1.keeps kk hg hT.2.1, h.o2.keeps kk hg hT.2.2.1, h.o3.keeps kk hg hT.2.2.2⟩
theorem Lists.base {w : World} {B B' : Nat} {v0 v1 v2 v3 : Value} {d : PlanD} (h : Lists w B v0 v1 v2 v3 d) (hb : B' ≤ B) : Lists w B' v0 v1 v2 v3 d := by
  obtain ⟨⟨a, ha, ha'⟩, ⟨b, hb1, hb2⟩, ⟨c, hc, hc'⟩, ⟨e, he, he'⟩⟩ := h
  exact ⟨⟨a, ownsRow_base ha hb, ha'⟩, ⟨b, ownsRow_base hb1 hb, hb2⟩, ⟨c, ownsRow_base hc hb, hc'⟩, ⟨e, ownsRow_base he hb, he'⟩⟩
theorem Lists.plan {w : World} {B : Nat} {v0 v1 v2 v3 : Value} {d : PlanD} (h : Lists w B v0 v1 v2 v3 d) : IsPlan w w.heap.size (.agg #[v0, v1, v2, v3, .int .i64 d.l, .int .i64 d.p, .int .i64 d.t]) d :=
  plan_of_owned h.o0 h.o1 h.o2 h.o3
end Go.Proofs.YtmcafdhffkhcgaaGreat
/- PmA -/
set_option linter.unusedVariables false
namespace Go.Proofs.YtmcafdhffkhcgaaGreat
open Go.RowKit
theorem NewPlan.below {w0 w w' : World} {d : PlanD} {g0 g1 g2 g3 : Nat} (h : NewPlan w0 w d g0 g1 g2 g3) (hb : Below w.heap.size w w') : NewPlan w0 w' d g0 g1 g2 g3 := by
  obtain ⟨l0, l1, l2, l3, l4, R0, R1, R2, R3⟩ := h
  exact ⟨l0, l1, l2, l3, Nat.lt_of_lt_of_le l4 hb.size, R0.below hb (by omega), R1.below hb (by omega), R2.below hb (by omega), R3.below hb (by omega)⟩

end Go.Proofs.YtmcafdhffkhcgaaGreat
/- Pq -/
set_option linter.unusedVariables false
namespace Go.Proofs.YtmcafdhffkhcgaaGreat
open Go.RowKit
set_option maxRecDepth 100000 in
set_option maxHeartbeats 1000000 in
theorem below_any (g : Nat) (n : Int) (w : World) (h : Cur 51 .u64 w g) (h0 : 0 < n) (h1 : n ≤ 1000000) :
    Calls Tryz.prog 9 #[.pointer (some ⟨g, 0, none⟩), .int .i64 n] w (Drawn 51 .u64 g n w) := by
  obtain ⟨A, m, c, i, hh, hg, i0, i1, hm, hB⟩ := h
  have q0 := cell_of_row w g 0 _ _ _ hg
  have q1 := cell_of_row w g 1 _ _ _ hg
  have q2 := cell_of_row w g 2 _ _ _ hg
  have f2 := frozen_of_row w g 2 _ _ hg
  have f1 := frozen_of_row w g 1 _ _ hg
  simp at q0 q1 q2
  have hr := and_u24 (IntKind.u64.wrap (IntKind.u64.wrap (hh * 6364136223846793005) + 1442695040888963407) / 8589934592)
  have HR := Lib.hid hr
  clear hr
  go_enter Tryz.func9, Tryz.ntmps9
  go_wp2_with fail
  rw [IntWalk.wrap64_in _ ⟨by have := HR.out.1; omega, by have := HR.out.2; omega⟩]
  generalize bits BinOp.and IntKind.u64 (IntKind.u64.wrap (IntKind.u64.wrap (hh * 6364136223846793005) + 1442695040888963407) / 8589934592) 16777215 = X at HR ⊢
  obtain ⟨X0, X1⟩ := HR.out
  by_cases hlt : i < m
  · obtain ⟨b, off, rfl, hbg, hz⟩ := hB (by omega)
    obtain ⟨i, rfl⟩ := Int.eq_ofNat_of_zero_le i0
    obtain ⟨z, hz0, z0, z1⟩ := hz i (by omega)
    clear hz
    go_quiet (fail)
    have HB := Lib.hid hB
    clear hB
    have e1 : IntKind.i64.wrap (X + z) = X + z := IntWalk.i64_in _ (by omega)
    have e2 : IntKind.i64.wrap z = z := IntWalk.i64_in _ (by omega)
    have p1 : 0 ≤ X + z := by omega
    go_wp2_with fail
    go_quiet (fail)
    clear e1 e2
    go_wp2_with fail
    go_ret
    have hgs : g < w.heap.size := (Array.getElem?_eq_some_iff.1 hg).1
    have K := (((Keeps.refl (· = g) w).set (p := ⟨g, 2, none⟩) rfl (.int .u64 (IntKind.u64.wrap (IntKind.u64.wrap (hh * 6364136223846793005) + 1442695040888963407)))).drewN nq)
    have K2 := K.set (p := ⟨g, 1, none⟩) rfl (.int .i64 ((i : Int) + 1))
    refine ⟨_, rfl, Int.emod_nonneg _ (by omega), Int.emod_lt_of_pos _ h0, Cur.of (i := (i : Int) + 1) HB.out hm ?_ hgs (heap_setCell_same _ g 1 _ _ _ (heap_setCell_same w g 2 _ _ _ hg)) (by omega) (by omega), ?_⟩
    · exact (((Keeps.refl (· = g) w).set (p := ⟨g, 2, none⟩) rfl _).drewN _).set (p := ⟨g, 1, none⟩) rfl _
    · exact (((Keeps.refl (· = g) w).set (p := ⟨g, 2, none⟩) rfl _).drewN _).set (p := ⟨g, 1, none⟩) rfl _
  · go_quiet (fail)
    go_wp2_with fail
    go_ret
    have hgs : g < w.heap.size := (Array.getElem?_eq_some_iff.1 hg).1
    refine ⟨_, rfl, Int.emod_nonneg _ (by omega), Int.emod_lt_of_pos _ h0, Cur.of (i := i) hB hm ?_ hgs (heap_setCell_same w g 2 _ _ _ hg) (by omega) (by omega), ?_⟩
    · exact ((Keeps.refl (· = g) w).set (p := ⟨g, 2, none⟩) rfl _).drewN _
    · exact ((Keeps.refl (· = g) w).set (p := ⟨g, 2, none⟩) rfl _).drewN _
end Go.Proofs.YtmcafdhffkhcgaaGreat
/- Pr -/
set_option linter.unusedVariables false
namespace Go.Proofs.YtmcafdhffkhcgaaGreat
open Go.RowKit
set_option maxRecDepth 100000 in
set_option maxHeartbeats 1000000 in
theorem roll_any (A : Option Addr) (n c : Nat) (s : Int) (w : World) (hB : Bytes w w.heap.size A n) (hn : n ≤ 4096) :
    Calls Tryz.prog 5 #[.slice A n c, .int .u64 s] w (Rolled 51 .u64 w) := by
  have HB := Lib.hid hB
  clear hB
  go_enter Tryz.func5, Tryz.ntmps5
  go_wp2
  go_loopw [6] (fun i wr => ∃ k : Nat, k ≤ n ∧ i = .int .i64 k ∧ Below w.heap.size w wr ∧ (∃ h, wr.heap[w.heap.size]? = some (.cells (curC .u64 A n c 0 h) 51 (0, 0)))) (fun i _ => n - (intOf i).toNat)
  case atStart => exact ⟨0, Nat.zero_le _, rfl, (Below.refl _ _).alloc (Nat.le_refl _) _, _, heap_alloc_new _ _⟩
  case round =>
    obtain ⟨k, hk, rfl, K, h, hg⟩ := hrel
    have q2 := cell_of_row wr w.heap.size 2 _ _ _ hg
    have f2 := frozen_of_row wr w.heap.size 2 _ _ hg
    simp at q2
    by_cases hlt : k < n
    · obtain ⟨b, off, rfl, hbg, hz⟩ := HB.out (by omega)
      obtain ⟨z, hz0, z0, z1⟩ := hz k hlt
      have hz0 := (K.cell (p := ⟨b, off + k, none⟩) hbg).trans hz0
      clear hz
      go_wp2_with fail
      go_still_tail 15, (by kernel_rfl)
      have K2 : Below w.heap.size w wr.drew := K.drew
      have hg2 : wr.drew.heap[w.heap.size]? = some (.cells (curC .u64 (some ⟨b, off, none⟩) n c 0 h) 51 (0, 0)) := hg
      have q2 : wr.drew.cell? ⟨w.heap.size, 2, none⟩ = some (.int .u64 h) := q2
      have f2 : wr.drew.frozen? ⟨w.heap.size, 2, none⟩ = false := f2
      change wpList _ _ _ _ _ wr.drew
      clear hg K hz0
      generalize wr.drew = w2 at K2 hg2 q2 f2 ⊢
      go_wp2_with fail
      exact ⟨⟨k + 1, by omega, by go_num, K2.setCell (Nat.le_refl _) _, _, heap_setCell_same _ _ 2 _ _ _ hg2⟩, by simp [intOf]; omega⟩
    · obtain rfl : k = n := by omega
      go_wp2
      go_ret
      refine ⟨_, rfl, Nat.le_refl _, ⟨A, k, c, 0, h, hg, by omega, by omega, hn, HB.out.below K (Nat.le_refl _)⟩, K⟩
end Go.Proofs.YtmcafdhffkhcgaaGreat
/- Ps -/
set_option linter.unusedVariables false
namespace Go.Proofs.YtmcafdhffkhcgaaGreat
open Go.RowKit
def zeroC : Array Value := planC none none none none 0 0 0 0 0 0 0 0 0 0 0
/-- A plan under way in block P, beside the cursor g; R is where the answer will lie. -/
structure Bld (T : TypeId) (kd : IntKind) (w W : World) (g R P : Nat) (cs : Array Value) (v0 v1 v2 v3 : Value) (n0 n1 n2 n3 : Nat) (x0 x1 x2 x3 : Nat → Int) : Prop where
  cur : Cur T kd W g
  keep : Keeps (· = g) w W
  old : g < w.heap.size
  pl : W.heap[P]? = some (.cells cs 32 (0, 0))
  pge : w.heap.size ≤ P
  rl : W.heap[R]? = some (.cells zeroC 32 (0, 0))
  rge : w.heap.size ≤ R
  rp : R ≠ P
  o0 : OI W w.heap.size 53 4 v0 n0 x0
  o1 : OI W w.heap.size 2 1 v1 n1 x1
  o2 : OI W w.heap.size 47 2 v2 n2 x2
  o3 : OI W w.heap.size 55 1 v3 n3 x3

section
variable {T : TypeId} {kd : IntKind} {w W W' : World} {g R P : Nat} {cs : Array Value} {v0 v1 v2 v3 : Value} {n0 n1 n2 n3 : Nat} {x0 x1 x2 x3 : Nat → Int}
def apart (T : TypeId) : Prop := T ≠ 32 ∧ T ≠ 53 ∧ T ≠ 2 ∧ T ≠ 47 ∧ T ≠ 55
theorem Cur.head {T : TypeId} {k : IntKind} {w : World} {g : Nat} (h : Cur T k w g) : ∃ cs, w.heap[g]? = some (.cells cs T (0, 0)) := by
  obtain ⟨A, n, c, i, hh, hg, _⟩ := h
  exact ⟨_, hg⟩
theorem Bld.cell (h : Bld T kd w W g R P cs v0 v1 v2 v3 n0 n1 n2 n3 x0 x1 x2 x3) (o : Nat) : W.cell? ⟨P, o, none⟩ = cs[o]? := cell_of_row W P o cs _ _ h.pl
theorem Bld.frozen (h : Bld T kd w W g R P cs v0 v1 v2 v3 n0 n1 n2 n3 x0 x1 x2 x3) (o : Nat) : W.frozen? ⟨P, o, none⟩ = false := frozen_of_row W P o cs _ h.pl
theorem Bld.lt (h : Bld T kd w W g R P cs v0 v1 v2 v3 n0 n1 n2 n3 x0 x1 x2 x3) : P < W.heap.size := (Array.getElem?_eq_some_iff.1 h.pl).1
theorem Bld.rlt (h : Bld T kd w W g R P cs v0 v1 v2 v3 n0 n1 n2 n3 x0 x1 x2 x3) : R < W.heap.size := (Array.getElem?_eq_some_iff.1 h.rl).1
theorem Bld.draw (h : Bld T kd w W g R P cs v0 v1 v2 v3 n0 n1 n2 n3 x0 x1 x2 x3) (hT : apart T) (hk : Keeps (· = g) W W') (hc : Cur T kd W' g) : Bld T kd w W' g R P cs v0 v1 v2 v3 n0 n1 n2 n3 x0 x1 x2 x3 := by
  obtain ⟨ds, hg⟩ := h.cur.head
  have hPg : ¬ P = g := fun e => by
    have := h.pl
    rw [e, hg] at this
    injection this with this
    injection this with _ ht
    exact hT.1 ht
  have hRg : ¬ R = g := fun e => by
    have := h.rl
    rw [e, hg] at this
    injection this with this
    injection this with _ ht
    exact hT.1 ht
  exact ⟨hc, h.keep.trans hk, h.old, (hk.block P h.lt hPg).trans h.pl, h.pge, (hk.block R h.rlt hRg).trans h.rl, h.rge, h.rp, h.o0.keeps hk hg hT.2.1, h.o1.keeps hk hg hT.2.2.1, h.o2.keeps hk hg hT.2.2.2.1, h.o3.keeps hk hg hT.2.2.2.2⟩
theorem Bld.below (h : Bld T kd w W g R P cs v0 v1 v2 v3 n0 n1 n2 n3 x0 x1 x2 x3) (hb : Below W.heap.size W W') : Bld T kd w W' g R P cs v0 v1 v2 v3 n0 n1 n2 n3 x0 x1 x2 x3 :=
  ⟨h.cur.below hb, h.keep.trans (Keeps.of_below hb), h.old, (hb.block P h.lt).trans h.pl, h.pge, (hb.block R h.rlt).trans h.rl, h.rge, h.rp, h.o0.below hb, h.o1.below hb, h.o2.below hb, h.o3.below hb⟩
theorem Bld.alloc (h : Bld T kd w W g R P cs v0 v1 v2 v3 n0 n1 n2 n3 x0 x1 x2 x3) (o : Obj) : Bld T kd w (W.alloc o) g R P cs v0 v1 v2 v3 n0 n1 n2 n3 x0 x1 x2 x3 := h.below ((Below.refl _ _).alloc (Nat.le_refl _) o)
theorem Bld.drew (h : Bld T kd w W g R P cs v0 v1 v2 v3 n0 n1 n2 n3 x0 x1 x2 x3) : Bld T kd w W.drew g R P cs v0 v1 v2 v3 n0 n1 n2 n3 x0 x1 x2 x3 := h.below (Below.refl _ _).drew
theorem OI.setP {e k n : Nat} {B : Nat} {v : Value} {x : Nat → Int} (h : OI W B e k v n x) (hP : W.heap[P]? = some (.cells cs 32 (0, 0))) (hne : (32 : Nat) ≠ e) (i : Nat) (u : Value) : OI (W.setCell ⟨P, i, none⟩ u) B e k v n x :=
  h.keeps ((Keeps.refl (· = P) W).set (p := ⟨P, i, none⟩) rfl u) hP hne
theorem Bld.store (h : Bld T kd w W g R P cs v0 v1 v2 v3 n0 n1 n2 n3 x0 x1 x2 x3) (hT : apart T) (i : Nat) (u : Value) : Bld T kd w (W.setCell ⟨P, i, none⟩ u) g R P (cs.setIfInBounds i u) v0 v1 v2 v3 n0 n1 n2 n3 x0 x1 x2 x3 := by
  have hP := h.pl
  have hold := h.old
  have hge := h.pge
  have hk : Keeps (· = P) W (W.setCell ⟨P, i, none⟩ u) := (Keeps.refl (· = P) W).set (p := ⟨P, i, none⟩) rfl u
  refine ⟨h.cur.keeps hk (fun b hb e => by have e : b = P := e; omega), ?_, hold, heap_setCell_same W P i cs _ u hP, hge, (hk.block R h.rlt h.rp).trans h.rl, h.rge, h.rp, h.o0.setP hP (by decide) i u, h.o1.setP hP (by decide) i u, h.o2.setP hP (by decide) i u, h.o3.setP hP (by decide) i u⟩
  have hk0 := h.keep
  exact ⟨hk.os.trans hk0.os, hk.tape.trans hk0.tape, hk.output.trans hk0.output, Nat.le_trans hk0.size hk.size, fun b hb hn => (hk.block b (Nat.lt_of_lt_of_le hb hk0.size) (fun e => by have e : b = P := e; omega)).trans (hk0.block b hb hn)⟩
/-- What grows is one of the call's own rows: cursor, plan, what was there stay. -/
theorem Bld.base (h : Bld T kd w W g R P cs v0 v1 v2 v3 n0 n1 n2 n3 x0 x1 x2 x3) {e k n : Nat} {v : Value} {x : Nat → Int} (ho : OI W w.heap.size e k v n x) (hT : T ≠ e) (hP : (32 : Nat) ≠ e) (hg : W.grownBy W' v.ownBlock) :
    Cur T kd W' g ∧ Keeps (· = g) w W' ∧ W'.heap[P]? = some (.cells cs 32 (0, 0)) ∧ W'.heap[R]? = some (.cells zeroC 32 (0, 0)) := by
  have hlt := h.cur.lt
  have hold := h.old
  have hr : ∀ r, v.ownBlock = some r → w.heap.size ≤ r := fun r hr => by
    obtain ⟨xs, hown, _⟩ := ho
    exact (hown.lt r hr).1
  have hk : Keeps (fun b => v.ownBlock = some b) W W' := ⟨hg.os, hg.tape, hg.output, hg.size, fun b hb hn => hg.block b hb fun e => hn e.symm⟩
  refine ⟨h.cur.keeps hk (fun b hb e => by have := hr b e; omega), ?_, ?_, ?_⟩
  · have hk0 := h.keep
    exact ⟨hk.os.trans hk0.os, hk.tape.trans hk0.tape, hk.output.trans hk0.output, Nat.le_trans hk0.size hk.size, fun b hb hn => (hk.block b (Nat.lt_of_lt_of_le hb hk0.size) (fun e => by have := hr b e; omega)).trans (hk0.block b hb hn)⟩
  · refine (hk.block P h.lt fun e => ?_).trans h.pl
    obtain ⟨ds, hb⟩ := ho.block e
    rw [h.pl] at hb
    injection hb with hb
    injection hb with _ ht
    exact hP ht
  · refine (hk.block R h.rlt fun e => ?_).trans h.rl
    obtain ⟨ds, hb⟩ := ho.block e
    rw [h.rl] at hb
    injection hb with hb
    injection hb with _ ht
    exact hP ht
theorem Bld.push0 (h : Bld T kd w W g R P cs v0 v1 v2 v3 n0 n1 n2 n3 x0 x1 x2 x3) (hT : apart T) {v0' : Value} {m : Nat} {x : Nat → Int} (hg : W.grownBy W' v0.ownBlock) (ho : OI W' w.heap.size 53 4 v0' m x) : Bld T kd w W' g R P cs v0' v1 v2 v3 m n1 n2 n3 x x1 x2 x3 := by
  obtain ⟨a, b, c, r⟩ := h.base h.o0 hT.2.1 (by decide) hg
  exact ⟨a, b, h.old, c, h.pge, r, h.rge, h.rp, ho, h.o1.grown h.o0 (by decide) hg, h.o2.grown h.o0 (by decide) hg, h.o3.grown h.o0 (by decide) hg⟩
theorem Bld.push1 (h : Bld T kd w W g R P cs v0 v1 v2 v3 n0 n1 n2 n3 x0 x1 x2 x3) (hT : apart T) {v1' : Value} {m : Nat} {x : Nat → Int} (hg : W.grownBy W' v1.ownBlock) (ho : OI W' w.heap.size 2 1 v1' m x) : Bld T kd w W' g R P cs v0 v1' v2 v3 n0 m n2 n3 x0 x x2 x3 := by
  obtain ⟨a, b, c, r⟩ := h.base h.o1 hT.2.2.1 (by decide) hg
  exact ⟨a, b, h.old, c, h.pge, r, h.rge, h.rp, h.o0.grown h.o1 (by decide) hg, ho, h.o2.grown h.o1 (by decide) hg, h.o3.grown h.o1 (by decide) hg⟩
theorem Bld.push2 (h : Bld T kd w W g R P cs v0 v1 v2 v3 n0 n1 n2 n3 x0 x1 x2 x3) (hT : apart T) {v2' : Value} {m : Nat} {x : Nat → Int} (hg : W.grownBy W' v2.ownBlock) (ho : OI W' w.heap.size 47 2 v2' m x) : Bld T kd w W' g R P cs v0 v1 v2' v3 n0 n1 m n3 x0 x1 x x3 := by
  obtain ⟨a, b, c, r⟩ := h.base h.o2 hT.2.2.2.1 (by decide) hg
  exact ⟨a, b, h.old, c, h.pge, r, h.rge, h.rp, h.o0.grown h.o2 (by decide) hg, h.o1.grown h.o2 (by decide) hg, ho, h.o3.grown h.o2 (by decide) hg⟩
theorem Bld.push3 (h : Bld T kd w W g R P cs v0 v1 v2 v3 n0 n1 n2 n3 x0 x1 x2 x3) (hT : apart T) {v3' : Value} {m : Nat} {x : Nat → Int} (hg : W.grownBy W' v3.ownBlock) (ho : OI W' w.heap.size 55 1 v3' m x) : Bld T kd w W' g R P cs v0 v1 v2 v3' n0 n1 n2 m x0 x1 x2 x := by
  obtain ⟨a, b, c, r⟩ := h.base h.o3 hT.2.2.2.2 (by decide) hg
  exact ⟨a, b, h.old, c, h.pge, r, h.rge, h.rp, h.o0.grown h.o3 (by decide) hg, h.o1.grown h.o3 (by decide) hg, h.o2.grown h.o3 (by decide) hg, ho⟩
end
section
variable {T : TypeId} {kd : IntKind} {w W : World} {g R P : Nat} {cs : Array Value} {v0 v1 v2 v3 : Value} {n0 n1 n2 n3 : Nat} {x0 x1 x2 x3 : Nat → Int}
variable {ops : Array Oper} {o : Oper} {ac : Act} {K : Act → World → Prop} {Q : Exit → Act → World → Prop} {E : Prop}

theorem push0_step (B : Bld T kd w W g R P cs v0 v1 v2 v3 n0 n1 n2 n3 x0 x1 x2 x3) (hT : apart T) (hn : n0 ≤ 1000) (a b c d : Int) (hgd : o.guard = none) (s x : Operand)
    (ho : o.op = .call { callee := .builtin .append, args := #[s, x], argTypes := #[27, 27] }) (hs : ac.eval s = v0) (hx : ac.eval x = .slice (some ⟨W.heap.size, 0, none⟩) 1 1)
    (h : ∀ gg cap W', Bld T kd w W' g R P cs (.slice (some ⟨gg, 0, none⟩) (n0 + 1) cap) v1 v2 v3 (n0 + 1) n1 n2 n3 (ext n0 4 x0 [a, b, c, d]) x1 x2 x3 → K (ac.put o.dst (.slice (some ⟨gg, 0, none⟩) (n0 + 1) cap)) W') :
    if Region.wanted o (yielded ops ac.tmps) = true then Oper.wp Tryz.prog o ac (W.alloc (.cells #[.int .i64 a, .int .i64 b, .int .i64 c, .int .i64 d] 53)) K Q else E := by
  obtain ⟨i, hi, hz0, hz1, hz2⟩ := info_parts info_pod
  obtain ⟨xs, hown, hxs⟩ := B.o0
  have hlt := B.lt
  have hge := B.pge
  refine step_append_lies _ hgd s x _ ho w.heap.size 53 i _ 4 32 Tryz.underlying27 hi hz0 hz1 hz2 rfl (by omega) v0 n0 xs hs (hown.alloc _) ⟨W.heap.size, 0, none⟩ 1 1 [.int .i64 a, .int .i64 b, .int .i64 c, .int .i64 d] hx rfl
    (World.news_of_block (cs := #[.int .i64 a, .int .i64 b, .int .i64 c, .int .i64 d]) (heap_alloc_new W _)) (by simp [Value.oneCell']) (by omega) (by unfold maxLen; omega) (by omega) (by simp; omega) (W.heap.size + 1) (by simp) ?_
  intro gg cap w6 hown6 hgrow hat hltg
  exact h _ _ _ ((B.alloc (.cells #[.int .i64 a, .int .i64 b, .int .i64 c, .int .i64 d] 53)).push0 hT hgrow (OI.push hxs hown.1 [a, b, c, d] rfl hown6))

theorem push1_step (B : Bld T kd w W g R P cs v0 v1 v2 v3 n0 n1 n2 n3 x0 x1 x2 x3) (hT : apart T) (hn : n1 ≤ 1000) (a : Int) (hgd : o.guard = none) (s x : Operand)
    (ho : o.op = .call { callee := .builtin .append, args := #[s, x], argTypes := #[28, 28] }) (hs : ac.eval s = v1) (hx : ac.eval x = .slice (some ⟨W.heap.size, 0, none⟩) 1 1)
    (h : ∀ gg cap W', Bld T kd w W' g R P cs v0 (.slice (some ⟨gg, 0, none⟩) (n1 + 1) cap) v2 v3 n0 (n1 + 1) n2 n3 x0 (ext n1 1 x1 [a]) x2 x3 → K (ac.put o.dst (.slice (some ⟨gg, 0, none⟩) (n1 + 1) cap)) W') :
    if Region.wanted o (yielded ops ac.tmps) = true then Oper.wp Tryz.prog o ac (W.alloc (.cells #[.int .i64 a] 2)) K Q else E := by
  obtain ⟨i, hi, hz0, hz1, hz2⟩ := info_parts info_i64
  obtain ⟨xs, hown, hxs⟩ := B.o1
  have hlt := B.lt
  have hge := B.pge
  refine step_append_lies _ hgd s x _ ho w.heap.size 2 i _ 1 8 Tryz.underlying28 hi hz0 hz1 hz2 rfl (by omega) v1 n1 xs hs (hown.alloc _) ⟨W.heap.size, 0, none⟩ 1 1 [.int .i64 a] hx rfl
    (World.news_of_block (cs := #[.int .i64 a]) (heap_alloc_new W _)) (by simp [Value.oneCell']) (by omega) (by unfold maxLen; omega) (by omega) (by simp; omega) (W.heap.size + 1) (by simp) ?_
  intro gg cap w6 hown6 hgrow hat hltg
  exact h _ _ _ ((B.alloc (.cells #[.int .i64 a] 2)).push1 hT hgrow (OI.push hxs hown.1 [a] rfl hown6))

theorem push2_step (B : Bld T kd w W g R P cs v0 v1 v2 v3 n0 n1 n2 n3 x0 x1 x2 x3) (hT : apart T) (hn : n2 ≤ 1000) (a b : Int) (hgd : o.guard = none) (s x : Operand)
    (ho : o.op = .call { callee := .builtin .append, args := #[s, x], argTypes := #[29, 29] }) (hs : ac.eval s = v2) (hx : ac.eval x = .slice (some ⟨W.heap.size, 0, none⟩) 1 1)
    (h : ∀ gg cap W', Bld T kd w W' g R P cs v0 v1 (.slice (some ⟨gg, 0, none⟩) (n2 + 1) cap) v3 n0 n1 (n2 + 1) n3 x0 x1 (ext n2 2 x2 [a, b]) x3 → K (ac.put o.dst (.slice (some ⟨gg, 0, none⟩) (n2 + 1) cap)) W') :
    if Region.wanted o (yielded ops ac.tmps) = true then Oper.wp Tryz.prog o ac (W.alloc (.cells #[.int .i64 a, .int .i64 b] 47)) K Q else E := by
  obtain ⟨i, hi, hz0, hz1, hz2⟩ := info_parts info_mount
  obtain ⟨xs, hown, hxs⟩ := B.o2
  have hlt := B.lt
  have hge := B.pge
  refine step_append_lies _ hgd s x _ ho w.heap.size 47 i _ 2 16 Tryz.underlying29 hi hz0 hz1 hz2 rfl (by omega) v2 n2 xs hs (hown.alloc _) ⟨W.heap.size, 0, none⟩ 1 1 [.int .i64 a, .int .i64 b] hx rfl
    (World.news_of_block (cs := #[.int .i64 a, .int .i64 b]) (heap_alloc_new W _)) (by simp [Value.oneCell']) (by omega) (by unfold maxLen; omega) (by omega) (by simp; omega) (W.heap.size + 1) (by simp) ?_
  intro gg cap w6 hown6 hgrow hat hltg
  exact h _ _ _ ((B.alloc (.cells #[.int .i64 a, .int .i64 b] 47)).push2 hT hgrow (OI.push hxs hown.1 [a, b] rfl hown6))

theorem push3_step (B : Bld T kd w W g R P cs v0 v1 v2 v3 n0 n1 n2 n3 x0 x1 x2 x3) (hT : apart T) (hn : n3 ≤ 1000) (a : Int) (hgd : o.guard = none) (s x : Operand)
    (ho : o.op = .call { callee := .builtin .append, args := #[s, x], argTypes := #[30, 30] }) (hs : ac.eval s = v3) (hx : ac.eval x = .slice (some ⟨W.heap.size, 0, none⟩) 1 1)
    (h : ∀ gg cap W', Bld T kd w W' g R P cs v0 v1 v2 (.slice (some ⟨gg, 0, none⟩) (n3 + 1) cap) n0 n1 n2 (n3 + 1) x0 x1 x2 (ext n3 1 x3 [a]) → K (ac.put o.dst (.slice (some ⟨gg, 0, none⟩) (n3 + 1) cap)) W') :
    if Region.wanted o (yielded ops ac.tmps) = true then Oper.wp Tryz.prog o ac (W.alloc (.cells #[.int .i64 a] 55)) K Q else E := by
  obtain ⟨i, hi, hz0, hz1, hz2⟩ := info_parts info_device
  obtain ⟨xs, hown, hxs⟩ := B.o3
  have hlt := B.lt
  have hge := B.pge
  refine step_append_lies _ hgd s x _ ho w.heap.size 55 i _ 1 8 Tryz.underlying30 hi hz0 hz1 hz2 rfl (by omega) v3 n3 xs hs (hown.alloc _) ⟨W.heap.size, 0, none⟩ 1 1 [.int .i64 a] hx rfl
    (World.news_of_block (cs := #[.int .i64 a]) (heap_alloc_new W _)) (by simp [Value.oneCell']) (by omega) (by unfold maxLen; omega) (by omega) (by simp; omega) (W.heap.size + 1) (by simp) ?_
  intro gg cap w6 hown6 hgrow hat hltg
  exact h _ _ _ ((B.alloc (.cells #[.int .i64 a] 55)).push3 hT hgrow (OI.push hxs hown.1 [a] rfl hown6))
end

theorem Bld.start {T : TypeId} {kd : IntKind} {w w2 : World} {g : Nat} (hT : apart T) (hold : g < w.heap.size) (hc : Cur T kd w2 g) (hk : Keeps (· = g) (w.alloc (.cells zeroC 32)) w2) (cs : Array Value) :
    Bld T kd w (w2.alloc (.cells cs 32)) g w.heap.size w2.heap.size cs (.slice none 0 0) (.slice none 0 0) (.slice none 0 0) (.slice none 0 0) 0 0 0 0 (fun _ => 0) (fun _ => 0) (fun _ => 0) (fun _ => 0) := by
  have hs := hk.size
  rw [heap_size_alloc_] at hs
  have hb2 : Below w2.heap.size w2 (w2.alloc (.cells cs 32)) := (Below.refl _ _).alloc (Nat.le_refl _) _
  have hb1 : Below w.heap.size w (w.alloc (.cells zeroC 32)) := (Below.refl _ _).alloc (Nat.le_refl _) _
  exact ⟨hc.below hb2, (Keeps.of_below hb1).trans (hk.trans (Keeps.of_below hb2)), hold, heap_alloc_new _ _, by omega,
    (hb2.block _ (by omega)).trans ((hk.block _ (by rw [heap_size_alloc_]; omega) (by show ¬ w.heap.size = g; omega)).trans (heap_alloc_new _ _)), Nat.le_refl _, by omega,
    OI.nil_ _ _ _ _ _, OI.nil_ _ _ _ _ _, OI.nil_ _ _ _ _ _, OI.nil_ _ _ _ _ _⟩
theorem apart_dice : apart 51 := ⟨by decide, by decide, by decide, by decide, by decide⟩
theorem apart_cur : apart 75 := ⟨by decide, by decide, by decide, by decide, by decide⟩
end Go.Proofs.YtmcafdhffkhcgaaGreat
/- PsB -/
set_option linter.unusedVariables false
namespace Go.Proofs.YtmcafdhffkhcgaaGreat
open Go.RowKit
/-- What a draw of a plan answers: lists of its own, of which Q holds. -/
def DrawnPlan (T : TypeId) (kd : IntKind) (Q : PlanD → Prop) (g : Nat) (w : World) (e : Ending) (w' : World) : Prop :=
  ∃ v0 v1 v2 v3 d, e = .returned (.agg #[v0, v1, v2, v3, .int .i64 d.l, .int .i64 d.p, .int .i64 d.t]) ∧
    OI w' w.heap.size 53 4 v0 d.n0 d.x0 ∧ OI w' w.heap.size 2 1 v1 d.n1 d.x1 ∧ OI w' w.heap.size 47 2 v2 d.n2 d.x2 ∧ OI w' w.heap.size 55 1 v3 d.n3 d.x3 ∧
    Cur T kd w' g ∧ Keeps (· = g) w w' ∧ Q d

theorem mul_small {d e : Int} (hd : 0 ≤ d) (hd' : d < 2) (he : 0 ≤ e) (he' : e < 6) : 0 ≤ IntKind.i64.wrap (d * e) ∧ IntKind.i64.wrap (d * e) ≤ 500 := by
  rcases (by omega : d = 0 ∨ d = 1) with rfl | rfl
  · simp; decide
  · rw [Int.one_mul, IntWalk.i64_in _ (by omega)]; omega
theorem min_ok {m : Nat} {x : Nat → Int} {a : Int} (h : ∀ j, j < m → minB x j = true) (h0 : 0 ≤ a) (h1 : a < 3) : ∀ j, j < m + 1 → minB (ext m 1 x [a]) j = true := fun j hj => by
  by_cases e : j < m
  · have := h j e
    unfold minB at this ⊢
    rwa [ext_lt (by omega)]
  · obtain rfl : j = m := by omega
    unfold minB
    have := ext_at (n := j) (k := 1) (x := x) (l := [a]) 0
    rw [Nat.mul_one, Nat.add_zero] at this
    rw [this, inB_true]
    simp
    omega
theorem pod_ok {N m : Nat} {x : Nat → Int} {a b c d : Int} (h : ∀ j, j < m → podB N x j = true) (a0 : 0 ≤ a) (a1 : a < N) (b0 : 0 ≤ b) (b1 : b < 4) (c0 : 0 ≤ c) (c1 : c < 6) (d0 : 0 ≤ d) (d1 : d ≤ 500) :
    ∀ j, j < m + 1 → podB N (ext m 4 x [a, b, c, d]) j = true := fun j hj => by
  by_cases e : j < m
  · have := h j e
    unfold podB at this ⊢
    rwa [ext_lt (by omega), ext_lt (by omega), ext_lt (by omega), ext_lt (by omega)]
  · obtain rfl : j = m := by omega
    unfold podB
    have e0 := ext_at (n := j) (k := 4) (x := x) (l := [a, b, c, d]) 0
    rw [Nat.add_zero] at e0
    rw [e0, ext_at, ext_at, ext_at]
    simp [inB]
    omega
theorem mount_ok {N m : Nat} {x : Nat → Int} {a b : Int} (h : ∀ j, j < m → mountB N x j = true) (a0 : 0 ≤ a) (a1 : a < N) (b0 : -1 ≤ b) (b1 : b < m) : ∀ j, j < m + 1 → mountB N (ext m 2 x [a, b]) j = true := fun j hj => by
  by_cases e : j < m
  · have := h j e
    unfold mountB at this ⊢
    rwa [ext_lt (by omega), ext_lt (by omega)]
  · obtain rfl : j = m := by omega
    unfold mountB
    have e0 := ext_at (n := j) (k := 2) (x := x) (l := [a, b]) 0
    rw [Nat.add_zero] at e0
    rw [e0, ext_at]
    simp [inB]
    omega
theorem device_ok {N m : Nat} {x : Nat → Int} {a : Int} (h : ∀ j, j < m → deviceB N x j = true) (a0 : 0 ≤ a) (a1 : a < N) : ∀ j, j < m + 1 → deviceB N (ext m 1 x [a]) j = true := fun j hj => by
  by_cases e : j < m
  · have := h j e
    unfold deviceB at this ⊢
    rwa [ext_lt (by omega)]
  · obtain rfl : j = m := by omega
    unfold deviceB
    have := ext_at (n := j) (k := 1) (x := x) (l := [a]) 0
    rw [Nat.mul_one, Nat.add_zero] at this
    rw [this, inB_true]
    simp
    omega
theorem ok_of (n0 n1 n2 n3 : Nat) (x0 x1 x2 x3 : Nat → Int) (l p t : Int) (l0 : 0 ≤ l) (l1 : l < 8) (p1 : 1 ≤ p) (p2 : p ≤ 3) (t1 : p ≤ t) (t2 : t ≤ 7) (a0 : n0 ≤ 6) (a1 : n1 ≤ 3) (a2 : n2 ≤ 5) (a3 : n3 ≤ 3)
    (h0 : ∀ j, j < n0 → podB n1 x0 j = true) (h1 : ∀ j, j < n1 → minB x1 j = true) (h2 : ∀ j, j < n2 → mountB n0 x2 j = true) (h3 : ∀ j, j < n3 → deviceB n2 x3 j = true) : planOkB ⟨n0, n1, n2, n3, x0, x1, x2, x3, l, p, t⟩ = true := by
  simp only [planOkB, allB_true.2 h0, allB_true.2 h1, allB_true.2 h2, allB_true.2 h3, sizesB, timesB, inB]
  simp
  omega
theorem Bld.out {T : TypeId} {kd : IntKind} {w W W' : World} {g R P : Nat} {cs : Array Value} {v0 v1 v2 v3 : Value} {n0 n1 n2 n3 : Nat} {x0 x1 x2 x3 : Nat → Int} (B : Bld T kd w W g R P cs v0 v1 v2 v3 n0 n1 n2 n3 x0 x1 x2 x3) (hk : Keeps (· = R) W W') :
    OI W' w.heap.size 53 4 v0 n0 x0 ∧ OI W' w.heap.size 2 1 v1 n1 x1 ∧ OI W' w.heap.size 47 2 v2 n2 x2 ∧ OI W' w.heap.size 55 1 v3 n3 x3 ∧ Cur T kd W' g ∧ Keeps (· = g) w W' := by
  have hr := B.rl
  have hge := B.rge
  have hold := B.old
  have hk0 := B.keep
  exact ⟨B.o0.keeps hk hr (by decide), B.o1.keeps hk hr (by decide), B.o2.keeps hk hr (by decide), B.o3.keeps hk hr (by decide), B.cur.keeps hk (fun b hb e => by have e : b = R := e; omega),
    hk.os.trans hk0.os, hk.tape.trans hk0.tape, hk.output.trans hk0.output, Nat.le_trans hk0.size hk.size, fun b hb hn => (hk.block b (Nat.lt_of_lt_of_le hb hk0.size) (fun e => by have e : b = R := e; omega)).trans (hk0.block b hb hn)⟩
theorem all_none {f : Nat → Bool} : ∀ j, j < 0 → f j = true := fun j hj => absurd hj (by omega)
end Go.Proofs.YtmcafdhffkhcgaaGreat
/- PwA -/
set_option linter.unusedVariables false
namespace Go.Proofs.YtmcafdhffkhcgaaGreat
open Go.RowKit
/-- A list of whole numbers, opened. -/
structure Lst (w : World) (v : Value) (L : List Int) : Prop where
  it : ∃ A c, v = .slice A L.length c ∧ Sl w w.heap.size 1 A L.length (fun j => L.getD j 0)
theorem Lst.of {w : World} {B : Nat} {v : Value} {L : List Int} (h : w.ownsRow B 2 1 v L.length (L.map (Value.int .i64))) : Lst w v L := by
  obtain ⟨A, c, g, rfl, hA, _, hz, R⟩ := open_list h
  exact ⟨A, c, rfl, row_sl hA hz R⟩
theorem Lst.go {w w' : World} {v : Value} {L : List Int} (h : Lst w v L) (hb : Below w.heap.size w w') : Lst w' v L := by
  obtain ⟨A, c, rfl, S⟩ := h
  exact ⟨A, c, rfl, (S.below hb (Nat.le_refl _)).more hb.size⟩

end Go.Proofs.YtmcafdhffkhcgaaGreat
/- Qa -/
set_option linter.unusedVariables false
namespace Go.Proofs.YtmcafdhffkhcgaaGreat
open Go.RowKit

/-- The numbers below n at which p is true, rising. -/
def picks (n : Nat) (p : Nat → Bool) : List Int := ((List.range n).filter p).map (fun i : Nat => (i : Int))
theorem picks_yes {n : Nat} {p : Nat → Bool} (h : p n = true) : picks (n + 1) p = picks n p ++ [(n : Int)] := by
  simp [picks, List.range_succ, List.filter_append, h]
theorem picks_no {n : Nat} {p : Nat → Bool} (h : p n = false) : picks (n + 1) p = picks n p := by
  simp [picks, List.range_succ, List.filter_append, h]
theorem picks_le (n : Nat) (p : Nat → Bool) : (picks n p).length ≤ n := by
  have := List.length_filter_le p (List.range n)
  simpa [picks] using this
theorem picks_mem {n : Nat} {p : Nat → Bool} {x : Int} (h : x ∈ picks n p) : ∃ i : Nat, i < n ∧ x = i ∧ p i = true := by
  simp only [picks, List.mem_map, List.mem_filter, List.mem_range] at h
  obtain ⟨i, ⟨h1, h2⟩, h3⟩ := h
  exact ⟨i, h1, h3.symm, h2⟩
theorem hits_picks (n : Nat) (f : Nat → Int) (x : Int) : hits n f x = picks n (fun i => f i == x) := rfl

def podsL (d : PlanD) (b : Int) : List Int := found d d.n0 (fun i => d.x0 (i * 4 + 1)) b
theorem podsL_le (d : PlanD) (b : Int) : (podsL d b).length ≤ d.n0 := by
  unfold podsL found
  split
  · exact hits_le _ _ _
  · exact Nat.zero_le _
def hasB (d : PlanD) (b : Nat) : Bool := decide (0 < (podsL d b).length)
def bandsL (d : PlanD) : List Int := picks 6 (hasB d)
theorem bandsL_le (d : PlanD) : (bandsL d).length ≤ 6 := picks_le _ _
def firstOver (l : List Int) (b : Int) : Int := (l.find? (fun x => decide (b < x))).getD (-1)
def nextL (d : PlanD) (b : Int) : Int := firstOver (bandsL d) b
def timeOf (d : PlanD) (i : Nat) : Int := d.x0 (i * 4 + 3) + d.x0 (i * 4 + 2) + 4
def most (d : PlanD) (l : List Int) : Int := l.foldl (fun n i => max n (timeOf d i.toNat)) 0
def bandT (d : PlanD) (b : Int) : Int := if planOkB d then most d (podsL d b) else -1
def sumB : Nat → (Nat → Int) → Int
  | 0, _ => 0
  | k + 1, f => sumB k f + f k
theorem firstOver_none {l : List Int} {b : Int} (h : ∀ x ∈ l, x ≤ b) : firstOver l b = -1 := by
  unfold firstOver
  rw [List.find?_eq_none.2 (fun x hx => by have := h x hx; simp; omega)]
  rfl
theorem firstOver_at {l : List Int} {b : Int} {i : Nat} (hi : i < l.length) (h : ∀ j (hj : j < i), l[j]'(by omega) ≤ b) (hb : b < l[i]) : firstOver l b = l[i] := by
  unfold firstOver
  have e : l.find? (fun x => decide (b < x)) = some l[i] := by
    rw [List.find?_eq_some_iff_getElem]
    exact ⟨by simpa using hb, i, hi, rfl, fun j hj => by have := h j hj; simp; omega⟩
  rw [e]
  rfl

/-- The number ahead of the i-th, -1 ahead of the first. -/
def ahead (l : List Int) (i : Nat) : Int := if i = 0 then -1 else l.getD (i - 1) 0
theorem getD_at {l : List Int} {i : Nat} (hi : i < l.length) : l.getD i 0 = l[i] := by simp [List.getD, hi]
theorem hits_mem {n : Nat} {f : Nat → Int} {b x : Int} (h : x ∈ hits n f b) : ∃ i : Nat, i < n ∧ x = i ∧ f i = b := by
  rw [hits_picks] at h
  obtain ⟨i, h1, h2, h3⟩ := picks_mem h
  exact ⟨i, h1, h2, by simpa using h3⟩
theorem podsL_mem {d : PlanD} {b x : Int} (h : x ∈ podsL d b) : ∃ i : Nat, i < d.n0 ∧ x = i ∧ d.x0 (i * 4 + 1) = b := by
  unfold podsL found at h
  split at h
  · exact hits_mem h
  · cases h
theorem podsL_at {d : PlanD} {b : Int} {j : Nat} (hj : j < (podsL d b).length) : ∃ i : Nat, i < d.n0 ∧ (podsL d b).getD j 0 = i ∧ d.x0 (i * 4 + 1) = b := by
  have e : (podsL d b).getD j 0 = (podsL d b)[j] := by simp [List.getD, hj]
  rw [e]
  exact podsL_mem (List.getElem_mem hj)

end Go.Proofs.YtmcafdhffkhcgaaGreat
/- Ra -/
set_option linter.unusedVariables false
namespace Go.Proofs.YtmcafdhffkhcgaaGreat
open Go.RowKit

/-- A number in 7 bits a byte, the lowest ones first. -/
def putN (n : Nat) : List Nat := if h : n < 128 then [n] else (n % 128 + 128) :: putN (n / 128)
termination_by n
decreasing_by omega
theorem putN_small {n : Nat} (h : n < 128) : putN n = [n] := by rw [putN, dif_pos h]
theorem putN_big {n : Nat} (h : ¬ n < 128) : putN n = (n % 128 + 128) :: putN (n / 128) := by rw [putN, dif_neg h]
theorem putN_pos (n : Nat) : 0 < (putN n).length := by
  by_cases h : n < 128
  · rw [putN_small h]; simp
  · rw [putN_big h]; simp
theorem putN_length (k n : Nat) : 0 < k → ((putN n).length ≤ k ↔ n < 128 ^ k) := by
  induction k generalizing n with
  | zero => omega
  | succ k ih =>
    intro _
    by_cases h : n < 128
    · rw [putN_small h]
      have : 128 ^ 1 ≤ 128 ^ (k + 1) := Nat.pow_le_pow_right (by omega) (by omega)
      simp
      omega
    · rw [putN_big h, List.length_cons]
      rcases Nat.eq_zero_or_pos k with rfl | hk
      · have := putN_pos (n / 128)
        omega
      · have e := ih (n / 128) hk
        have hp : 128 ^ (k + 1) = 128 ^ k * 128 := Nat.pow_succ ..
        have h2 : n / 128 < 128 ^ k ↔ n < 128 ^ k * 128 := Nat.div_lt_iff_lt_mul (by omega)
        omega
/-- A record's three numbers. -/
structure RecD where
  k : Int
  a : Int
  b : Int
deriving DecidableEq
def recOkB (r : RecD) : Bool := inB r.k 1 12 && inB r.a 0 1000000 && inB r.b 0 1000000
theorem recOkB_true {r : RecD} : recOkB r = true ↔ (1 ≤ r.k ∧ r.k ≤ 12) ∧ (0 ≤ r.a ∧ r.a ≤ 1000000) ∧ (0 ≤ r.b ∧ r.b ≤ 1000000) := by
  simp [recOkB, inB_true, and_assoc]
def recN (r : RecD) : List Nat := putN r.k.toNat ++ (putN r.a.toNat ++ putN r.b.toNat)
def recsN : List RecD → List Nat
  | [] => []
  | r :: l => recN r ++ recsN l
theorem recsN_append (l m : List RecD) : recsN (l ++ m) = recsN l ++ recsN m := by
  induction l with
  | nil => rfl
  | cons r l ih => simp [recsN, ih]
def allOk (l : List RecD) : Bool := l.all recOkB
end Go.Proofs.YtmcafdhffkhcgaaGreat
