/-
  Numbers of at most so many bytes; how they are read byte by byte.
-/
import Derived.Test.YtfibgpikjfopgaaGreatMZ0
import Derived.StillTailTactics
import Derived.RegionTactic
import Derived.BigRegion
import Derived.Deep.AppendLies
import Derived.Deep.RegionLaw
import Derived.Deep.DeepCutAuto
/- Pd -/
set_option linter.unusedVariables false
namespace Go.Proofs.YtfibgpikjfopgaaGreat
open Go.RowKit

abbrev planC (A0 A1 A2 A3 : Option Addr) (n0 c0 n1 c1 n2 c2 n3 c3 : Nat) (l p t : Int) : Array Value :=
  #[.slice A0 n0 c0, .slice A1 n1 c1, .slice A2 n2 c2, .slice A3 n3 c3, .int .i64 l, .int .i64 p, .int .i64 t]

set_option maxHeartbeats 1000000 in
theorem l1Pods_any (A0 A1 A2 A3 : Option Addr) (n0 c0 n1 c1 n2 c2 n3 c3 : Nat) (l p t : Int) (x0 : Nat → Int) (w : World)
    (s0 : Sl w w.heap.size 4 A0 n0 x0) (b0 : n0 ≤ maxLen) (b1 : n1 ≤ maxLen) :
    Calls Tryz.prog 35 #[planV A0 A1 A2 A3 n0 c0 n1 c1 n2 c2 n3 c3 l p t] w fun e w' =>
      e = .returned (.bool (allB n0 (podB n1 x0) && decide (n0 ≤ 12))) ∧ Below w.heap.size w w' := by
  unfold maxLen at b0 b1
  have S0 := Lib.hid s0
  clear s0
  go_enter Tryz.func35, Tryz.ntmps35
  go_wp2
  go_loopw [3] (fun i wr => ∃ k : Nat, k ≤ n0 ∧ i = .int .i64 k ∧ (∀ j, j < k → podB n1 x0 j = true) ∧ Own w wr w.heap.size (planC A0 A1 A2 A3 n0 c0 n1 c1 n2 c2 n3 c3 l p t)) (fun i _ => n0 - (intOf i).toNat)
  case atStart => exact ⟨0, Nat.zero_le _, rfl, fun j hj => absurd hj (by omega), Own.box w _ _⟩
  case round =>
    obtain ⟨k, hk, rfl, hall, X⟩ := hrel
    have HA := Lib.hid hall
    clear hall
    have hC := X.C
    have hz := X.z
    by_cases hlt : k < n0
    · obtain ⟨b, off, rfl, hb, q0, q1, q2, q3⟩ := (S0.out.own X).cell4 hlt
      go_wp2_with (go_at_call 26; refine (in_any _ _ _ _).mono ?_; rintro e w' ⟨rfl, rfl⟩)
      all_goals first
        | (refine ⟨⟨k + 1, by omega, by go_num, step_all HA.out (by simp_all [podB]), X.alloc _⟩, by simp [intOf]; omega⟩)
        | (go_ret; exact ⟨ret_bool (by rw [allB_false hlt (by simp_all [podB])]; rfl), (X.alloc _).K⟩)
    · obtain rfl : k = n0 := by omega
      go_wp2
      go_ret
      exact ⟨ret_bool (by rw [allB_true.2 HA.out, Bool.eq_iff_iff]; simp; omega), X.K⟩

set_option maxHeartbeats 1000000 in
theorem l1Mounts_any (A0 A1 A2 A3 : Option Addr) (n0 c0 n1 c1 n2 c2 n3 c3 : Nat) (l p t : Int) (x2 x3 : Nat → Int) (w : World)
    (s2 : Sl w w.heap.size 2 A2 n2 x2) (s3 : Sl w w.heap.size 1 A3 n3 x3) (b0 : n0 ≤ maxLen) (b2 : n2 ≤ maxLen) (b3 : n3 ≤ maxLen) :
    Calls Tryz.prog 36 #[planV A0 A1 A2 A3 n0 c0 n1 c1 n2 c2 n3 c3 l p t] w fun e w' =>
      e = .returned (.bool (allB n2 (mountB n0 x2) && allB n3 (deviceB n2 x3) && decide (n2 ≤ 12) && decide (n3 ≤ 12))) ∧ Below w.heap.size w w' := by
  unfold maxLen at b0 b2 b3
  have S2 := Lib.hid s2
  have S3 := Lib.hid s3
  clear s2 s3
  go_enter Tryz.func36, Tryz.ntmps36
  go_wp2
  go_loopw [3] (fun i wr => ∃ k : Nat, k ≤ n2 ∧ i = .int .i64 k ∧ (∀ j, j < k → mountB n0 x2 j = true) ∧ Own w wr w.heap.size (planC A0 A1 A2 A3 n0 c0 n1 c1 n2 c2 n3 c3 l p t)) (fun i _ => n2 - (intOf i).toNat)
  case atStart => exact ⟨0, Nat.zero_le _, rfl, fun j hj => absurd hj (by omega), Own.box w _ _⟩
  case round =>
    obtain ⟨k, hk, rfl, hall, X⟩ := hrel
    have HA := Lib.hid hall
    clear hall
    have hC := X.C
    have hz := X.z
    by_cases hlt : k < n2
    · obtain ⟨b, off, rfl, hb, q0, q1⟩ := (S2.out.own X).cell2 hlt
      cases hp : inB (x2 (k * 2)) 0 (n0 - 1)
      all_goals
        go_wp2_with fail
        go_quiet ((go_at_call 26; exact Calls.quiet_of_same ((in_any _ _ _ _).mono fun e w' h => ⟨h.1, h.2.symm⟩)))
        go_wp2
        all_goals first
          | (refine ⟨⟨k + 1, by omega, by go_num, step_all HA.out (by simp_all [mountB]), X.drewN _⟩, by simp [intOf]; omega⟩)
          | (go_ret; exact ⟨ret_bool (by rw [allB_false hlt (by simp_all [mountB])]; rfl), (X.drewN _).K⟩)
    · obtain rfl : k = n2 := by omega
      have HA2 := Lib.hid (allB_true.2 HA.out)
      clear HA hk hlt
      go_wp2
      go_loopw [4] (fun i wr => ∃ m : Nat, m ≤ n3 ∧ i = .int .i64 m ∧ (∀ j, j < m → deviceB k x3 j = true) ∧ Own w wr w.heap.size (planC A0 A1 A2 A3 n0 c0 n1 c1 k c2 n3 c3 l p t)) (fun i _ => n3 - (intOf i).toNat)
      case atStart => exact ⟨0, Nat.zero_le _, rfl, fun j hj => absurd hj (by omega), X⟩
      case round =>
        clear hC hz X
        obtain ⟨m, hm, rfl, hall, X⟩ := hrel
        have HA := Lib.hid hall
        clear hall
        have hC := X.C
        have hz := X.z
        by_cases hlt : m < n3
        · obtain ⟨b, off, rfl, hb, q0⟩ := (S3.out.own X).cell1 hlt
          go_wp2_with fail
          go_quiet ((go_at_call 26; exact Calls.quiet_of_same ((in_any _ _ _ _).mono fun e w' h => ⟨h.1, h.2.symm⟩)))
          go_wp2
          all_goals first
            | (refine ⟨⟨m + 1, by omega, by go_num, step_all HA.out (by simp_all [deviceB]), X.drewN _⟩, by simp [intOf]; omega⟩)
            | (go_ret; exact ⟨ret_bool (by rw [allB_false hlt (by simp_all [deviceB])]; simp), (X.drewN _).K⟩)
        · obtain rfl : m = n3 := by omega
          have HB := Lib.hid (allB_true.2 HA.out)
          clear HA hm hlt
          go_wp2
          all_goals (go_ret; refine ⟨ret_bool ?_, X.K⟩)
          all_goals (rw [HA2.out, HB.out, Bool.eq_iff_iff]; simp; omega)

set_option maxHeartbeats 1000000 in
theorem spec_planOk_any (v : Value) (d : PlanD) (w : World) (h : IsPlan w w.heap.size v d) :
    Calls Tryz.prog 17 #[v] w fun e w' => e = .returned (.bool (planOkB d)) ∧ Below w.heap.size w w' := by
  obtain ⟨⟨A0, A1, A2, A3, c0, c1, c2, c3, rfl, s0, s1, s2, s3⟩, b0, b1, b2, b3⟩ := h
  obtain ⟨n0, n1, n2, n3, x0, x1, x2, x3, l, p, t⟩ := d
  dsimp only at *
  have S0 := Lib.hid s0
  have S1 := Lib.hid s1
  have S2 := Lib.hid s2
  have S3 := Lib.hid s3
  have B0 := Lib.hid b0
  have B2 := Lib.hid b2
  have B3 := Lib.hid b3
  clear s0 s1 s2 s3 b0 b2 b3
  have B1 := Lib.hid b1
  unfold maxLen at b1
  go_enter Tryz.func17, Tryz.ntmps17
  go_wp2
  go_loopw [3] (fun i wr => ∃ k : Nat, k ≤ n1 ∧ i = .int .i64 k ∧ (∀ j, j < k → minB x1 j = true) ∧ Own w wr w.heap.size (planC A0 A1 A2 A3 n0 c0 n1 c1 n2 c2 n3 c3 l p t)) (fun i _ => n1 - (intOf i).toNat)
  case atStart => exact ⟨0, Nat.zero_le _, rfl, fun j hj => absurd hj (by omega), Own.box w _ _⟩
  case round =>
    obtain ⟨k, hk, rfl, hall, X⟩ := hrel
    have HA := Lib.hid hall
    clear hall
    have hC := X.C
    have hz := X.z
    by_cases hlt : k < n1
    · obtain ⟨b, off, rfl, hb, q0⟩ := (S1.out.own X).cell1 hlt
      go_wp2_with (go_at_call 26; refine (in_any _ _ _ _).mono ?_; rintro e w' ⟨rfl, rfl⟩)
      all_goals first
        | (refine ⟨⟨k + 1, by omega, by go_num, step_all HA.out (by simp_all [minB]), X⟩, by simp [intOf]; omega⟩)
        | (go_ret; exact ⟨ret_bool (by simp [planOkB, allB_false hlt (show minB x1 k = false by simp_all [minB])]), X.K⟩)
    · obtain rfl : k = n1 := by omega
      have HB := Lib.hid (allB_true.2 HA.out)
      clear HA hk hlt
      go_wp2_with (first
        | (go_at_call 26; refine (in_any _ _ _ _).mono ?_; rintro e w' ⟨rfl, rfl⟩)
        | (go_at_call 35; refine (l1Pods_any A0 A1 A2 A3 n0 c0 k c1 n2 c2 n3 c3 l p t x0 _ (S0.out.own X) B0.out B1.out).mono ?_; rintro e w2 ⟨rfl, hb2⟩; have X2 := X.step hb2; have hC2 := X2.C; clear hb2)
        | (go_at_call 36; refine (l1Mounts_any A0 A1 A2 A3 n0 c0 k c1 n2 c2 n3 c3 l p t x2 x3 _ (S2.out.own X2) (S3.out.own X2) B0.out B2.out B3.out).mono ?_; rintro e w3 ⟨rfl, hb3⟩; have X3 := X2.step hb3; have hC3 := X3.C; clear hb3))
      all_goals (go_ret; refine ⟨ret_bool ?_, by first | exact X3.K | exact X2.K | exact X.K⟩)
      all_goals (have hB := HB.out; clear HB hC X; rw [Bool.eq_iff_iff]; simp only [planOkB, sizesB, timesB, hB, Bool.and_eq_true, decide_eq_true_eq]; grind)
end Go.Proofs.YtfibgpikjfopgaaGreat
/- Pe -/
set_option linter.unusedVariables false
namespace Go.Proofs.YtfibgpikjfopgaaGreat
open Go.RowKit
theorem info_pod : (Tryz.prog.info? 53).map (fun i => (i.zero, i.size, i.bytes)) = some (some (.agg #[.int .i64 0, .int .i64 0, .int .i64 0, .int .i64 0]), 4, 32) := by kernel_rfl
theorem info_i64 : (Tryz.prog.info? 2).map (fun i => (i.zero, i.size, i.bytes)) = some (some (.int .i64 0), 1, 8) := by kernel_rfl
theorem info_mount : (Tryz.prog.info? 60).map (fun i => (i.zero, i.size, i.bytes)) = some (some (.agg #[.int .i64 0, .int .i64 0]), 2, 16) := by kernel_rfl
theorem info_device : (Tryz.prog.info? 62).map (fun i => (i.zero, i.size, i.bytes)) = some (some (.agg #[.int .i64 0]), 1, 8) := by kernel_rfl

end Go.Proofs.YtfibgpikjfopgaaGreat
/- Pf -/
set_option linter.unusedVariables false
namespace Go.Proofs.YtfibgpikjfopgaaGreat
open Go.RowKit

theorem RowF.far {w : World} {g N : Nat} {x : Nat → Int} (h : RowF w g N x) {p : Addr} (hne : p.block ≠ g) (v : Value) : RowF (w.setCell p v) g N x := fun j hj =>
  ⟨(World.cell?_setCell_other _ _ _ _ (fun e => hne (by rw [e]))).trans (h j hj).1, by rw [World.frozen?_setCell]; exact (h j hj).2⟩
theorem RowF.alloc {w : World} {g N : Nat} {x : Nat → Int} (h : RowF w g N x) (hg : g < w.heap.size) (o : Obj) : RowF (w.alloc o) g N x := h.below ((Below.refl _ _).alloc (Nat.le_refl _) o) hg
theorem RowF.sl {w : World} {g N k n B : Nat} {x : Nat → Int} (h : RowF w g N x) (hN : n * k ≤ N) (hg : g < B) : Sl w B k (some ⟨g, 0, none⟩) n x := fun _ =>
  ⟨g, 0, rfl, hg, fun j hj => by rw [Nat.zero_add]; exact (h j (by omega)).1⟩

/-- A plan of new memory. -/
structure NewPlan (w w' : World) (d : PlanD) (g0 g1 g2 g3 : Nat) : Prop where
  l0 : w.heap.size ≤ g0
  l1 : g0 < g1
  l2 : g1 < g2
  l3 : g2 < g3
  l4 : g3 < w'.heap.size
  R0 : RowF w' g0 (d.n0 * 4) d.x0
  R1 : RowF w' g1 d.n1 d.x1
  R2 : RowF w' g2 (d.n2 * 2) d.x2
  R3 : RowF w' g3 d.n3 d.x3
abbrev newPlanV (d : PlanD) (g0 g1 g2 g3 : Nat) : Value := planV (some ⟨g0, 0, none⟩) (some ⟨g1, 0, none⟩) (some ⟨g2, 0, none⟩) (some ⟨g3, 0, none⟩) d.n0 d.n0 d.n1 d.n1 d.n2 d.n2 d.n3 d.n3 d.l d.p d.t
def MadePlan (w : World) (d : PlanD) (e : Ending) (w' : World) : Prop :=
  ∃ g0 g1 g2 g3, e = .returned (newPlanV d g0 g1 g2 g3) ∧ NewPlan w w' d g0 g1 g2 g3 ∧ Below w.heap.size w w'

theorem heap_size_alloc_ (w : World) (o : Obj) : (w.alloc o).heap.size = w.heap.size + 1 := by simp

/-- The three blocks of a copy under way: what came in, the answer's cell, the copy. -/
structure TP (w w1 : World) (cs zs os : Array Value) : Prop where
  A : Own w w1 w.heap.size cs
  Z : Own w w1 (w.heap.size + 1) zs
  O : Own w w1 (w.heap.size + 1 + 1) os
theorem TP.start (w : World) (cs zs os : Array Value) (t t' t'' : TypeId) : TP w (((w.alloc (.cells cs t)).alloc (.cells zs t')).alloc (.cells os t'')) cs zs os := by
  have h1 := Own.box w cs t
  have h2 := Own.box2 h1.K zs t'
  have h3 := Own.box2 h2.K os t''
  simp only [heap_size_alloc_] at h2 h3
  exact ⟨(h1.alloc _).alloc _, h2.alloc _, h3⟩
theorem TP.step {w w1 w2 : World} {cs zs os : Array Value} (h : TP w w1 cs zs os) (hb : Below w1.heap.size w1 w2) : TP w w2 cs zs os := ⟨h.A.step hb, h.Z.step hb, h.O.step hb⟩
theorem TP.set {w w1 : World} {cs zs os : Array Value} (h : TP w w1 cs zs os) {i : Nat} (hi : i < os.size) (v : Value) : TP w (w1.setCell ⟨w.heap.size + 1 + 1, i, none⟩ v) cs zs (os.setIfInBounds i v) :=
  ⟨h.A.far (by simp; omega) (by simp; omega) v, h.Z.far (by simp; omega) (by simp) v, h.O.set (by omega) hi v⟩

theorem NewPlan.is {w w' : World} {d : PlanD} {g0 g1 g2 g3 : Nat} (h : NewPlan w w' d g0 g1 g2 g3) (b0 : d.n0 ≤ maxLen) (b1 : d.n1 ≤ maxLen) (b2 : d.n2 ≤ maxLen) (b3 : d.n3 ≤ maxLen) :
    IsPlan w' w'.heap.size (newPlanV d g0 g1 g2 g3) d := by
  obtain ⟨l0, l1, l2, l3, l4, R0, R1, R2, R3⟩ := h
  exact ⟨⟨_, _, _, _, _, _, _, _, rfl, R0.sl (by omega) (by omega), R1.sl (by omega) (by omega), R2.sl (by omega) (by omega), R3.sl (by omega) (by omega)⟩, b0, b1, b2, b3⟩

/-- Two blocks of what came in. -/
structure Two (w w1 : World) (cs os : Array Value) : Prop where
  A : Own w w1 w.heap.size cs
  O : Own w w1 (w.heap.size + 1) os
theorem Two.start (w : World) (cs os : Array Value) (t t' : TypeId) : Two w ((w.alloc (.cells cs t)).alloc (.cells os t')) cs os := by
  have h1 := Own.box w cs t
  have h2 := Own.box2 h1.K os t'
  simp only [heap_size_alloc_] at h2
  exact ⟨h1.alloc _, h2⟩
theorem Two.step {w w1 w2 : World} {cs os : Array Value} (h : Two w w1 cs os) (hb : Below w1.heap.size w1 w2) : Two w w2 cs os := ⟨h.A.step hb, h.O.step hb⟩

def fits (d : PlanD) : Prop := d.n0 + d.n1 + d.n2 + d.n3 ≤ 1048576
def szP (d : PlanD) : Int := if d.n0 + d.n1 + d.n2 + d.n3 ≤ 1048576 then 1048576 - d.n0 - d.n1 - d.n2 - d.n3 else -1
end Go.Proofs.YtfibgpikjfopgaaGreat
/- PjA -/
set_option linter.unusedVariables false
namespace Go.Proofs.YtfibgpikjfopgaaGreat
open Go.RowKit
/-- The indexes below n at which f is the wanted number, rising. -/
def hits (n : Nat) (f : Nat → Int) (wanted : Int) : List Int := ((List.range n).filter (fun i => f i == wanted)).map (fun i : Nat => (i : Int))
theorem hits_zero (f : Nat → Int) (wanted : Int) : hits 0 f wanted = [] := rfl
theorem hits_yes {n : Nat} {f : Nat → Int} {wanted : Int} (h : (f n == wanted) = true) : hits (n + 1) f wanted = hits n f wanted ++ [(n : Int)] := by
  simp [hits, List.range_succ, List.filter_append, h]
theorem hits_no {n : Nat} {f : Nat → Int} {wanted : Int} (h : (f n == wanted) = false) : hits (n + 1) f wanted = hits n f wanted := by
  simp [hits, List.range_succ, List.filter_append, h]
theorem hits_le (n : Nat) (f : Nat → Int) (wanted : Int) : (hits n f wanted).length ≤ n := by
  have := List.length_filter_le (fun i => f i == wanted) (List.range n)
  simpa [hits] using this

/-- What the chapter asks of these functions: the indexes, or nothing where the plan is not right. -/
def found (d : PlanD) (n : Nat) (f : Nat → Int) (wanted : Int) : List Int := if planOkB d then hits n f wanted else []
theorem found_yes {d : PlanD} {n : Nat} {f : Nat → Int} {wanted : Int} (h : planOkB d = true) : found d n f wanted = hits n f wanted := if_pos h
theorem found_no {d : PlanD} {n : Nat} {f : Nat → Int} {wanted : Int} (h : planOkB d = false) : found d n f wanted = [] := if_neg (by rw [h]; decide)
end Go.Proofs.YtfibgpikjfopgaaGreat
/- Pj -/
set_option linter.unusedVariables false
namespace Go.Proofs.YtfibgpikjfopgaaGreat
open Go.RowKit

set_option maxRecDepth 100000 in
set_option maxHeartbeats 1000000 in
theorem numbersWith_any (pv : Value) (d : PlanD) (g n : Nat) (f : Nat → Int) (wanted : Int) (w : World) (h : IsPlan w w.heap.size pv d) (hn : n ≤ 1048576)
    (hg : ∀ (x y : Value) (wr : World), (callFunc g #[x, y]).run Tryz.prog wr = .ok (.enter g #[x, y]) wr)
    (H : Hid (∀ i, i < n → ∀ wr, Below w.heap.size w wr → Calls Tryz.prog g #[pv, .int .i64 i] wr fun e w' => e = .returned (.int .i64 (f i)) ∧ Below wr.heap.size wr w')) :
    Calls Tryz.prog 78 #[pv, .int .i64 n, .func (.func g) #[pv] #[], .int .i64 wanted] w (Listed w (found d n f wanted)) := by
  have HN := Lib.hid hn
  have hn' : n ≤ 2 ^ 63 - 1 := by omega
  clear hn
  have P := Lib.hid h
  obtain ⟨⟨A0, A1, A2, A3, c0, c1, c2, c3, rfl, -, -, -, -⟩, -, -, -, -⟩ := h
  obtain ⟨i0, hi, hz0, hz1, hz2⟩ := info_parts info_i64
  have HI := Lib.hid hi
  have HZ0 := Lib.hid hz0
  have HZ1 := Lib.hid hz1
  have HZ2 := Lib.hid hz2
  clear hi hz0 hz1 hz2
  go_enter Tryz.func78, Tryz.ntmps78
  go_wp2_with fail
  have X1 := (Own.box w (planC A0 A1 A2 A3 d.n0 c0 d.n1 c1 d.n2 c2 d.n3 c3 d.l d.p d.t) 32).alloc (.cells #[] 2)
  have O1 : ((w.alloc (.cells (planC A0 A1 A2 A3 d.n0 c0 d.n1 c1 d.n2 c2 d.n3 c3 d.l d.p d.t) 32)).alloc (.cells #[] 2)).ownsRow w.heap.size 2 1 (.slice (some ⟨w.heap.size + 1, 0, none⟩) 0 0) 0 [] := by
    have := World.ownsRow_made (base := w.heap.size) (e := 2) (size := 1) (w.alloc (.cells (planC A0 A1 A2 A3 d.n0 c0 d.n1 c1 d.n2 c2 d.n3 c3 d.l d.p d.t) 32)) #[] 0 (by simp) (Nat.zero_le _) rfl
    simpa using this
  refine (planOk_any _ d _ ((P.out.below X1.K (Nat.le_refl _)).more X1.K.size)).mono ?_
  rintro e w1 ⟨rfl, hb⟩
  have X2 := X1.step hb
  have O2 := ownsRow_below O1 hb
  clear X1 O1 hb
  cases hq : planOkB d
  · have HF := Lib.hid (found_no (n := n) (f := f) (wanted := wanted) hq)
    clear hq
    go_wp2
    go_ret
    exact ⟨_, rfl, by rw [HF.out]; exact O2, X2.K⟩
  · have HF := Lib.hid (found_yes (n := n) (f := f) (wanted := wanted) hq)
    clear hq
    have K2 := X2.K
    clear X2
    go_wp2
    go_loopw [9, 17] (fun v i wr => ∃ k : Nat, k ≤ n ∧ i = .int .i64 k ∧ wr.ownsRow w.heap.size 2 1 v (hits k f wanted).length ((hits k f wanted).map (Value.int .i64)) ∧ Below w.heap.size w wr) (fun _ i _ => n - (intOf i).toNat)
    case atStart => exact ⟨0, Nat.zero_le _, rfl, O2, K2⟩
    case round =>
      clear O2 K2
      obtain ⟨k, hk, rfl, O, K⟩ := hrel
      by_cases hlt : k < n
      · have hf := H.out k hlt _ K
        have hle := hits_le k f wanted
        have HO := Lib.hid O
        clear O
        cases hv : (f k == wanted)
        · have HV := Lib.hid (hits_no hv)
          go_wp2_with (refine hf.mono ?_; rintro e w3 ⟨rfl, hb3⟩)
          exact ⟨⟨k + 1, by omega, by go_num, by rw [HV.out]; exact ownsRow_below HO.out hb3, K.trans (hb3.mono K.size)⟩, by simp [intOf]; omega⟩
        · have HV := Lib.hid (hits_yes hv)
          have h63 : (hits k f wanted).length + 1 ≤ maxLen := by have := HN.out; unfold maxLen; omega
          have hby : ((hits k f wanted).length + 1) * 8 ≤ 140737488355328 := by have := HN.out; omega
          have H63 := Lib.hid h63
          have HBY := Lib.hid hby
          clear h63 hby
          go_wp2_with (first
            | (refine hf.mono ?_; rintro e w3 ⟨rfl, hb3⟩)
            | (at_builtin; refine wpList_append_own _ rfl _ _ 28 rfl w.heap.size 2 i0 (.int .i64 0) 1 8 Tryz.underlying28 HI.out HZ0.out HZ1.out HZ2.out rfl (by decide) _ _ _ rfl ((ownsRow_below HO.out hb3).alloc _) ⟨w3.heap.size, 0, none⟩ 1 1 [.int .i64 k] rfl rfl (cell_one_new _ _ _) (fun x hx => by simp at hx; subst hx; rfl) H63.out HBY.out (by have := K.size; have := hb3.size; simp; omega) ?_; intro v' w4 hown' hgrow hnil))
          have K3 : Below w.heap.size w (w3.alloc (.cells #[.int .i64 k] 2)) := (K.trans (hb3.mono K.size)).alloc (Nat.le_trans K.size hb3.size) _
          refine ⟨⟨k + 1, by omega, by go_num, ?_, K3.grown hgrow K3.size fun g hg => ((ownsRow_below HO.out hb3).lt g hg).1⟩, by simp [intOf]; omega⟩
          rw [HV.out]
          simpa using hown'
      · obtain rfl : k = n := by omega
        go_wp2
        go_ret
        exact ⟨_, rfl, by rw [HF.out]; exact O, K⟩
end Go.Proofs.YtfibgpikjfopgaaGreat
/- PmA -/
set_option linter.unusedVariables false
namespace Go.Proofs.YtfibgpikjfopgaaGreat
open Go.RowKit
theorem found_le (d : PlanD) (n : Nat) (f : Nat → Int) (wanted : Int) : (found d n f wanted).length ≤ n := by
  unfold found
  split
  · exact hits_le _ _ _
  · exact Nat.zero_le _

theorem NewPlan.below {w0 w w' : World} {d : PlanD} {g0 g1 g2 g3 : Nat} (h : NewPlan w0 w d g0 g1 g2 g3) (hb : Below w.heap.size w w') : NewPlan w0 w' d g0 g1 g2 g3 := by
  obtain ⟨l0, l1, l2, l3, l4, R0, R1, R2, R3⟩ := h
  exact ⟨l0, l1, l2, l3, Nat.lt_of_lt_of_le l4 hb.size, R0.below hb (by omega), R1.below hb (by omega), R2.below hb (by omega), R3.below hb (by omega)⟩

end Go.Proofs.YtfibgpikjfopgaaGreat
/- PwL -/
set_option linter.unusedVariables false
namespace Go.Proofs.YtfibgpikjfopgaaGreat
open Go.RowKit

theorem plan_of_owned {w : World} {B0 B1 B2 B3 : Nat} {v0 v1 v2 v3 : Value} {d : PlanD} (o0 : OI w B0 53 4 v0 d.n0 d.x0) (o1 : OI w B1 2 1 v1 d.n1 d.x1) (o2 : OI w B2 60 2 v2 d.n2 d.x2) (o3 : OI w B3 62 1 v3 d.n3 d.x3) :
    IsPlan w w.heap.size (.agg #[v0, v1, v2, v3, .int .i64 d.l, .int .i64 d.p, .int .i64 d.t]) d := by
  obtain ⟨A0, c0, rfl, s0, b0⟩ := o0.form
  obtain ⟨A1, c1, rfl, s1, b1⟩ := o1.form
  obtain ⟨A2, c2, rfl, s2, b2⟩ := o2.form
  obtain ⟨A3, c3, rfl, s3, b3⟩ := o3.form
  exact ⟨⟨_, _, _, _, _, _, _, _, rfl, s0, s1, s2, s3⟩, b0, b1, b2, b3⟩

/-- The four lists of a plan. -/
structure Lists (w : World) (B : Nat) (v0 v1 v2 v3 : Value) (d : PlanD) : Prop where
  o0 : OI w B 53 4 v0 d.n0 d.x0
  o1 : OI w B 2 1 v1 d.n1 d.x1
  o2 : OI w B 60 2 v2 d.n2 d.x2
  o3 : OI w B 62 1 v3 d.n3 d.x3
theorem Lists.below {w w' : World} {B : Nat} {v0 v1 v2 v3 : Value} {d : PlanD} (h : Lists w B v0 v1 v2 v3 d) (hb : Below w.heap.size w w') : Lists w' B v0 v1 v2 v3 d :=
  ⟨h.o0.below hb, h.o1.below hb, h.o2.below hb, h.o3.below hb⟩
theorem Lists.keeps {w w' : World} {B g T : Nat} {cs : Array Value} {v0 v1 v2 v3 : Value} {d : PlanD} (h : Lists w B v0 v1 v2 v3 d) (kk : Keeps (· = g) w w') (hg : w.heap[g]? = some (.cells cs T (0, 0)))
    (hT : T ≠ 53 ∧ T ≠ 2 ∧ T ≠ 60 ∧ T ≠ 62) : Lists w' B v0 v1 v2 v3 d :=
  ⟨h.o0.keeps kk hg hT.1, h.o1.keeps kk hg hT.2.1, h.o2.keeps kk hg hT.2.2.1, h.o3.keeps kk hg hT.2.2.2⟩
theorem Lists.base {w : World} {B B' : Nat} {v0 v1 v2 v3 : Value} {d : PlanD} (h : Lists w B v0 v1 v2 v3 d) (hb : B' ≤ B) : Lists w B' v0 v1 v2 v3 d := by
  obtain ⟨⟨a, ha, ha'⟩, ⟨b, hb1, hb2⟩, ⟨c, hc, hc'⟩, ⟨e, he, he'⟩⟩ := h
  exact ⟨⟨a, ownsRow_base ha hb, ha'⟩, ⟨b, ownsRow_base hb1 hb, hb2⟩, ⟨c, ownsRow_base hc hb, hc'⟩, ⟨e, ownsRow_base he hb, he'⟩⟩
theorem Lists.plan {w : World} {B : Nat} {v0 v1 v2 v3 : Value} {d : PlanD} (h : Lists w B v0 v1 v2 v3 d) : IsPlan w w.heap.size (.agg #[v0, v1, v2, v3, .int .i64 d.l, .int .i64 d.p, .int .i64 d.t]) d :=
  plan_of_owned h.o0 h.o1 h.o2 h.o3
end Go.Proofs.YtfibgpikjfopgaaGreat
/- Pq -/
set_option linter.unusedVariables false
namespace Go.Proofs.YtfibgpikjfopgaaGreat
open Go.RowKit
set_option maxRecDepth 100000 in
set_option maxHeartbeats 1000000 in
theorem below_any (g : Nat) (n : Int) (w : World) (h : Cur 58 .u64 w g) (h0 : 0 < n) (h1 : n ≤ 1000000) :
    Calls Tryz.prog 9 #[.pointer (some ⟨g, 0, none⟩), .int .i64 n] w (Drawn 58 .u64 g n w) := by
  obtain ⟨A, m, c, i, hh, hg, i0, i1, hm, hB⟩ := h
  have q0 := cell_of_row w g 0 _ _ _ hg
  have q1 := cell_of_row w g 1 _ _ _ hg
  have q2 := cell_of_row w g 2 _ _ _ hg
  have f2 := frozen_of_row w g 2 _ _ hg
  have f1 := frozen_of_row w g 1 _ _ hg
  simp at q0 q1 q2
  have hr := and_u24 (IntKind.u64.wrap (IntKind.u64.wrap (hh * 6364136223846793005) + 1442695040888963407) / 8589934592)
  have HR := Lib.hid hr
  clear hr
  go_enter Tryz.func9, Tryz.ntmps9
  go_wp2_with fail
  rw [IntWalk.wrap64_in _ ⟨by have := HR.out.1; omega, by have := HR.out.2; omega⟩]
  generalize bits BinOp.and IntKind.u64 (IntKind.u64.wrap (IntKind.u64.wrap (hh * 6364136223846793005) + 1442695040888963407) / 8589934592) 16777215 = X at HR ⊢
  obtain ⟨X0, X1⟩ := HR.out
  by_cases hlt : i < m
  · obtain ⟨b, off, rfl, hbg, hz⟩ := hB (by omega)
    obtain ⟨i, rfl⟩ := Int.eq_ofNat_of_zero_le i0
    obtain ⟨z, hz0, z0, z1⟩ := hz i (by omega)
    clear hz
    go_quiet (fail)
    have HB := Lib.hid hB
    clear hB
    have e1 : IntKind.i64.wrap (X + z) = X + z := IntWalk.i64_in _ (by omega)
    have e2 : IntKind.i64.wrap z = z := IntWalk.i64_in _ (by omega)
    have p1 : 0 ≤ X + z := by omega
    go_wp2_with fail
    go_quiet (fail)
    clear e1 e2
    go_wp2_with fail
    go_ret
    have hgs : g < w.heap.size := (Array.getElem?_eq_some_iff.1 hg).1
    have K := (((Keeps.refl (· = g) w).set (p := ⟨g, 2, none⟩) rfl (.int .u64 (IntKind.u64.wrap (IntKind.u64.wrap (hh * 6364136223846793005) + 1442695040888963407)))).drewN nq)
    have K2 := K.set (p := ⟨g, 1, none⟩) rfl (.int .i64 ((i : Int) + 1))
    refine ⟨_, rfl, Int.emod_nonneg _ (by omega), Int.emod_lt_of_pos _ h0, Cur.of (i := (i : Int) + 1) HB.out hm ?_ hgs (heap_setCell_same _ g 1 _ _ _ (heap_setCell_same w g 2 _ _ _ hg)) (by omega) (by omega), ?_⟩
    · exact (((Keeps.refl (· = g) w).set (p := ⟨g, 2, none⟩) rfl _).drewN _).set (p := ⟨g, 1, none⟩) rfl _
    · exact (((Keeps.refl (· = g) w).set (p := ⟨g, 2, none⟩) rfl _).drewN _).set (p := ⟨g, 1, none⟩) rfl _
  · go_quiet (fail)
    go_wp2_with fail
    go_ret
    have hgs : g < w.heap.size := (Array.getElem?_eq_some_iff.1 hg).1
    refine ⟨_, rfl, Int.emod_nonneg _ (by omega), Int.emod_lt_of_pos _ h0, Cur.of (i := i) hB hm ?_ hgs (heap_setCell_same w g 2 _ _ _ hg) (by omega) (by omega), ?_⟩
    · exact ((Keeps.refl (· = g) w).set (p := ⟨g, 2, none⟩) rfl _).drewN _
    · exact ((Keeps.refl (· = g) w).set (p := ⟨g, 2, none⟩) rfl _).drewN _
end Go.Proofs.YtfibgpikjfopgaaGreat
/- Pr -/
set_option linter.unusedVariables false
namespace Go.Proofs.YtfibgpikjfopgaaGreat
open Go.RowKit
set_option maxRecDepth 100000 in
set_option maxHeartbeats 1000000 in
theorem roll_any (A : Option Addr) (n c : Nat) (s : Int) (w : World) (hB : Bytes w w.heap.size A n) (hn : n ≤ 4096) :
    Calls Tryz.prog 5 #[.slice A n c, .int .u64 s] w (Rolled 58 .u64 w) := by
  have HB := Lib.hid hB
  clear hB
  go_enter Tryz.func5, Tryz.ntmps5
  go_wp2
  go_loopw [6] (fun i wr => ∃ k : Nat, k ≤ n ∧ i = .int .i64 k ∧ Below w.heap.size w wr ∧ (∃ h, wr.heap[w.heap.size]? = some (.cells (curC .u64 A n c 0 h) 58 (0, 0)))) (fun i _ => n - (intOf i).toNat)
  case atStart => exact ⟨0, Nat.zero_le _, rfl, (Below.refl _ _).alloc (Nat.le_refl _) _, _, heap_alloc_new _ _⟩
  case round =>
    obtain ⟨k, hk, rfl, K, h, hg⟩ := hrel
    have q2 := cell_of_row wr w.heap.size 2 _ _ _ hg
    have f2 := frozen_of_row wr w.heap.size 2 _ _ hg
    simp at q2
    by_cases hlt : k < n
    · obtain ⟨b, off, rfl, hbg, hz⟩ := HB.out (by omega)
      obtain ⟨z, hz0, z0, z1⟩ := hz k hlt
      have hz0 := (K.cell (p := ⟨b, off + k, none⟩) hbg).trans hz0
      clear hz
      go_wp2_with fail
      go_still_tail 15, (by kernel_rfl)
      have K2 : Below w.heap.size w wr.drew := K.drew
      have hg2 : wr.drew.heap[w.heap.size]? = some (.cells (curC .u64 (some ⟨b, off, none⟩) n c 0 h) 58 (0, 0)) := hg
      have q2 : wr.drew.cell? ⟨w.heap.size, 2, none⟩ = some (.int .u64 h) := q2
      have f2 : wr.drew.frozen? ⟨w.heap.size, 2, none⟩ = false := f2
      change wpList _ _ _ _ _ wr.drew
      clear hg K hz0
      generalize wr.drew = w2 at K2 hg2 q2 f2 ⊢
      go_wp2_with fail
      exact ⟨⟨k + 1, by omega, by go_num, K2.setCell (Nat.le_refl _) _, _, heap_setCell_same _ _ 2 _ _ _ hg2⟩, by simp [intOf]; omega⟩
    · obtain rfl : k = n := by omega
      go_wp2
      go_ret
      refine ⟨_, rfl, Nat.le_refl _, ⟨A, k, c, 0, h, hg, by omega, by omega, hn, HB.out.below K (Nat.le_refl _)⟩, K⟩
end Go.Proofs.YtfibgpikjfopgaaGreat
/- Ps -/
set_option linter.unusedVariables false
namespace Go.Proofs.YtfibgpikjfopgaaGreat
open Go.RowKit
def zeroC : Array Value := planC none none none none 0 0 0 0 0 0 0 0 0 0 0
/-- A plan under way in block P, beside the cursor g; R is where the answer will lie. -/
structure Bld (T : TypeId) (kd : IntKind) (w W : World) (g R P : Nat) (cs : Array Value) (v0 v1 v2 v3 : Value) (n0 n1 n2 n3 : Nat) (x0 x1 x2 x3 : Nat → Int) : Prop where
  cur : Cur T kd W g
  keep : Keeps (· = g) w W
  old : g < w.heap.size
  pl : W.heap[P]? = some (.cells cs 32 (0, 0))
  pge : w.heap.size ≤ P
  rl : W.heap[R]? = some (.cells zeroC 32 (0, 0))
  rge : w.heap.size ≤ R
  rp : R ≠ P
  o0 : OI W w.heap.size 53 4 v0 n0 x0
  o1 : OI W w.heap.size 2 1 v1 n1 x1
  o2 : OI W w.heap.size 60 2 v2 n2 x2
  o3 : OI W w.heap.size 62 1 v3 n3 x3

section
variable {T : TypeId} {kd : IntKind} {w W W' : World} {g R P : Nat} {cs : Array Value} {v0 v1 v2 v3 : Value} {n0 n1 n2 n3 : Nat} {x0 x1 x2 x3 : Nat → Int}
def apart (T : TypeId) : Prop := T ≠ 32 ∧ T ≠ 53 ∧ T ≠ 2 ∧ T ≠ 60 ∧ T ≠ 62
theorem Cur.head {T : TypeId} {k : IntKind} {w : World} {g : Nat} (h : Cur T k w g) : ∃ cs, w.heap[g]? = some (.cells cs T (0, 0)) := by
  obtain ⟨A, n, c, i, hh, hg, _⟩ := h
  exact ⟨_, hg⟩
theorem Bld.cell (h : Bld T kd w W g R P cs v0 v1 v2 v3 n0 n1 n2 n3 x0 x1 x2 x3) (o : Nat) : W.cell? ⟨P, o, none⟩ = cs[o]? := cell_of_row W P o cs _ _ h.pl
theorem Bld.frozen (h : Bld T kd w W g R P cs v0 v1 v2 v3 n0 n1 n2 n3 x0 x1 x2 x3) (o : Nat) : W.frozen? ⟨P, o, none⟩ = false := frozen_of_row W P o cs _ h.pl
theorem Bld.lt (h : Bld T kd w W g R P cs v0 v1 v2 v3 n0 n1 n2 n3 x0 x1 x2 x3) : P < W.heap.size := (Array.getElem?_eq_some_iff.1 h.pl).1
theorem Bld.rlt (h : Bld T kd w W g R P cs v0 v1 v2 v3 n0 n1 n2 n3 x0 x1 x2 x3) : R < W.heap.size := (Array.getElem?_eq_some_iff.1 h.rl).1
theorem Bld.draw (h : Bld T kd w W g R P cs v0 v1 v2 v3 n0 n1 n2 n3 x0 x1 x2 x3) (hT : apart T) (hk : Keeps (· = g) W W') (hc : Cur T kd W' g) : Bld T kd w W' g R P cs v0 v1 v2 v3 n0 n1 n2 n3 x0 x1 x2 x3 := by
  obtain ⟨ds, hg⟩ := h.cur.head
  have hPg : ¬ P = g := fun e => by
    have := h.pl
    rw [e, hg] at this
    injection this with this
    injection this with _ ht
    exact hT.1 ht
  have hRg : ¬ R = g := fun e => by
    have := h.rl
    rw [e, hg] at this
    injection this with this
    injection this with _ ht
    exact hT.1 ht
  exact ⟨hc, h.keep.trans hk, h.old, (hk.block P h.lt hPg).trans h.pl, h.pge, (hk.block R h.rlt hRg).trans h.rl, h.rge, h.rp, h.o0.keeps hk hg hT.2.1, h.o1.keeps hk hg hT.2.2.1, h.o2.keeps hk hg hT.2.2.2.1, h.o3.keeps hk hg hT.2.2.2.2⟩
theorem Bld.below (h : Bld T kd w W g R P cs v0 v1 v2 v3 n0 n1 n2 n3 x0 x1 x2 x3) (hb : Below W.heap.size W W') : Bld T kd w W' g R P cs v0 v1 v2 v3 n0 n1 n2 n3 x0 x1 x2 x3 :=
  ⟨h.cur.below hb, h.keep.trans (Keeps.of_below hb), h.old, (hb.block P h.lt).trans h.pl, h.pge, (hb.block R h.rlt).trans h.rl, h.rge, h.rp, h.o0.below hb, h.o1.below hb, h.o2.below hb, h.o3.below hb⟩
theorem Bld.alloc (h : Bld T kd w W g R P cs v0 v1 v2 v3 n0 n1 n2 n3 x0 x1 x2 x3) (o : Obj) : Bld T kd w (W.alloc o) g R P cs v0 v1 v2 v3 n0 n1 n2 n3 x0 x1 x2 x3 := h.below ((Below.refl _ _).alloc (Nat.le_refl _) o)
theorem Bld.drew (h : Bld T kd w W g R P cs v0 v1 v2 v3 n0 n1 n2 n3 x0 x1 x2 x3) : Bld T kd w W.drew g R P cs v0 v1 v2 v3 n0 n1 n2 n3 x0 x1 x2 x3 := h.below (Below.refl _ _).drew
theorem OI.setP {e k n : Nat} {B : Nat} {v : Value} {x : Nat → Int} (h : OI W B e k v n x) (hP : W.heap[P]? = some (.cells cs 32 (0, 0))) (hne : (32 : Nat) ≠ e) (i : Nat) (u : Value) : OI (W.setCell ⟨P, i, none⟩ u) B e k v n x :=
  h.keeps ((Keeps.refl (· = P) W).set (p := ⟨P, i, none⟩) rfl u) hP hne
theorem Bld.store (h : Bld T kd w W g R P cs v0 v1 v2 v3 n0 n1 n2 n3 x0 x1 x2 x3) (hT : apart T) (i : Nat) (u : Value) : Bld T kd w (W.setCell ⟨P, i, none⟩ u) g R P (cs.setIfInBounds i u) v0 v1 v2 v3 n0 n1 n2 n3 x0 x1 x2 x3 := by
  have hP := h.pl
  have hold := h.old
  have hge := h.pge
  have hk : Keeps (· = P) W (W.setCell ⟨P, i, none⟩ u) := (Keeps.refl (· = P) W).set (p := ⟨P, i, none⟩) rfl u
  refine ⟨h.cur.keeps hk (fun b hb e => by have e : b = P := e; omega), ?_, hold, heap_setCell_same W P i cs _ u hP, hge, (hk.block R h.rlt h.rp).trans h.rl, h.rge, h.rp, h.o0.setP hP (by decide) i u, h.o1.setP hP (by decide) i u, h.o2.setP hP (by decide) i u, h.o3.setP hP (by decide) i u⟩
  have hk0 := h.keep
  exact ⟨hk.os.trans hk0.os, hk.tape.trans hk0.tape, hk.output.trans hk0.output, Nat.le_trans hk0.size hk.size, fun b hb hn => (hk.block b (Nat.lt_of_lt_of_le hb hk0.size) (fun e => by have e : b = P := e; omega)).trans (hk0.block b hb hn)⟩
/-- What grows is one of the call's own rows: cursor, plan, what was there stay. -/
theorem Bld.base (h : Bld T kd w W g R P cs v0 v1 v2 v3 n0 n1 n2 n3 x0 x1 x2 x3) {e k n : Nat} {v : Value} {x : Nat → Int} (ho : OI W w.heap.size e k v n x) (hT : T ≠ e) (hP : (32 : Nat) ≠ e) (hg : W.grownBy W' v.ownBlock) :
    Cur T kd W' g ∧ Keeps (· = g) w W' ∧ W'.heap[P]? = some (.cells cs 32 (0, 0)) ∧ W'.heap[R]? = some (.cells zeroC 32 (0, 0)) := by
  have hlt := h.cur.lt
  have hold := h.old
  have hr : ∀ r, v.ownBlock = some r → w.heap.size ≤ r := fun r hr => by
    obtain ⟨xs, hown, _⟩ := ho
    exact (hown.lt r hr).1
  have hk : Keeps (fun b => v.ownBlock = some b) W W' := ⟨hg.os, hg.tape, hg.output, hg.size, fun b hb hn => hg.block b hb fun e => hn e.symm⟩
  refine ⟨h.cur.keeps hk (fun b hb e => by have := hr b e; omega), ?_, ?_, ?_⟩
  · have hk0 := h.keep
    exact ⟨hk.os.trans hk0.os, hk.tape.trans hk0.tape, hk.output.trans hk0.output, Nat.le_trans hk0.size hk.size, fun b hb hn => (hk.block b (Nat.lt_of_lt_of_le hb hk0.size) (fun e => by have := hr b e; omega)).trans (hk0.block b hb hn)⟩
  · refine (hk.block P h.lt fun e => ?_).trans h.pl
    obtain ⟨ds, hb⟩ := ho.block e
    rw [h.pl] at hb
    injection hb with hb
    injection hb with _ ht
    exact hP ht
  · refine (hk.block R h.rlt fun e => ?_).trans h.rl
    obtain ⟨ds, hb⟩ := ho.block e
    rw [h.rl] at hb
    injection hb with hb
    injection hb with _ ht
    exact hP ht
theorem Bld.push0 (h : Bld T kd w W g R P cs v0 v1 v2 v3 n0 n1 n2 n3 x0 x1 x2 x3) (hT : apart T) {v0' : Value} {m : Nat} {x : Nat → Int} (hg : W.grownBy W' v0.ownBlock) (ho : OI W' w.heap.size 53 4 v0' m x) : Bld T kd w W' g R P cs v0' v1 v2 v3 m n1 n2 n3 x x1 x2 x3 := by
  obtain ⟨a, b, c, r⟩ := h.base h.o0 hT.2.1 (by decide) hg
  exact ⟨a, b, h.old, c, h.pge, r, h.rge, h.rp, ho, h.o1.grown h.o0 (by decide) hg, h.o2.grown h.o0 (by decide) hg, h.o3.grown h.o0 (by decide) hg⟩
theorem Bld.push1 (h : Bld T kd w W g R P cs v0 v1 v2 v3 n0 n1 n2 n3 x0 x1 x2 x3) (hT : apart T) {v1' : Value} {m : Nat} {x : Nat → Int} (hg : W.grownBy W' v1.ownBlock) (ho : OI W' w.heap.size 2 1 v1' m x) : Bld T kd w W' g R P cs v0 v1' v2 v3 n0 m n2 n3 x0 x x2 x3 := by
  obtain ⟨a, b, c, r⟩ := h.base h.o1 hT.2.2.1 (by decide) hg
  exact ⟨a, b, h.old, c, h.pge, r, h.rge, h.rp, h.o0.grown h.o1 (by decide) hg, ho, h.o2.grown h.o1 (by decide) hg, h.o3.grown h.o1 (by decide) hg⟩
theorem Bld.push2 (h : Bld T kd w W g R P cs v0 v1 v2 v3 n0 n1 n2 n3 x0 x1 x2 x3) (hT : apart T) {v2' : Value} {m : Nat} {x : Nat → Int} (hg : W.grownBy W' v2.ownBlock) (ho : OI W' w.heap.size 60 2 v2' m x) : Bld T kd w W' g R P cs v0 v1 v2' v3 n0 n1 m n3 x0 x1 x x3 := by
  obtain ⟨a, b, c, r⟩ := h.base h.o2 hT.2.2.2.1 (by decide) hg
  exact ⟨a, b, h.old, c, h.pge, r, h.rge, h.rp, h.o0.grown h.o2 (by decide) hg, h.o1.grown h.o2 (by decide) hg, ho, h.o3.grown h.o2 (by decide) hg⟩
theorem Bld.push3 (h : Bld T kd w W g R P cs v0 v1 v2 v3 n0 n1 n2 n3 x0 x1 x2 x3) (hT : apart T) {v3' : Value} {m : Nat} {x : Nat → Int} (hg : W.grownBy W' v3.ownBlock) (ho : OI W' w.heap.size 62 1 v3' m x) : Bld T kd w W' g R P cs v0 v1 v2 v3' n0 n1 n2 m x0 x1 x2 x := by
  obtain ⟨a, b, c, r⟩ := h.base h.o3 hT.2.2.2.2 (by decide) hg
  exact ⟨a, b, h.old, c, h.pge, r, h.rge, h.rp, h.o0.grown h.o3 (by decide) hg, h.o1.grown h.o3 (by decide) hg, h.o2.grown h.o3 (by decide) hg, ho⟩
end
section
variable {T : TypeId} {kd : IntKind} {w W : World} {g R P : Nat} {cs : Array Value} {v0 v1 v2 v3 : Value} {n0 n1 n2 n3 : Nat} {x0 x1 x2 x3 : Nat → Int}
variable {ops : Array Oper} {o : Oper} {ac : Act} {K : Act → World → Prop} {Q : Exit → Act → World → Prop} {E : Prop}

theorem push0_step (B : Bld T kd w W g R P cs v0 v1 v2 v3 n0 n1 n2 n3 x0 x1 x2 x3) (hT : apart T) (hn : n0 ≤ 1000) (a b c d : Int) (hgd : o.guard = none) (s x : Operand)
    (ho : o.op = .call { callee := .builtin .append, args := #[s, x], argTypes := #[27, 27] }) (hs : ac.eval s = v0) (hx : ac.eval x = .slice (some ⟨W.heap.size, 0, none⟩) 1 1)
    (h : ∀ gg cap W', Bld T kd w W' g R P cs (.slice (some ⟨gg, 0, none⟩) (n0 + 1) cap) v1 v2 v3 (n0 + 1) n1 n2 n3 (ext n0 4 x0 [a, b, c, d]) x1 x2 x3 → K (ac.put o.dst (.slice (some ⟨gg, 0, none⟩) (n0 + 1) cap)) W') :
    if Region.wanted o (yielded ops ac.tmps) = true then Oper.wp Tryz.prog o ac (W.alloc (.cells #[.int .i64 a, .int .i64 b, .int .i64 c, .int .i64 d] 53)) K Q else E := by
  obtain ⟨i, hi, hz0, hz1, hz2⟩ := info_parts info_pod
  obtain ⟨xs, hown, hxs⟩ := B.o0
  have hlt := B.lt
  have hge := B.pge
  refine step_append_lies _ hgd s x _ ho w.heap.size 53 i _ 4 32 Tryz.underlying27 hi hz0 hz1 hz2 rfl (by omega) v0 n0 xs hs (hown.alloc _) ⟨W.heap.size, 0, none⟩ 1 1 [.int .i64 a, .int .i64 b, .int .i64 c, .int .i64 d] hx rfl
    (World.news_of_block (cs := #[.int .i64 a, .int .i64 b, .int .i64 c, .int .i64 d]) (heap_alloc_new W _)) (by simp [Value.oneCell']) (by omega) (by unfold maxLen; omega) (by omega) (by simp; omega) (W.heap.size + 1) (by simp) ?_
  intro gg cap w6 hown6 hgrow hat hltg
  exact h _ _ _ ((B.alloc (.cells #[.int .i64 a, .int .i64 b, .int .i64 c, .int .i64 d] 53)).push0 hT hgrow (OI.push hxs hown.1 [a, b, c, d] rfl hown6))

theorem push1_step (B : Bld T kd w W g R P cs v0 v1 v2 v3 n0 n1 n2 n3 x0 x1 x2 x3) (hT : apart T) (hn : n1 ≤ 1000) (a : Int) (hgd : o.guard = none) (s x : Operand)
    (ho : o.op = .call { callee := .builtin .append, args := #[s, x], argTypes := #[28, 28] }) (hs : ac.eval s = v1) (hx : ac.eval x = .slice (some ⟨W.heap.size, 0, none⟩) 1 1)
    (h : ∀ gg cap W', Bld T kd w W' g R P cs v0 (.slice (some ⟨gg, 0, none⟩) (n1 + 1) cap) v2 v3 n0 (n1 + 1) n2 n3 x0 (ext n1 1 x1 [a]) x2 x3 → K (ac.put o.dst (.slice (some ⟨gg, 0, none⟩) (n1 + 1) cap)) W') :
    if Region.wanted o (yielded ops ac.tmps) = true then Oper.wp Tryz.prog o ac (W.alloc (.cells #[.int .i64 a] 2)) K Q else E := by
  obtain ⟨i, hi, hz0, hz1, hz2⟩ := info_parts info_i64
  obtain ⟨xs, hown, hxs⟩ := B.o1
  have hlt := B.lt
  have hge := B.pge
  refine step_append_lies _ hgd s x _ ho w.heap.size 2 i _ 1 8 Tryz.underlying28 hi hz0 hz1 hz2 rfl (by omega) v1 n1 xs hs (hown.alloc _) ⟨W.heap.size, 0, none⟩ 1 1 [.int .i64 a] hx rfl
    (World.news_of_block (cs := #[.int .i64 a]) (heap_alloc_new W _)) (by simp [Value.oneCell']) (by omega) (by unfold maxLen; omega) (by omega) (by simp; omega) (W.heap.size + 1) (by simp) ?_
  intro gg cap w6 hown6 hgrow hat hltg
  exact h _ _ _ ((B.alloc (.cells #[.int .i64 a] 2)).push1 hT hgrow (OI.push hxs hown.1 [a] rfl hown6))

theorem push2_step (B : Bld T kd w W g R P cs v0 v1 v2 v3 n0 n1 n2 n3 x0 x1 x2 x3) (hT : apart T) (hn : n2 ≤ 1000) (a b : Int) (hgd : o.guard = none) (s x : Operand)
    (ho : o.op = .call { callee := .builtin .append, args := #[s, x], argTypes := #[29, 29] }) (hs : ac.eval s = v2) (hx : ac.eval x = .slice (some ⟨W.heap.size, 0, none⟩) 1 1)
    (h : ∀ gg cap W', Bld T kd w W' g R P cs v0 v1 (.slice (some ⟨gg, 0, none⟩) (n2 + 1) cap) v3 n0 n1 (n2 + 1) n3 x0 x1 (ext n2 2 x2 [a, b]) x3 → K (ac.put o.dst (.slice (some ⟨gg, 0, none⟩) (n2 + 1) cap)) W') :
    if Region.wanted o (yielded ops ac.tmps) = true then Oper.wp Tryz.prog o ac (W.alloc (.cells #[.int .i64 a, .int .i64 b] 60)) K Q else E := by
  obtain ⟨i, hi, hz0, hz1, hz2⟩ := info_parts info_mount
  obtain ⟨xs, hown, hxs⟩ := B.o2
  have hlt := B.lt
  have hge := B.pge
  refine step_append_lies _ hgd s x _ ho w.heap.size 60 i _ 2 16 Tryz.underlying29 hi hz0 hz1 hz2 rfl (by omega) v2 n2 xs hs (hown.alloc _) ⟨W.heap.size, 0, none⟩ 1 1 [.int .i64 a, .int .i64 b] hx rfl
    (World.news_of_block (cs := #[.int .i64 a, .int .i64 b]) (heap_alloc_new W _)) (by simp [Value.oneCell']) (by omega) (by unfold maxLen; omega) (by omega) (by simp; omega) (W.heap.size + 1) (by simp) ?_
  intro gg cap w6 hown6 hgrow hat hltg
  exact h _ _ _ ((B.alloc (.cells #[.int .i64 a, .int .i64 b] 60)).push2 hT hgrow (OI.push hxs hown.1 [a, b] rfl hown6))

theorem push3_step (B : Bld T kd w W g R P cs v0 v1 v2 v3 n0 n1 n2 n3 x0 x1 x2 x3) (hT : apart T) (hn : n3 ≤ 1000) (a : Int) (hgd : o.guard = none) (s x : Operand)
    (ho : o.op = .call { callee := .builtin .append, args := #[s, x], argTypes := #[30, 30] }) (hs : ac.eval s = v3) (hx : ac.eval x = .slice (some ⟨W.heap.size, 0, none⟩) 1 1)
    (h : ∀ gg cap W', Bld T kd w W' g R P cs v0 v1 v2 (.slice (some ⟨gg, 0, none⟩) (n3 + 1) cap) n0 n1 n2 (n3 + 1) x0 x1 x2 (ext n3 1 x3 [a]) → K (ac.put o.dst (.slice (some ⟨gg, 0, none⟩) (n3 + 1) cap)) W') :
    if Region.wanted o (yielded ops ac.tmps) = true then Oper.wp Tryz.prog o ac (W.alloc (.cells #[.int .i64 a] 62)) K Q else E := by
  obtain ⟨i, hi, hz0, hz1, hz2⟩ := info_parts info_device
  obtain ⟨xs, hown, hxs⟩ := B.o3
  have hlt := B.lt
  have hge := B.pge
  refine step_append_lies _ hgd s x _ ho w.heap.size 62 i _ 1 8 Tryz.underlying30 hi hz0 hz1 hz2 rfl (by omega) v3 n3 xs hs (hown.alloc _) ⟨W.heap.size, 0, none⟩ 1 1 [.int .i64 a] hx rfl
    (World.news_of_block (cs := #[.int .i64 a]) (heap_alloc_new W _)) (by simp [Value.oneCell']) (by omega) (by unfold maxLen; omega) (by omega) (by simp; omega) (W.heap.size + 1) (by simp) ?_
  intro gg cap w6 hown6 hgrow hat hltg
  exact h _ _ _ ((B.alloc (.cells #[.int .i64 a] 62)).push3 hT hgrow (OI.push hxs hown.1 [a] rfl hown6))
end

theorem Bld.start {T : TypeId} {kd : IntKind} {w w2 : World} {g : Nat} (hT : apart T) (hold : g < w.heap.size) (hc : Cur T kd w2 g) (hk : Keeps (· = g) (w.alloc (.cells zeroC 32)) w2) (cs : Array Value) :
    Bld T kd w (w2.alloc (.cells cs 32)) g w.heap.size w2.heap.size cs (.slice none 0 0) (.slice none 0 0) (.slice none 0 0) (.slice none 0 0) 0 0 0 0 (fun _ => 0) (fun _ => 0) (fun _ => 0) (fun _ => 0) := by
  have hs := hk.size
  rw [heap_size_alloc_] at hs
  have hb2 : Below w2.heap.size w2 (w2.alloc (.cells cs 32)) := (Below.refl _ _).alloc (Nat.le_refl _) _
  have hb1 : Below w.heap.size w (w.alloc (.cells zeroC 32)) := (Below.refl _ _).alloc (Nat.le_refl _) _
  exact ⟨hc.below hb2, (Keeps.of_below hb1).trans (hk.trans (Keeps.of_below hb2)), hold, heap_alloc_new _ _, by omega,
    (hb2.block _ (by omega)).trans ((hk.block _ (by rw [heap_size_alloc_]; omega) (by show ¬ w.heap.size = g; omega)).trans (heap_alloc_new _ _)), Nat.le_refl _, by omega,
    OI.nil_ _ _ _ _ _, OI.nil_ _ _ _ _ _, OI.nil_ _ _ _ _ _, OI.nil_ _ _ _ _ _⟩
theorem apart_dice : apart 58 := ⟨by decide, by decide, by decide, by decide, by decide⟩
theorem apart_cur : apart 110 := ⟨by decide, by decide, by decide, by decide, by decide⟩
end Go.Proofs.YtfibgpikjfopgaaGreat
/- PsB -/
set_option linter.unusedVariables false
namespace Go.Proofs.YtfibgpikjfopgaaGreat
open Go.RowKit
/-- What a draw of a plan answers: lists of its own, of which Q holds. -/
def DrawnPlan (T : TypeId) (kd : IntKind) (Q : PlanD → Prop) (g : Nat) (w : World) (e : Ending) (w' : World) : Prop :=
  ∃ v0 v1 v2 v3 d, e = .returned (.agg #[v0, v1, v2, v3, .int .i64 d.l, .int .i64 d.p, .int .i64 d.t]) ∧
    OI w' w.heap.size 53 4 v0 d.n0 d.x0 ∧ OI w' w.heap.size 2 1 v1 d.n1 d.x1 ∧ OI w' w.heap.size 60 2 v2 d.n2 d.x2 ∧ OI w' w.heap.size 62 1 v3 d.n3 d.x3 ∧
    Cur T kd w' g ∧ Keeps (· = g) w w' ∧ Q d

theorem mul_small {d e : Int} (hd : 0 ≤ d) (hd' : d < 2) (he : 0 ≤ e) (he' : e < 6) : 0 ≤ IntKind.i64.wrap (d * e) ∧ IntKind.i64.wrap (d * e) ≤ 500 := by
  rcases (by omega : d = 0 ∨ d = 1) with rfl | rfl
  · simp; decide
  · rw [Int.one_mul, IntWalk.i64_in _ (by omega)]; omega
theorem min_ok {m : Nat} {x : Nat → Int} {a : Int} (h : ∀ j, j < m → minB x j = true) (h0 : 0 ≤ a) (h1 : a < 3) : ∀ j, j < m + 1 → minB (ext m 1 x [a]) j = true := fun j hj => by
  by_cases e : j < m
  · have := h j e
    unfold minB at this ⊢
    rwa [ext_lt (by omega)]
  · obtain rfl : j = m := by omega
    unfold minB
    have := ext_at (n := j) (k := 1) (x := x) (l := [a]) 0
    rw [Nat.mul_one, Nat.add_zero] at this
    rw [this, inB_true]
    simp
    omega
theorem pod_ok {N m : Nat} {x : Nat → Int} {a b c d : Int} (h : ∀ j, j < m → podB N x j = true) (a0 : 0 ≤ a) (a1 : a < N) (b0 : 0 ≤ b) (b1 : b < 4) (c0 : 0 ≤ c) (c1 : c < 6) (d0 : 0 ≤ d) (d1 : d ≤ 500) :
    ∀ j, j < m + 1 → podB N (ext m 4 x [a, b, c, d]) j = true := fun j hj => by
  by_cases e : j < m
  · have := h j e
    unfold podB at this ⊢
    rwa [ext_lt (by omega), ext_lt (by omega), ext_lt (by omega), ext_lt (by omega)]
  · obtain rfl : j = m := by omega
    unfold podB
    have e0 := ext_at (n := j) (k := 4) (x := x) (l := [a, b, c, d]) 0
    rw [Nat.add_zero] at e0
    rw [e0, ext_at, ext_at, ext_at]
    simp [inB]
    omega
theorem mount_ok {N m : Nat} {x : Nat → Int} {a b : Int} (h : ∀ j, j < m → mountB N x j = true) (a0 : 0 ≤ a) (a1 : a < N) (b0 : -1 ≤ b) (b1 : b < m) : ∀ j, j < m + 1 → mountB N (ext m 2 x [a, b]) j = true := fun j hj => by
  by_cases e : j < m
  · have := h j e
    unfold mountB at this ⊢
    rwa [ext_lt (by omega), ext_lt (by omega)]
  · obtain rfl : j = m := by omega
    unfold mountB
    have e0 := ext_at (n := j) (k := 2) (x := x) (l := [a, b]) 0
    rw [Nat.add_zero] at e0
    rw [e0, ext_at]
    simp [inB]
    omega
theorem device_ok {N m : Nat} {x : Nat → Int} {a : Int} (h : ∀ j, j < m → deviceB N x j = true) (a0 : 0 ≤ a) (a1 : a < N) : ∀ j, j < m + 1 → deviceB N (ext m 1 x [a]) j = true := fun j hj => by
  by_cases e : j < m
  · have := h j e
    unfold deviceB at this ⊢
    rwa [ext_lt (by omega)]
  · obtain rfl : j = m := by omega
    unfold deviceB
    have := ext_at (n := j) (k := 1) (x := x) (l := [a]) 0
    rw [Nat.mul_one, Nat.add_zero] at this
    rw [this, inB_true]
    simp
    omega
theorem ok_of (n0 n1 n2 n3 : Nat) (x0 x1 x2 x3 : Nat → Int) (l p t : Int) (l0 : 0 ≤ l) (l1 : l < 8) (p1 : 1 ≤ p) (p2 : p ≤ 3) (t1 : p ≤ t) (t2 : t ≤ 7) (a0 : n0 ≤ 6) (a1 : n1 ≤ 3) (a2 : n2 ≤ 5) (a3 : n3 ≤ 3)
    (h0 : ∀ j, j < n0 → podB n1 x0 j = true) (h1 : ∀ j, j < n1 → minB x1 j = true) (h2 : ∀ j, j < n2 → mountB n0 x2 j = true) (h3 : ∀ j, j < n3 → deviceB n2 x3 j = true) : planOkB ⟨n0, n1, n2, n3, x0, x1, x2, x3, l, p, t⟩ = true := by
  simp only [planOkB, allB_true.2 h0, allB_true.2 h1, allB_true.2 h2, allB_true.2 h3, sizesB, timesB, inB]
  simp
  omega
theorem Bld.out {T : TypeId} {kd : IntKind} {w W W' : World} {g R P : Nat} {cs : Array Value} {v0 v1 v2 v3 : Value} {n0 n1 n2 n3 : Nat} {x0 x1 x2 x3 : Nat → Int} (B : Bld T kd w W g R P cs v0 v1 v2 v3 n0 n1 n2 n3 x0 x1 x2 x3) (hk : Keeps (· = R) W W') :
    OI W' w.heap.size 53 4 v0 n0 x0 ∧ OI W' w.heap.size 2 1 v1 n1 x1 ∧ OI W' w.heap.size 60 2 v2 n2 x2 ∧ OI W' w.heap.size 62 1 v3 n3 x3 ∧ Cur T kd W' g ∧ Keeps (· = g) w W' := by
  have hr := B.rl
  have hge := B.rge
  have hold := B.old
  have hk0 := B.keep
  exact ⟨B.o0.keeps hk hr (by decide), B.o1.keeps hk hr (by decide), B.o2.keeps hk hr (by decide), B.o3.keeps hk hr (by decide), B.cur.keeps hk (fun b hb e => by have e : b = R := e; omega),
    hk.os.trans hk0.os, hk.tape.trans hk0.tape, hk.output.trans hk0.output, Nat.le_trans hk0.size hk.size, fun b hb hn => (hk.block b (Nat.lt_of_lt_of_le hb hk0.size) (fun e => by have e : b = R := e; omega)).trans (hk0.block b hb hn)⟩
theorem all_none {f : Nat → Bool} : ∀ j, j < 0 → f j = true := fun j hj => absurd hj (by omega)
end Go.Proofs.YtfibgpikjfopgaaGreat
/- PwA -/
set_option linter.unusedVariables false
namespace Go.Proofs.YtfibgpikjfopgaaGreat
open Go.RowKit
/-- How many of n numbers lie from lo to lo + k - 1. -/
def cnt : Nat → (Nat → Int) → Int → Nat → Nat
  | 0, _, _, _ => 0
  | n + 1, f, lo, k => cnt n f lo k + (if lo ≤ f n ∧ f n < lo + k then 1 else 0)
theorem cnt_zero (n : Nat) (f : Nat → Int) (lo : Int) : cnt n f lo 0 = 0 := by
  induction n with
  | zero => rfl
  | succ n ih => unfold cnt; rw [ih, if_neg (by omega)]
theorem cnt_step (n : Nat) (f : Nat → Int) (lo : Int) (k : Nat) : cnt n f lo (k + 1) = cnt n f lo k + (hits n f (lo + k)).length := by
  induction n with
  | zero => rfl
  | succ n ih =>
    simp only [cnt]
    rw [ih]
    cases h : (f n == lo + k)
    · rw [hits_no h]
      have h := ne_of_beq_false h
      by_cases e : lo ≤ f n ∧ f n < lo + k
      · rw [if_pos e, if_pos (by omega)]; omega
      · rw [if_neg e, if_neg (by omega)]; omega
    · rw [hits_yes h]
      have h := eq_of_beq h
      rw [if_pos (by omega), if_neg (by omega), List.length_append]
      simp
      omega
theorem cnt_full {n : Nat} {f : Nat → Int} {lo : Int} {k : Nat} (h : ∀ i, i < n → lo ≤ f i ∧ f i < lo + k) : cnt n f lo k = n := by
  induction n with
  | zero => rfl
  | succ n ih => unfold cnt; rw [ih fun i hi => h i (by omega), if_pos (h n (by omega))]
theorem cnt_le (n : Nat) (f : Nat → Int) (lo : Int) (k : Nat) : cnt n f lo k ≤ n := by
  induction n with
  | zero => exact Nat.le_refl _
  | succ n ih => unfold cnt; split <;> omega

/-- A list of whole numbers, opened. -/
structure Lst (w : World) (v : Value) (L : List Int) : Prop where
  it : ∃ A c, v = .slice A L.length c ∧ Sl w w.heap.size 1 A L.length (fun j => L.getD j 0)
theorem Lst.of {w : World} {B : Nat} {v : Value} {L : List Int} (h : w.ownsRow B 2 1 v L.length (L.map (Value.int .i64))) : Lst w v L := by
  obtain ⟨A, c, g, rfl, hA, _, hz, R⟩ := open_list h
  exact ⟨A, c, rfl, row_sl hA hz R⟩
theorem Lst.go {w w' : World} {v : Value} {L : List Int} (h : Lst w v L) (hb : Below w.heap.size w w') : Lst w' v L := by
  obtain ⟨A, c, rfl, S⟩ := h
  exact ⟨A, c, rfl, (S.below hb (Nat.le_refl _)).more hb.size⟩

/-- A plan and a number. -/
def AtPlan (w : World) (e : Ending) (w' : World) : Prop :=
  ∃ v0 v1 v2 v3 d k, e = .returned (.tuple #[.agg #[v0, v1, v2, v3, .int .i64 d.l, .int .i64 d.p, .int .i64 d.t], .int .i64 k]) ∧ Lists w' w.heap.size v0 v1 v2 v3 d ∧ d.n0 ≤ 13 ∧ d.n2 ≤ 5 ∧ Below w.heap.size w w'

end Go.Proofs.YtfibgpikjfopgaaGreat
/- PbG -/
set_option linter.unusedVariables false
namespace Go.Proofs.YtfibgpikjfopgaaGreat
open Go.RowKit

set_option maxHeartbeats 400000 in
theorem groupOfPod_any (A0 A1 A2 A3 : Option Addr) (n0 c0 n1 c1 n2 c2 n3 c3 : Nat) (l p t : Int) (x0 : Nat → Int) (i : Nat) (w : World)
    (s0 : Sl w w.heap.size 4 A0 n0 x0) (hi : i < n0) (b0 : n0 ≤ maxLen) :
    Calls Tryz.prog 79 #[planV A0 A1 A2 A3 n0 c0 n1 c1 n2 c2 n3 c3 l p t, .int .i64 i] w fun e w' =>
      e = .returned (.int .i64 (x0 (i * 4))) ∧ Below w.heap.size w w' := by
  unfold maxLen at b0
  obtain ⟨b, off, rfl, hb, q0, q1, q2, q3⟩ := s0.cell4 hi
  clear s0
  go_enter Tryz.func79, Tryz.ntmps79
  go_wp2
  go_ret
  exact ⟨rfl, (Below.refl _ _).alloc (Nat.le_refl _) _⟩
end Go.Proofs.YtfibgpikjfopgaaGreat
/- Pl -/
set_option linter.unusedVariables false
namespace Go.Proofs.YtfibgpikjfopgaaGreat
open Go.RowKit

theorem enter_groupOfPod (x y : Value) (wr : World) : (callFunc 79 #[x, y]).run Tryz.prog wr = .ok (.enter 79 #[x, y]) wr := by simp [go_sem]
set_option maxRecDepth 100000 in
set_option maxHeartbeats 1000000 in
theorem implPodsIn_any (v : Value) (d : PlanD) (wanted : Int) (w : World) (h : IsPlan w w.heap.size v d) (hn : d.n0 ≤ 1048576) :
    Calls Tryz.prog 48 #[v, .int .i64 wanted] w (Listed w (found d d.n0 (fun i => d.x0 (i * 4)) wanted)) := by
  have P := Lib.hid h
  obtain ⟨⟨A0, A1, A2, A3, c0, c1, c2, c3, rfl, s0, s1, s2, s3⟩, b0, b1, b2, b3⟩ := h
  have S := Lib.hid s0
  have B := Lib.hid b0
  have HN := Lib.hid hn
  clear s0 s1 s2 s3 b0 b1 b2 b3 hn
  go_enter Tryz.func48, Tryz.ntmps48
  go_wp2_with fail
  have X1 := Own.box w (planC A0 A1 A2 A3 d.n0 c0 d.n1 c1 d.n2 c2 d.n3 c3 d.l d.p d.t) 32
  refine (numbersWith_any _ d _ d.n0 (fun i => d.x0 (i * 4)) wanted _ ((P.out.below X1.K (Nat.le_refl _)).more X1.K.size) HN.out enter_groupOfPod ?_).mono ?_
  · exact fun i hi wr hb => groupOfPod_any A0 A1 A2 A3 d.n0 c0 d.n1 c1 d.n2 c2 d.n3 c3 d.l d.p d.t d.x0 i wr ((S.out.below (X1.K.trans (hb.mono X1.K.size)) (Nat.le_refl _)).more (X1.K.trans (hb.mono X1.K.size)).size) hi B.out
  · intro e w2 hL
    obtain ⟨v', rfl, O, K⟩ := hL.back X1.K
    clear hL
    go_wp2_with fail
    go_ret
    exact ⟨_, rfl, O, K⟩

end Go.Proofs.YtfibgpikjfopgaaGreat
/- Qa -/
set_option linter.unusedVariables false
namespace Go.Proofs.YtfibgpikjfopgaaGreat
open Go.RowKit

/-- The numbers below n at which p is true, rising. -/
def picks (n : Nat) (p : Nat → Bool) : List Int := ((List.range n).filter p).map (fun i : Nat => (i : Int))
theorem picks_zero (p : Nat → Bool) : picks 0 p = [] := rfl
theorem picks_yes {n : Nat} {p : Nat → Bool} (h : p n = true) : picks (n + 1) p = picks n p ++ [(n : Int)] := by
  simp [picks, List.range_succ, List.filter_append, h]
theorem picks_no {n : Nat} {p : Nat → Bool} (h : p n = false) : picks (n + 1) p = picks n p := by
  simp [picks, List.range_succ, List.filter_append, h]
theorem picks_le (n : Nat) (p : Nat → Bool) : (picks n p).length ≤ n := by
  have := List.length_filter_le p (List.range n)
  simpa [picks] using this
theorem picks_mem {n : Nat} {p : Nat → Bool} {x : Int} (h : x ∈ picks n p) : ∃ i : Nat, i < n ∧ x = i ∧ p i = true := by
  simp only [picks, List.mem_map, List.mem_filter, List.mem_range] at h
  obtain ⟨i, ⟨h1, h2⟩, h3⟩ := h
  exact ⟨i, h1, h3.symm, h2⟩
theorem picks_rise (n : Nat) (p : Nat → Bool) : (picks n p).Pairwise (· < ·) := by
  unfold picks
  rw [List.pairwise_map]
  exact ((List.pairwise_lt_range (n := n)).sublist List.filter_sublist).imp fun h => by omega
theorem hits_picks (n : Nat) (f : Nat → Int) (x : Int) : hits n f x = picks n (fun i => f i == x) := rfl

def podsL (d : PlanD) (b : Int) : List Int := found d d.n0 (fun i => d.x0 (i * 4 + 1)) b
theorem podsL_le (d : PlanD) (b : Int) : (podsL d b).length ≤ d.n0 := by
  unfold podsL found
  split
  · exact hits_le _ _ _
  · exact Nat.zero_le _
def hasB (d : PlanD) (b : Nat) : Bool := decide (0 < (podsL d b).length)
def bandsL (d : PlanD) : List Int := picks 6 (hasB d)
theorem bandsL_le (d : PlanD) : (bandsL d).length ≤ 6 := picks_le _ _
def firstOver (l : List Int) (b : Int) : Int := (l.find? (fun x => decide (b < x))).getD (-1)
def nextL (d : PlanD) (b : Int) : Int := firstOver (bandsL d) b
def timeOf (d : PlanD) (i : Nat) : Int := d.x0 (i * 4 + 3) + d.x0 (i * 4 + 2) + 4
def most (d : PlanD) (l : List Int) : Int := l.foldl (fun n i => max n (timeOf d i.toNat)) 0
def bandT (d : PlanD) (b : Int) : Int := if planOkB d then most d (podsL d b) else -1
def sumB : Nat → (Nat → Int) → Int
  | 0, _ => 0
  | k + 1, f => sumB k f + f k
def wholeT (d : PlanD) : Int := if planOkB d then d.l + 6 * (d.n2 + d.n3 : Int) + 4 + sumB 6 (fun b => bandT d b) else -1

theorem firstOver_none {l : List Int} {b : Int} (h : ∀ x ∈ l, x ≤ b) : firstOver l b = -1 := by
  unfold firstOver
  rw [List.find?_eq_none.2 (fun x hx => by have := h x hx; simp; omega)]
  rfl
theorem firstOver_at {l : List Int} {b : Int} {i : Nat} (hi : i < l.length) (h : ∀ j (hj : j < i), l[j]'(by omega) ≤ b) (hb : b < l[i]) : firstOver l b = l[i] := by
  unfold firstOver
  have e : l.find? (fun x => decide (b < x)) = some l[i] := by
    rw [List.find?_eq_some_iff_getElem]
    exact ⟨by simpa using hb, i, hi, rfl, fun j hj => by have := h j hj; simp; omega⟩
  rw [e]
  rfl

/-- The number ahead of the i-th, -1 ahead of the first. -/
def ahead (l : List Int) (i : Nat) : Int := if i = 0 then -1 else l.getD (i - 1) 0
theorem ahead_succ (l : List Int) (i : Nat) : ahead l (i + 1) = l.getD i 0 := by simp [ahead]
theorem firstOver_ahead {l : List Int} (hp : l.Pairwise (· < ·)) (h0 : ∀ x ∈ l, 0 ≤ x) {i : Nat} (hi : i < l.length) : firstOver l (ahead l i) = l.getD i 0 := by
  have hlt := List.pairwise_iff_getElem.1 hp
  have hg : l.getD i 0 = l[i] := by simp [List.getD, hi]
  rw [hg]
  by_cases e : i = 0
  · subst e
    exact firstOver_at hi (fun j hj => absurd hj (by omega)) (by have := h0 _ (List.getElem_mem hi); simp [ahead]; omega)
  · have ha : ahead l i = l[i - 1]'(by omega) := by simp only [ahead, if_neg e]; simp [List.getD, show i - 1 < l.length by omega]
    rw [ha]
    refine firstOver_at hi (fun j hj => ?_) (hlt _ _ (by omega) hi (by omega))
    by_cases e2 : j = i - 1
    · subst e2; exact Int.le_refl _
    · exact Int.le_of_lt (hlt j (i - 1) (by omega) (by omega) (by omega))
theorem firstOver_end {l : List Int} (hp : l.Pairwise (· < ·)) : firstOver l (ahead l l.length) = -1 := by
  have hlt := List.pairwise_iff_getElem.1 hp
  refine firstOver_none fun x hx => ?_
  obtain ⟨j, hj, rfl⟩ := List.getElem_of_mem hx
  have e : l.length ≠ 0 := by omega
  have ha : ahead l l.length = l[l.length - 1]'(by omega) := by simp only [ahead, if_neg e]; simp [List.getD, show l.length - 1 < l.length by omega]
  rw [ha]
  by_cases e2 : j = l.length - 1
  · subst e2; exact Int.le_refl _
  · exact Int.le_of_lt (hlt j (l.length - 1) hj (by omega) (by omega))

/-- g of the first i, together. -/
def sumL (l : List Int) (g : Int → Int) (i : Nat) : Int := ((l.take i).map g).sum
theorem sumL_zero (l : List Int) (g : Int → Int) : sumL l g 0 = 0 := by simp [sumL]
theorem getD_at {l : List Int} {i : Nat} (hi : i < l.length) : l.getD i 0 = l[i] := by simp [List.getD, hi]
theorem sumL_succ {l : List Int} {g : Int → Int} {i : Nat} (hi : i < l.length) : sumL l g (i + 1) = sumL l g i + g (l.getD i 0) := by
  rw [sumL, List.take_add_one, List.getElem?_eq_getElem hi, Option.toList_some, List.map_append, List.sum_append, getD_at hi]
  simp [sumL]
theorem sumL_bound {l : List Int} {g : Int → Int} {lo hi : Int} (h : ∀ x, lo ≤ g x ∧ g x ≤ hi) (h0 : lo ≤ 0) (i : Nat) : i ≤ l.length → lo * i ≤ sumL l g i ∧ sumL l g i ≤ hi * i := by
  induction i with
  | zero => intro _; simp [sumL_zero]
  | succ i ih =>
    intro hl
    have := ih (by omega)
    rw [sumL_succ (by omega)]
    have := h (l.getD i 0)
    have e1 : lo * ((i + 1 : Nat) : Int) = lo * i + lo := by rw [Int.natCast_succ, Int.mul_add, Int.mul_one]
    have e2 : hi * ((i + 1 : Nat) : Int) = hi * i + hi := by rw [Int.natCast_succ, Int.mul_add, Int.mul_one]
    omega
theorem sumL_picks (k : Nat) (p : Nat → Bool) (g : Int → Int) (h0 : ∀ i : Nat, p i = false → g i = 0) : sumL (picks k p) g (picks k p).length = sumB k (fun i => g i) := by
  induction k with
  | zero => rfl
  | succ k ih =>
    simp only [sumL, List.take_length] at ih ⊢
    simp only [sumB]
    cases hp : p k
    · rw [picks_no hp, ih, h0 k hp, Int.add_zero]
    · rw [picks_yes hp, List.map_append, List.sum_append, ih]
      simp
theorem sumB_congr {k : Nat} {f g : Nat → Int} (h : ∀ i, i < k → f i = g i) : sumB k f = sumB k g := by
  induction k with
  | zero => rfl
  | succ k ih => simp only [sumB]; rw [ih fun i hi => h i (by omega), h k (by omega)]

theorem hits_len_succ (n : Nat) (f : Nat → Int) (b : Int) : (hits (n + 1) f b).length = (hits n f b).length + if f n = b then 1 else 0 := by
  cases h : (f n == b)
  · rw [hits_no h, if_neg (by simpa using h)]; rfl
  · rw [hits_yes h, if_pos (by simpa using h)]; simp
/-- Each of n has one of six bands. -/
theorem hits_all {n : Nat} {f : Nat → Int} : (∀ i, i < n → 0 ≤ f i ∧ f i ≤ 5) → sumB 6 (fun b => ((hits n f b).length : Int)) = n := by
  induction n with
  | zero => intro _; simp [sumB, hits_zero]
  | succ n ih =>
    intro h
    have h1 := ih fun i hi => h i (by omega)
    have hb := h n (by omega)
    simp only [sumB, hits_len_succ] at h1 ⊢
    have : f n = 0 ∨ f n = 1 ∨ f n = 2 ∨ f n = 3 ∨ f n = 4 ∨ f n = 5 := by omega
    rcases this with e | e | e | e | e | e <;> (rw [e]; simp at h1 ⊢; omega)

theorem planOk_pods {d : PlanD} (h : planOkB d = true) : ∀ i, i < d.n0 → podB d.n1 d.x0 i = true := by
  simp only [planOkB, Bool.and_eq_true] at h
  exact allB_true.1 h.1.1.1.2
theorem planOk_band {d : PlanD} (h : planOkB d = true) {i : Nat} (hi : i < d.n0) : 0 ≤ d.x0 (i * 4 + 1) ∧ d.x0 (i * 4 + 1) ≤ 5 := by
  have := planOk_pods h i hi
  simp only [podB, Bool.and_eq_true, inB_true] at this
  exact this.1.1.2
theorem planOk_time {d : PlanD} (h : planOkB d = true) {i : Nat} (hi : i < d.n0) : 4 ≤ timeOf d i ∧ timeOf d i ≤ 1004 := by
  have := planOk_pods h i hi
  simp only [podB, Bool.and_eq_true, inB_true] at this
  unfold timeOf
  omega
theorem planOk_lock {d : PlanD} (h : planOkB d = true) : 0 ≤ d.l ∧ d.l ≤ 500 ∧ d.n0 ≤ 12 ∧ d.n1 ≤ 4 ∧ d.n2 ≤ 12 ∧ d.n3 ≤ 12 := by
  simp only [planOkB, timesB, sizesB, Bool.and_eq_true, inB_true, decide_eq_true_eq] at h
  obtain ⟨⟨⟨⟨⟨h1, h2⟩, -⟩, -⟩, -⟩, -⟩ := h
  omega

theorem hits_mem {n : Nat} {f : Nat → Int} {b x : Int} (h : x ∈ hits n f b) : ∃ i : Nat, i < n ∧ x = i ∧ f i = b := by
  rw [hits_picks] at h
  obtain ⟨i, h1, h2, h3⟩ := picks_mem h
  exact ⟨i, h1, h2, by simpa using h3⟩
theorem podsL_mem {d : PlanD} {b x : Int} (h : x ∈ podsL d b) : ∃ i : Nat, i < d.n0 ∧ x = i ∧ d.x0 (i * 4 + 1) = b := by
  unfold podsL found at h
  split at h
  · exact hits_mem h
  · cases h
theorem podsL_at {d : PlanD} {b : Int} {j : Nat} (hj : j < (podsL d b).length) : ∃ i : Nat, i < d.n0 ∧ (podsL d b).getD j 0 = i ∧ d.x0 (i * 4 + 1) = b := by
  have e : (podsL d b).getD j 0 = (podsL d b)[j] := by simp [List.getD, hj]
  rw [e]
  exact podsL_mem (List.getElem_mem hj)

theorem foldl_bound {d : PlanD} (l : List Int) (a : Int) (h : ∀ x ∈ l, 4 ≤ timeOf d x.toNat ∧ timeOf d x.toNat ≤ 1004) (ha : 0 ≤ a ∧ a ≤ 1004) :
    0 ≤ l.foldl (fun n i => max n (timeOf d i.toNat)) a ∧ l.foldl (fun n i => max n (timeOf d i.toNat)) a ≤ 1004 := by
  induction l generalizing a with
  | nil => exact ha
  | cons x l ih =>
    have := h x (by simp)
    exact ih _ (fun y hy => h y (by simp [hy])) (by show 0 ≤ max a (timeOf d x.toNat) ∧ max a (timeOf d x.toNat) ≤ 1004; omega)
theorem most_bound {d : PlanD} (h : planOkB d = true) (b : Int) (k : Nat) : 0 ≤ most d ((podsL d b).take k) ∧ most d ((podsL d b).take k) ≤ 1004 := by
  refine foldl_bound _ 0 (fun x hx => ?_) (by omega)
  obtain ⟨i, hi, rfl, -⟩ := podsL_mem (List.mem_of_mem_take hx)
  exact planOk_time h (by simpa using hi)
theorem most_succ {d : PlanD} {l : List Int} {k : Nat} (hk : k < l.length) : most d (l.take (k + 1)) = max (most d (l.take k)) (timeOf d (l.getD k 0).toNat) := by
  rw [most, List.take_add_one, List.getElem?_eq_getElem hk, Option.toList_some, List.foldl_append, getD_at hk]
  rfl
theorem bandT_bound {d : PlanD} (h : planOkB d = true) (b : Int) : 0 ≤ bandT d b ∧ bandT d b ≤ 1004 := by
  have := most_bound h b (podsL d b).length
  rw [List.take_length] at this
  rw [bandT, if_pos h]
  exact this
theorem bandT_none {d : PlanD} (h : planOkB d = true) {b : Int} (h0 : ¬ 0 < (podsL d b).length) : bandT d b = 0 := by
  have e : podsL d b = [] := List.eq_nil_of_length_eq_zero (by omega)
  rw [bandT, if_pos h, e]
  rfl

theorem bandsL_rise (d : PlanD) : (bandsL d).Pairwise (· < ·) := picks_rise _ _
theorem bandsL_nonneg (d : PlanD) : ∀ x ∈ bandsL d, 0 ≤ x := fun x hx => by
  obtain ⟨i, -, rfl, -⟩ := picks_mem hx
  omega
theorem bands_next {d : PlanD} {i : Nat} (hi : i < (bandsL d).length) : nextL d (ahead (bandsL d) i) = (bandsL d).getD i 0 := firstOver_ahead (bandsL_rise d) (bandsL_nonneg d) hi
theorem bands_end (d : PlanD) : nextL d (ahead (bandsL d) (bandsL d).length) = -1 := firstOver_end (bandsL_rise d)
/-- All pods, band by band. -/
theorem bands_pods {d : PlanD} (h : planOkB d = true) : sumL (bandsL d) (fun b => ((podsL d b).length : Int)) (bandsL d).length = d.n0 := by
  refine (sumL_picks 6 (hasB d) (fun b => ((podsL d b).length : Int)) fun i hi => ?_).trans ?_
  · simp only [hasB, decide_eq_false_iff_not] at hi
    omega
  · refine Eq.trans ?_ (hits_all (f := fun i => d.x0 (i * 4 + 1)) fun i hi => planOk_band h hi)
    exact sumB_congr fun i _ => by show ((podsL d i).length : Int) = _; rw [podsL, found_yes h]
/-- The bands' times together are less than the whole one. -/
theorem bands_time {d : PlanD} (h : planOkB d = true) : sumL (bandsL d) (bandT d) (bandsL d).length < wholeT d := by
  have e := sumL_picks 6 (hasB d) (bandT d) fun i hi => bandT_none h (by simpa [hasB] using hi)
  have e2 : sumL (bandsL d) (bandT d) (bandsL d).length = sumB 6 (fun i => bandT d i) := e
  have := planOk_lock h
  rw [e2, wholeT, if_pos h]
  omega
end Go.Proofs.YtfibgpikjfopgaaGreat
/- Ra -/
set_option linter.unusedVariables false
namespace Go.Proofs.YtfibgpikjfopgaaGreat
open Go.RowKit

/-- A number in 7 bits a byte, the lowest ones first. -/
def putN (n : Nat) : List Nat := if h : n < 128 then [n] else (n % 128 + 128) :: putN (n / 128)
termination_by n
decreasing_by omega
theorem putN_small {n : Nat} (h : n < 128) : putN n = [n] := by rw [putN, dif_pos h]
theorem putN_big {n : Nat} (h : ¬ n < 128) : putN n = (n % 128 + 128) :: putN (n / 128) := by rw [putN, dif_neg h]
/-- The number ahead, and what is behind it. -/
def getN : List Nat → Option (Nat × List Nat)
  | [] => none
  | x :: r => if x < 128 then some (x, r) else match getN r with
    | none => none
    | some (n, r') => if n = 0 then none else some (x - 128 + 128 * n, r')
theorem getN_nil : getN [] = none := rfl
theorem getN_last {x : Nat} {r : List Nat} (h : x < 128) : getN (x :: r) = some (x, r) := by rw [getN, if_pos h]
theorem getN_more {x n : Nat} {r r' : List Nat} (h : ¬ x < 128) (hr : getN r = some (n, r')) (hn : n ≠ 0) : getN (x :: r) = some (x - 128 + 128 * n, r') := by
  simp [getN, if_neg h, hr, hn]
theorem getN_nought {x : Nat} {r r' : List Nat} (h : ¬ x < 128) (hr : getN r = some (0, r')) : getN (x :: r) = none := by simp [getN, if_neg h, hr]
theorem getN_bad {x : Nat} {r : List Nat} (h : ¬ x < 128) (hr : getN r = none) : getN (x :: r) = none := by simp [getN, if_neg h, hr]
theorem getN_putN (n : Nat) (r : List Nat) : getN (putN n ++ r) = some (n, r) := by
  induction n using Nat.strongRecOn with
  | ind n ih =>
    by_cases h : n < 128
    · rw [putN_small h]; exact getN_last h
    · rw [putN_big h, List.cons_append, getN_more (by omega) (ih (n / 128) (by omega)) (by omega)]
      congr 2
      omega
theorem putN_getN {b : List Nat} : ∀ {n : Nat} {r : List Nat}, (∀ x ∈ b, x < 256) → getN b = some (n, r) → b = putN n ++ r := by
  induction b with
  | nil => intro n r _ h; cases h
  | cons x b ih =>
    intro n r hb h
    have hx := hb x (by simp)
    by_cases h1 : x < 128
    · rw [getN_last h1] at h
      cases h
      rw [putN_small h1]
      rfl
    · cases hg : getN b with
      | none => rw [getN_bad h1 hg] at h; cases h
      | some q =>
        obtain ⟨m, r'⟩ := q
        by_cases h0 : m = 0
        · subst h0; rw [getN_nought h1 hg] at h; cases h
        · rw [getN_more h1 hg h0] at h
          cases h
          have e := ih (fun y hy => hb y (by simp [hy])) hg
          rw [putN_big (by omega), show (x - 128 + 128 * m) % 128 + 128 = x by omega, show (x - 128 + 128 * m) / 128 = m by omega, List.cons_append, ← e]
theorem putN_bytes (n : Nat) : ∀ x ∈ putN n, x < 256 := by
  induction n using Nat.strongRecOn with
  | ind n ih =>
    by_cases h : n < 128
    · rw [putN_small h]
      intro x hx
      simp at hx
      omega
    · rw [putN_big h]
      intro x hx
      rcases List.mem_cons.1 hx with rfl | hx
      · omega
      · exact ih (n / 128) (by omega) x hx
theorem putN_pos (n : Nat) : 0 < (putN n).length := by
  by_cases h : n < 128
  · rw [putN_small h]; simp
  · rw [putN_big h]; simp
theorem putN_length (k n : Nat) : 0 < k → ((putN n).length ≤ k ↔ n < 128 ^ k) := by
  induction k generalizing n with
  | zero => omega
  | succ k ih =>
    intro _
    by_cases h : n < 128
    · rw [putN_small h]
      have : 128 ^ 1 ≤ 128 ^ (k + 1) := Nat.pow_le_pow_right (by omega) (by omega)
      simp
      omega
    · rw [putN_big h, List.length_cons]
      rcases Nat.eq_zero_or_pos k with rfl | hk
      · have := putN_pos (n / 128)
        omega
      · have e := ih (n / 128) hk
        have hp : 128 ^ (k + 1) = 128 ^ k * 128 := Nat.pow_succ ..
        have h2 : n / 128 < 128 ^ k ↔ n < 128 ^ k * 128 := Nat.div_lt_iff_lt_mul (by omega)
        omega
/-- What is behind a number is a part of what was there. -/
theorem getN_drop {b : List Nat} {n : Nat} {r : List Nat} (h : getN b = some (n, r)) : ∃ k, 0 < k ∧ k ≤ b.length ∧ r = b.drop k := by
  induction b generalizing n r with
  | nil => cases h
  | cons x b ih =>
    by_cases h1 : x < 128
    · rw [getN_last h1] at h
      cases h
      exact ⟨1, by omega, by simp, rfl⟩
    · cases hg : getN b with
      | none => rw [getN_bad h1 hg] at h; cases h
      | some q =>
        obtain ⟨m, r'⟩ := q
        by_cases h0 : m = 0
        · subst h0; rw [getN_nought h1 hg] at h; cases h
        · rw [getN_more h1 hg h0] at h
          cases h
          obtain ⟨k, h2, h3, rfl⟩ := ih hg
          exact ⟨k + 1, by omega, by simpa using h3, rfl⟩

/-- A record's three numbers. -/
structure RecD where
  k : Int
  a : Int
  b : Int
deriving DecidableEq
def recOkB (r : RecD) : Bool := inB r.k 1 12 && inB r.a 0 1000000 && inB r.b 0 1000000
theorem recOkB_true {r : RecD} : recOkB r = true ↔ (1 ≤ r.k ∧ r.k ≤ 12) ∧ (0 ≤ r.a ∧ r.a ≤ 1000000) ∧ (0 ≤ r.b ∧ r.b ≤ 1000000) := by
  simp [recOkB, inB_true, and_assoc]
def recN (r : RecD) : List Nat := putN r.k.toNat ++ (putN r.a.toNat ++ putN r.b.toNat)
def recsN : List RecD → List Nat
  | [] => []
  | r :: l => recN r ++ recsN l
theorem recsN_append (l m : List RecD) : recsN (l ++ m) = recsN l ++ recsN m := by
  induction l with
  | nil => rfl
  | cons r l ih => simp [recsN, ih]
def allOk (l : List RecD) : Bool := l.all recOkB
/-- What is written of records: nothing where they can't be. -/
def writeN (l : List RecD) : Option (List Nat) := if l.length ≤ 80 ∧ allOk l = true then some (putN l.length ++ recsN l) else none
def getRec (b : List Nat) : Option (RecD × List Nat) :=
  match getN b with
  | none => none
  | some (k, b1) => match getN b1 with
    | none => none
    | some (a, b2) => match getN b2 with
      | none => none
      | some (c, b3) => if recOkB ⟨k, a, c⟩ then some (⟨k, a, c⟩, b3) else none
def getRecs : Nat → List Nat → Option (List RecD × List Nat)
  | 0, b => some ([], b)
  | n + 1, b => match getRec b with
    | none => none
    | some (r, b1) => match getRecs n b1 with
      | none => none
      | some (l, b2) => some (r :: l, b2)
/-- What is read of bytes. -/
def readN (b : List Nat) : Option (List RecD) :=
  match getN b with
  | none => none
  | some (n, r) => if 80 < n then none else match getRecs n r with
    | none => none
    | some (l, r2) => if r2 = [] then some l else none

theorem getRec_recN {r : RecD} (h : recOkB r = true) (b : List Nat) : getRec (recN r ++ b) = some (r, b) := by
  have hr := recOkB_true.1 h
  obtain ⟨k, a, c⟩ := r
  dsimp only at hr
  have e : (⟨(k.toNat : Int), (a.toNat : Int), (c.toNat : Int)⟩ : RecD) = ⟨k, a, c⟩ := by congr 1 <;> omega
  simp only [getRec, recN, List.append_assoc, getN_putN, e, h, if_true]
theorem getRecs_recsN {l : List RecD} (h : allOk l = true) (b : List Nat) : getRecs l.length (recsN l ++ b) = some (l, b) := by
  induction l with
  | nil => rfl
  | cons r l ih =>
    simp only [allOk, List.all_cons, Bool.and_eq_true] at h
    simp only [List.length_cons, getRecs, recsN, List.append_assoc, getRec_recN h.1, ih h.2]
/-- What is written is read as it was. -/
theorem read_write {l : List RecD} {b : List Nat} (h : writeN l = some b) : readN b = some l := by
  unfold writeN at h
  split at h
  · rename_i hc
    cases h
    have e := getRecs_recsN hc.2 []
    rw [List.append_nil] at e
    simp only [readN, getN_putN, e, if_true, if_neg (show ¬ 80 < l.length by omega)]
  · cases h
theorem recN_getRec {b : List Nat} {r : RecD} {b' : List Nat} (hb : ∀ x ∈ b, x < 256) (h : getRec b = some (r, b')) : b = recN r ++ b' ∧ recOkB r = true ∧ ∀ x ∈ b', x < 256 := by
  unfold getRec at h
  split at h
  · cases h
  rename_i k b1 h1
  split at h
  · cases h
  rename_i a b2 h2
  split at h
  · cases h
  rename_i c b3 h3
  split at h
  · rename_i hk
    cases h
    have e1 := putN_getN hb h1
    have B1 : ∀ x ∈ b1, x < 256 := fun x hx => hb x (by rw [e1]; simp [hx])
    have e2 := putN_getN B1 h2
    have B2 : ∀ x ∈ b2, x < 256 := fun x hx => B1 x (by rw [e2]; simp [hx])
    have e3 := putN_getN B2 h3
    refine ⟨?_, hk, fun x hx => B2 x (by rw [e3]; simp [hx])⟩
    rw [e1, e2, e3]
    simp [recN]
  · cases h
theorem recsN_getRecs {n : Nat} : ∀ {b : List Nat} {l : List RecD} {b' : List Nat}, (∀ x ∈ b, x < 256) → getRecs n b = some (l, b') → b = recsN l ++ b' ∧ allOk l = true ∧ l.length = n := by
  induction n with
  | zero => intro b l b' _ h; cases h; exact ⟨rfl, rfl, rfl⟩
  | succ n ih =>
    intro b l b' hb h
    unfold getRecs at h
    split at h
    · cases h
    rename_i r b1 h1
    split at h
    · cases h
    rename_i l2 b2 h2
    cases h
    obtain ⟨e1, k1, B1⟩ := recN_getRec hb h1
    obtain ⟨e2, k2, k3⟩ := ih B1 h2
    refine ⟨by rw [e1, e2]; simp [recsN], by simp only [allOk, List.all_cons, Bool.and_eq_true]; exact ⟨k1, k2⟩, by simp [k3]⟩
/-- What is read is written as it was. -/
theorem write_read {b : List Nat} {l : List RecD} (hb : ∀ x ∈ b, x < 256) (h : readN b = some l) : writeN l = some b := by
  unfold readN at h
  split at h
  · cases h
  rename_i n r h1
  split at h
  · cases h
  rename_i h80
  split at h
  · cases h
  rename_i l2 r2 h2
  split at h
  · rename_i hr
    cases h
    subst hr
    have e1 := putN_getN hb h1
    obtain ⟨e2, k2, k3⟩ := recsN_getRecs (fun x hx => hb x (by rw [e1]; simp [hx])) h2
    rw [writeN, if_pos ⟨by omega, k2⟩, e1, e2, k3]
    simp
  · cases h
theorem readN_iff {b : List Nat} {l : List RecD} (hb : ∀ x ∈ b, x < 256) : readN b = some l ↔ writeN l = some b := ⟨write_read hb, read_write⟩
theorem writeN_bytes {l : List RecD} {b : List Nat} (h : writeN l = some b) : ∀ x ∈ b, x < 256 := by
  unfold writeN at h
  split at h
  · cases h
    intro x hx
    rcases List.mem_append.1 hx with hx | hx
    · exact putN_bytes _ x hx
    · have : ∀ l : List RecD, ∀ x ∈ recsN l, x < 256 := fun l => by
        induction l with
        | nil => intro x hx; cases hx
        | cons r l ih =>
          intro x hx
          simp only [recsN, recN, List.mem_append] at hx
          rcases hx with (hx | hx | hx) | hx
          · exact putN_bytes _ x hx
          · exact putN_bytes _ x hx
          · exact putN_bytes _ x hx
          · exact ih x hx
      exact this l x hx
  · cases h
end Go.Proofs.YtfibgpikjfopgaaGreat
/- Rb -/
set_option linter.unusedVariables false
namespace Go.Proofs.YtfibgpikjfopgaaGreat
open Go.RowKit

def sumN (b : List Nat) : Nat := b.foldl (fun n x => (31 * n + x) % 65521) 7
theorem sumN_lt (b : List Nat) : sumN b < 65521 := by
  have : ∀ (b : List Nat) (a : Nat), a < 65521 → b.foldl (fun n x => (31 * n + x) % 65521) a < 65521 := fun b => by
    induction b with
    | nil => exact fun a h => h
    | cons x b ih => exact fun a _ => ih _ (Nat.mod_lt _ (by omega))
  exact this b 7 (by omega)
def twoN (n : Nat) : List Nat := [n % 256, n / 256]
def frameN (b : List Nat) : List Nat := twoN b.length ++ (twoN (sumN b) ++ b)
theorem frameN_length (b : List Nat) : (frameN b).length = 4 + b.length := by simp [frameN, twoN]; omega
/-- What is framed of records. -/
def framedN (l : List RecD) : Option (List Nat) := (writeN l).map frameN
def at2 (b : List Nat) (i : Nat) : Nat := b.getD i 0 + 256 * b.getD (i + 1) 0
/-- The frame ahead: its records, and how long it is. -/
def getFrame (b : List Nat) : Option (List RecD × Nat) :=
  if b.length < 4 then none else
  if b.length < 4 + at2 b 0 then none else
  if sumN ((b.drop 4).take (at2 b 0)) ≠ at2 b 2 then none else
  match readN ((b.drop 4).take (at2 b 0)) with
  | none => none
  | some l => some (l, 4 + at2 b 0)
theorem getFrame_len {b : List Nat} {l : List RecD} {k : Nat} (h : getFrame b = some (l, k)) : 4 ≤ k ∧ k ≤ b.length := by
  unfold getFrame at h
  split at h
  · cases h
  split at h
  · cases h
  split at h
  · cases h
  split at h
  · cases h
  cases h
  omega
/-- All frames ahead, as far as they are whole: their lists, and how many bytes they are. -/
def framesN (b : List Nat) : List (List RecD) × Nat :=
  match h : getFrame b with
  | none => ([], 0)
  | some (l, k) => (l :: (framesN (b.drop k)).1, k + (framesN (b.drop k)).2)
termination_by b.length
decreasing_by all_goals (have := getFrame_len h; simp; omega)
theorem framesN_none {b : List Nat} (h : getFrame b = none) : framesN b = ([], 0) := by
  rw [framesN]
  split
  · rfl
  · rename_i e; rw [h] at e; cases e
theorem framesN_some {b : List Nat} {l : List RecD} {k : Nat} (h : getFrame b = some (l, k)) : framesN b = (l :: (framesN (b.drop k)).1, k + (framesN (b.drop k)).2) := by
  rw [framesN]
  split
  · rename_i e; rw [h] at e; cases e
  · rename_i l' k' e
    rw [h] at e
    cases e
    rfl
theorem framesN_le (b : List Nat) : (framesN b).2 ≤ b.length := by
  induction hn : b.length using Nat.strongRecOn generalizing b with
  | ind n ih =>
    cases h : getFrame b with
    | none => rw [framesN_none h]; exact Nat.zero_le _
    | some q =>
      obtain ⟨l, k⟩ := q
      rw [framesN_some h]
      have := getFrame_len h
      have := ih (b.drop k).length (by simp; omega) (b.drop k) rfl
      simp at this ⊢
      omega
theorem framesN_short {b : List Nat} (h : b.length < 4) : framesN b = ([], 0) := framesN_none (by unfold getFrame; rw [if_pos h])
theorem framesN_nil : framesN [] = ([], 0) := framesN_short (by simp)

theorem getFrame_more {b c : List Nat} {l : List RecD} {k : Nat} (h : getFrame b = some (l, k)) : getFrame (b ++ c) = some (l, k) := by
  unfold getFrame at h
  split at h
  · cases h
  rename_i h1
  have g : ∀ i, i < b.length → (b ++ c).getD i 0 = b.getD i 0 := fun i hi => by simp [List.getD, List.getElem?_append_left hi]
  have e0 : at2 (b ++ c) 0 = at2 b 0 := by unfold at2; rw [g 0 (by omega), g 1 (by omega)]
  have e2 : at2 (b ++ c) 2 = at2 b 2 := by unfold at2; rw [g 2 (by omega), g 3 (by omega)]
  split at h
  · cases h
  rename_i h2
  have e3 : ((b ++ c).drop 4).take (at2 b 0) = (b.drop 4).take (at2 b 0) := by
    rw [List.drop_append_of_le_length (by omega), List.take_append_of_le_length (by simp; omega)]
  split at h
  · cases h
  rename_i h3
  split at h
  · cases h
  rename_i l' h4
  cases h
  unfold getFrame
  rw [if_neg (by simp; omega), e0, if_neg (by simp; omega), e3, e2, if_neg h3, h4]
/-- What is whole stays so, whatever comes behind. -/
theorem framesN_append {b c : List Nat} (h : (framesN b).2 = b.length) : framesN (b ++ c) = ((framesN b).1 ++ (framesN c).1, b.length + (framesN c).2) := by
  induction hn : b.length using Nat.strongRecOn generalizing b with
  | ind n ih =>
    cases hg : getFrame b with
    | none =>
      rw [framesN_none hg] at h
      have : b = [] := List.eq_nil_of_length_eq_zero h.symm
      subst this
      simp at hn
      subst hn
      rw [framesN_nil]
      simp
    | some q =>
      obtain ⟨l, k⟩ := q
      have hk := getFrame_len hg
      rw [framesN_some hg] at h ⊢
      have h' : (framesN (b.drop k)).2 = (b.drop k).length := by simp at h ⊢; omega
      have e := ih (b.drop k).length (by simp; omega) h' rfl
      rw [framesN_some (getFrame_more hg), List.drop_append_of_le_length hk.2, e]
      simp
      omega

theorem at2_frame0 (b c : List Nat) : at2 (frameN b ++ c) 0 = b.length := by
  simp [at2, frameN, twoN]
  omega
theorem at2_frame2 (b c : List Nat) : at2 (frameN b ++ c) 2 = sumN b := by
  have := sumN_lt b
  simp [at2, frameN, twoN]
  omega
theorem drop_frame (b c : List Nat) : (frameN b ++ c).drop 4 = b ++ c := by simp [frameN, twoN]
theorem getFrame_frameN {b : List Nat} {l : List RecD} (h : readN b = some l) (c : List Nat) : getFrame (frameN b ++ c) = some (l, 4 + b.length) := by
  have e : (b ++ c).take b.length = b := by simp
  unfold getFrame
  rw [if_neg (by simp [frameN_length]; omega), at2_frame0, if_neg (by simp [frameN_length]), drop_frame, e, at2_frame2, if_neg (by simp), h]
/-- A frame that is torn is not there. -/
theorem getFrame_torn {b : List Nat} {k : Nat} (h : k < 4 + b.length) : getFrame ((frameN b).take k) = none := by
  unfold getFrame
  by_cases h4 : k < 4
  · rw [if_pos (by simp; omega)]
  · have e : at2 ((frameN b).take k) 0 = b.length := by
      have g : ∀ i, i < k → ((frameN b).take k).getD i 0 = (frameN b).getD i 0 := fun i hi => by simp [List.getD, List.getElem?_take_of_lt hi]
      have := at2_frame0 b []
      rw [List.append_nil] at this
      rw [← this]
      unfold at2
      rw [g 0 (by omega), g 1 (by omega)]
    have e2 : ((frameN b).take k).length = k := by rw [List.length_take, frameN_length]; omega
    rw [if_neg (by omega), e, if_pos (by omega)]
theorem framesN_frame {b : List Nat} {l : List RecD} (h : readN b = some l) : framesN (frameN b) = ([l], (frameN b).length) := by
  have e := getFrame_frameN h []
  rw [List.append_nil] at e
  have e3 : (frameN b).drop (4 + b.length) = [] := List.drop_eq_nil_of_le (by rw [frameN_length]; omega)
  rw [framesN_some e, e3, framesN_nil, frameN_length]
  rfl
/-- Behind whole frames: one more is read, too; one that is torn is not. -/
theorem framesN_one {b c : List Nat} {ls : List (List RecD)} {l : List RecD} (hb : framesN b = (ls, b.length)) (h : readN c = some l) : framesN (b ++ frameN c) = (ls ++ [l], (b ++ frameN c).length) := by
  rw [framesN_append (by rw [hb]), framesN_frame h, hb]
  simp
theorem framesN_torn {b c : List Nat} {ls : List (List RecD)} {k : Nat} (hb : framesN b = (ls, b.length)) (hk : k < 4 + c.length) : framesN ((b ++ frameN c).take (b.length + k)) = (ls, b.length) := by
  have e : (b ++ frameN c).take (b.length + k) = b ++ (frameN c).take k := by rw [List.take_append, List.take_of_length_le (by omega), Nat.add_sub_cancel_left]
  rw [e, framesN_append (by rw [hb]), hb, framesN_none (getFrame_torn hk)]
  simp
end Go.Proofs.YtfibgpikjfopgaaGreat
/- Rc -/
set_option linter.unusedVariables false
namespace Go.Proofs.YtfibgpikjfopgaaGreat
open Go.RowKit

/-- The number ahead where it is less than m, and what is behind it. -/
def num (m : Nat) (L : List Nat) : Option (Nat × List Nat) := (getN L).bind fun p => if p.1 < m then some p else none
theorem num_some {m n : Nat} {L r : List Nat} : num m L = some (n, r) ↔ getN L = some (n, r) ∧ n < m := by
  unfold num
  cases h : getN L with
  | none => simp
  | some p =>
    obtain ⟨n', r'⟩ := p
    simp only [Option.bind_some, Option.some.injEq, Prod.mk.injEq]
    by_cases hl : n' < m
    · rw [if_pos hl]; simp; intro h1 h2; omega
    · rw [if_neg hl]; simp; intro h1 h2; omega
theorem num_none {m : Nat} {L : List Nat} : num m L = none ↔ ∀ n r, getN L = some (n, r) → ¬ n < m := by
  constructor
  · intro h n r hg hl
    rw [num_some.2 ⟨hg, hl⟩] at h
    cases h
  · intro h
    cases e : num m L with
    | none => rfl
    | some p => obtain ⟨n, r⟩ := p; obtain ⟨h1, h2⟩ := num_some.1 e; exact absurd h2 (h n r h1)
/-- What the first k bytes tell. -/
def lowN : Nat → List Nat → Nat
  | 0, _ => 0
  | _ + 1, [] => 0
  | k + 1, x :: r => x % 128 + 128 * lowN k r
theorem lowN_succ (k : Nat) (L : List Nat) : lowN (k + 1) L = lowN k L + L.getD k 0 % 128 * 128 ^ k := by
  induction k generalizing L with
  | zero => cases L <;> simp [lowN]
  | succ k ih =>
    cases L with
    | nil => simp [lowN]
    | cons x r =>
      rw [lowN, ih r, lowN]
      simp only [List.getD_cons_succ]
      rw [Nat.pow_succ, ← Nat.mul_assoc]
      generalize r.getD k 0 % 128 * 128 ^ k = q
      omega
theorem lowN_lt (k : Nat) (L : List Nat) : lowN k L < 128 ^ k := by
  induction k generalizing L with
  | zero => simp [lowN]
  | succ k ih =>
    cases L with
    | nil => simp [lowN]; exact Nat.pow_pos (by omega)
    | cons x r => rw [lowN, Nat.pow_succ]; have := ih r; omega
theorem getN_at {k : Nat} : ∀ {L : List Nat}, k < L.length → (∀ j, j < k → 128 ≤ L.getD j 0) → L.getD k 0 < 128 → (∀ x ∈ L, x < 256) →
    getN L = if k = 0 ∨ 0 < L.getD k 0 then some (lowN (k + 1) L, L.drop (k + 1)) else none := by
  induction k with
  | zero =>
    intro L hk _ hl _
    cases L with
    | nil => simp at hk
    | cons x r =>
      simp at hl
      rw [getN_last hl, if_pos (.inl rfl)]
      simp [lowN]
      omega
  | succ k ih =>
    intro L hk hj hl hb
    cases L with
    | nil => simp at hk
    | cons x r =>
      have hx := hj 0 (by omega)
      have hx2 := hb x (by simp)
      simp only [List.getD_cons_zero] at hx
      simp only [List.getD_cons_succ] at hl ⊢
      have e := ih (L := r) (by simpa using hk) (fun j h => by have := hj (j + 1) (by omega); simpa using this) hl (fun y hy => hb y (by simp [hy]))
      by_cases hz : 0 < r.getD k 0
      · rw [if_pos (.inr hz)] at e
        rw [if_pos (.inr hz), getN_more (by omega) e]
        · simp [lowN]; omega
        · have := lowN_succ k r
          have h2 : 0 < r.getD k 0 % 128 * 128 ^ k := Nat.mul_pos (by rw [Nat.mod_eq_of_lt hl]; exact hz) (Nat.pow_pos (by omega))
          omega
      · rw [if_neg (by omega)]
        by_cases hk0 : k = 0
        · subst hk0
          rw [if_pos (.inl rfl)] at e
          have h1 := lowN_succ 0 r
          have h0 : r.getD 0 0 = 0 := by omega
          rw [h0] at h1
          have : lowN 1 r = 0 := by simpa [lowN] using h1
          rw [this] at e
          exact getN_nought (by omega) e
        · rw [if_neg (by omega)] at e
          exact getN_bad (by omega) e
theorem getN_end {m : Nat} : ∀ {L : List Nat}, (∀ j, j < m → j < L.length → 128 ≤ L.getD j 0) → ∀ n r, getN L = some (n, r) → n ≠ 0 → 128 ^ m ≤ n := by
  induction m with
  | zero => intro L _ n r _ hn; simp; omega
  | succ m ih =>
    intro L hj n r hg hn
    cases L with
    | nil => cases hg
    | cons x t =>
      have hx := hj 0 (by omega) (by simp)
      simp only [List.getD_cons_zero] at hx
      cases hq : getN t with
      | none => rw [getN_bad (by omega) hq] at hg; cases hg
      | some q =>
        obtain ⟨k, r'⟩ := q
        by_cases h0 : k = 0
        · subst h0; rw [getN_nought (by omega) hq] at hg; cases hg
        · rw [getN_more (by omega) hq h0] at hg
          cases hg
          have := ih (L := t) (fun j h1 h2 => by have := hj (j + 1) (by omega) (by simpa using h2); simpa using this) k r hq h0
          rw [Nat.pow_succ]
          omega
/-- A number whose last byte is the (k+1)th, k less than K. -/
theorem num_at {k K : Nat} {L : List Nat} (hK : k < K) (hk : k < L.length) (hj : ∀ j, j < k → 128 ≤ L.getD j 0) (hl : L.getD k 0 < 128) (hb : ∀ x ∈ L, x < 256) (hz : k = 0 ∨ 0 < L.getD k 0) :
    num (128 ^ K) L = some (lowN (k + 1) L, L.drop (k + 1)) := by
  have e := getN_at hk hj hl hb
  rw [if_pos hz] at e
  exact num_some.2 ⟨e, Nat.lt_of_lt_of_le (lowN_lt _ _) (Nat.pow_le_pow_right (by omega) hK)⟩
theorem num_bad {k m : Nat} {L : List Nat} (hk : k < L.length) (hj : ∀ j, j < k → 128 ≤ L.getD j 0) (hl : L.getD k 0 < 128) (hb : ∀ x ∈ L, x < 256) (hz : ¬ (k = 0 ∨ 0 < L.getD k 0)) :
    num m L = none := by
  have e := getN_at hk hj hl hb
  rw [if_neg hz] at e
  exact num_none.2 fun n r h => by rw [e] at h; cases h
theorem num_end {K : Nat} {L : List Nat} (hK : 0 < K) (hj : ∀ j, j < K → j < L.length → 128 ≤ L.getD j 0) : num (128 ^ K) L = none := by
  refine num_none.2 fun n r h hl => ?_
  have hn : n ≠ 0 := by
    intro e
    subst e
    cases L with
    | nil => cases h
    | cons x t =>
      have hx := hj 0 hK (by simp)
      simp only [List.getD_cons_zero] at hx
      cases hq : getN t with
      | none => rw [getN_bad (by omega) hq] at h; cases h
      | some q =>
        obtain ⟨k, r'⟩ := q
        by_cases h0 : k = 0
        · subst h0; rw [getN_nought (by omega) hq] at h; cases h
        · rw [getN_more (by omega) hq h0] at h
          injection h with h
          injection h with h _
          omega
  have := getN_end hj n r h hn
  omega

/-- A record read of numbers that are less than m: the same, as no record has a number that is more than a million. -/
theorem getRec_num {m : Nat} (hm : 1000000 < m) (L : List Nat) : getRec L =
    (num m L).bind fun p => (num m p.2).bind fun q => (num m q.2).bind fun s => if recOkB ⟨p.1, q.1, s.1⟩ then some (⟨p.1, q.1, s.1⟩, s.2) else none := by
  have hno : ∀ {k a b : Nat}, (m ≤ k ∨ m ≤ a ∨ m ≤ b) → recOkB ⟨k, a, b⟩ = false := fun {k a b} h => by
    cases e : recOkB ⟨k, a, b⟩
    · rfl
    · have := recOkB_true.1 e
      dsimp only at this
      omega
  unfold getRec num
  cases h1 : getN L with
  | none => rfl
  | some p =>
    obtain ⟨k, r1⟩ := p
    dsimp only [Option.bind_some]
    cases h2 : getN r1 with
    | none => by_cases hk : k < m <;> simp [hk, h2]
    | some q =>
      obtain ⟨a, r2⟩ := q
      dsimp only
      cases h3 : getN r2 with
      | none => by_cases hk : k < m <;> by_cases ha : a < m <;> simp [hk, ha, h2, h3]
      | some s =>
        obtain ⟨b, r3⟩ := s
        dsimp only
        by_cases hk : k < m
        · by_cases ha : a < m
          · by_cases hb : b < m
            · simp [hk, ha, hb, h2, h3]
            · rw [hno (.inr (.inr (by omega)))]
              simp [hk, ha, hb, h2, h3]
          · rw [hno (.inr (.inl (by omega)))]
            simp [hk, ha, h2]
        · rw [hno (.inl (by omega))]
          simp [hk]
/-- What is read of bytes, by such numbers. -/
theorem readN_num {m : Nat} (hm : 80 < m) (L : List Nat) : readN L = (num m L).bind fun p => if 80 < p.1 then none else (getRecs p.1 p.2).bind fun q => if q.2 = [] then some q.1 else none := by
  unfold readN num
  cases h1 : getN L with
  | none => rfl
  | some p =>
    obtain ⟨n, r⟩ := p
    dsimp only [Option.bind_some]
    by_cases hn : n < m
    · rw [if_pos hn]
      dsimp only [Option.bind_some]
      by_cases h8 : 80 < n
      · rw [if_pos h8, if_pos h8]
      · rw [if_neg h8, if_neg h8]
        cases getRecs n r with
        | none => rfl
        | some q => rfl
    · rw [if_neg hn, if_pos (by omega)]
      rfl
theorem getRecs_zero (L : List Nat) : getRecs 0 L = some ([], L) := rfl
theorem getRecs_succ (n : Nat) (L : List Nat) : getRecs (n + 1) L = (getRec L).bind fun p => (getRecs n p.2).map fun q => (p.1 :: q.1, q.2) := by
  rw [getRecs]
  cases getRec L with
  | none => rfl
  | some p =>
    obtain ⟨r, b⟩ := p
    dsimp only [Option.bind_some]
    cases getRecs n b with
    | none => rfl
    | some q => rfl
end Go.Proofs.YtfibgpikjfopgaaGreat
