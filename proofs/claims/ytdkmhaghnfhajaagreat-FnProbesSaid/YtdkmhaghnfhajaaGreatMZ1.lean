/-
  The law's dice and the model's cursor: a number below n, whatever the bytes.
-/
import Derived.Test.YtdkmhaghnfhajaaGreatMZ0
import Derived.StillTailTactics
/- Pd -/
set_option linter.unusedVariables false
namespace Go.Proofs.YtdkmhaghnfhajaaGreat
open Go.RowKit

abbrev planC (A0 A1 A2 A3 : Option Addr) (n0 c0 n1 c1 n2 c2 n3 c3 : Nat) (l p t : Int) : Array Value :=
  #[.slice A0 n0 c0, .slice A1 n1 c1, .slice A2 n2 c2, .slice A3 n3 c3, .int .i64 l, .int .i64 p, .int .i64 t]

set_option maxHeartbeats 1000000 in
theorem l1Pods_any (A0 A1 A2 A3 : Option Addr) (n0 c0 n1 c1 n2 c2 n3 c3 : Nat) (l p t : Int) (x0 : Nat → Int) (w : World)
    (s0 : Sl w w.heap.size 4 A0 n0 x0) (b0 : n0 ≤ maxLen) (b1 : n1 ≤ maxLen) :
    Calls Tryz.prog 88 #[planV A0 A1 A2 A3 n0 c0 n1 c1 n2 c2 n3 c3 l p t] w fun e w' =>
      e = .returned (.bool (allB n0 (podB n1 x0) && decide (n0 ≤ 12))) ∧ Below w.heap.size w w' := by
  unfold maxLen at b0 b1
  have S0 := Lib.hid s0
  clear s0
  go_enter Tryz.func88, Tryz.ntmps88
  go_wp2
  go_loopw [3] (fun i wr => ∃ k : Nat, k ≤ n0 ∧ i = .int .i64 k ∧ (∀ j, j < k → podB n1 x0 j = true) ∧ Own w wr w.heap.size (planC A0 A1 A2 A3 n0 c0 n1 c1 n2 c2 n3 c3 l p t)) (fun i _ => n0 - (intOf i).toNat)
  case atStart => exact ⟨0, Nat.zero_le _, rfl, fun j hj => absurd hj (by omega), Own.box w _ _⟩
  case round =>
    obtain ⟨k, hk, rfl, hall, X⟩ := hrel
    have HA := Lib.hid hall
    clear hall
    have hC := X.C
    have hz := X.z
    by_cases hlt : k < n0
    · obtain ⟨b, off, rfl, hb, q0, q1, q2, q3⟩ := (S0.out.own X).cell4 hlt
      go_wp2_with (go_at_call 48; refine (in_any _ _ _ _).mono ?_; rintro e w' ⟨rfl, rfl⟩)
      all_goals first
        | (refine ⟨⟨k + 1, by omega, by go_num, step_all HA.out (by simp_all [podB]), X.alloc _⟩, by simp [intOf]; omega⟩)
        | (go_ret; exact ⟨ret_bool (by rw [allB_false hlt (by simp_all [podB])]; rfl), (X.alloc _).K⟩)
    · obtain rfl : k = n0 := by omega
      go_wp2
      go_ret
      exact ⟨ret_bool (by rw [allB_true.2 HA.out, Bool.eq_iff_iff]; simp; omega), X.K⟩

set_option maxHeartbeats 1000000 in
theorem l1Mounts_any (A0 A1 A2 A3 : Option Addr) (n0 c0 n1 c1 n2 c2 n3 c3 : Nat) (l p t : Int) (x2 x3 : Nat → Int) (w : World)
    (s2 : Sl w w.heap.size 2 A2 n2 x2) (s3 : Sl w w.heap.size 1 A3 n3 x3) (b0 : n0 ≤ maxLen) (b2 : n2 ≤ maxLen) (b3 : n3 ≤ maxLen) :
    Calls Tryz.prog 89 #[planV A0 A1 A2 A3 n0 c0 n1 c1 n2 c2 n3 c3 l p t] w fun e w' =>
      e = .returned (.bool (allB n2 (mountB n0 x2) && allB n3 (deviceB n2 x3) && decide (n2 ≤ 12) && decide (n3 ≤ 12))) ∧ Below w.heap.size w w' := by
  unfold maxLen at b0 b2 b3
  have S2 := Lib.hid s2
  have S3 := Lib.hid s3
  clear s2 s3
  go_enter Tryz.func89, Tryz.ntmps89
  go_wp2
  go_loopw [3] (fun i wr => ∃ k : Nat, k ≤ n2 ∧ i = .int .i64 k ∧ (∀ j, j < k → mountB n0 x2 j = true) ∧ Own w wr w.heap.size (planC A0 A1 A2 A3 n0 c0 n1 c1 n2 c2 n3 c3 l p t)) (fun i _ => n2 - (intOf i).toNat)
  case atStart => exact ⟨0, Nat.zero_le _, rfl, fun j hj => absurd hj (by omega), Own.box w _ _⟩
  case round =>
    obtain ⟨k, hk, rfl, hall, X⟩ := hrel
    have HA := Lib.hid hall
    clear hall
    have hC := X.C
    have hz := X.z
    by_cases hlt : k < n2
    · obtain ⟨b, off, rfl, hb, q0, q1⟩ := (S2.out.own X).cell2 hlt
      cases hp : inB (x2 (k * 2)) 0 (n0 - 1)
      all_goals
        go_wp2_with fail
        go_quiet ((go_at_call 48; exact Calls.quiet_of_same ((in_any _ _ _ _).mono fun e w' h => ⟨h.1, h.2.symm⟩)))
        go_wp2
        all_goals first
          | (refine ⟨⟨k + 1, by omega, by go_num, step_all HA.out (by simp_all [mountB]), X.drewN _⟩, by simp [intOf]; omega⟩)
          | (go_ret; exact ⟨ret_bool (by rw [allB_false hlt (by simp_all [mountB])]; rfl), (X.drewN _).K⟩)
    · obtain rfl : k = n2 := by omega
      have HA2 := Lib.hid (allB_true.2 HA.out)
      clear HA hk hlt
      go_wp2
      go_loopw [4] (fun i wr => ∃ m : Nat, m ≤ n3 ∧ i = .int .i64 m ∧ (∀ j, j < m → deviceB k x3 j = true) ∧ Own w wr w.heap.size (planC A0 A1 A2 A3 n0 c0 n1 c1 k c2 n3 c3 l p t)) (fun i _ => n3 - (intOf i).toNat)
      case atStart => exact ⟨0, Nat.zero_le _, rfl, fun j hj => absurd hj (by omega), X⟩
      case round =>
        clear hC hz X
        obtain ⟨m, hm, rfl, hall, X⟩ := hrel
        have HA := Lib.hid hall
        clear hall
        have hC := X.C
        have hz := X.z
        by_cases hlt : m < n3
        · obtain ⟨b, off, rfl, hb, q0⟩ := (S3.out.own X).cell1 hlt
          go_wp2_with fail
          go_quiet ((go_at_call 48; exact Calls.quiet_of_same ((in_any _ _ _ _).mono fun e w' h => ⟨h.1, h.2.symm⟩)))
          go_wp2
          all_goals first
            | (refine ⟨⟨m + 1, by omega, by go_num, step_all HA.out (by simp_all [deviceB]), X.drewN _⟩, by simp [intOf]; omega⟩)
            | (go_ret; exact ⟨ret_bool (by rw [allB_false hlt (by simp_all [deviceB])]; simp), (X.drewN _).K⟩)
        · obtain rfl : m = n3 := by omega
          have HB := Lib.hid (allB_true.2 HA.out)
          clear HA hm hlt
          go_wp2
          all_goals (go_ret; refine ⟨ret_bool ?_, X.K⟩)
          all_goals (rw [HA2.out, HB.out, Bool.eq_iff_iff]; simp; omega)

set_option maxHeartbeats 1000000 in
theorem spec_planOk_any (v : Value) (d : PlanD) (w : World) (h : IsPlan w w.heap.size v d) :
    Calls Tryz.prog 47 #[v] w fun e w' => e = .returned (.bool (planOkB d)) ∧ Below w.heap.size w w' := by
  obtain ⟨⟨A0, A1, A2, A3, c0, c1, c2, c3, rfl, s0, s1, s2, s3⟩, b0, b1, b2, b3⟩ := h
  obtain ⟨n0, n1, n2, n3, x0, x1, x2, x3, l, p, t⟩ := d
  dsimp only at *
  have S0 := Lib.hid s0
  have S1 := Lib.hid s1
  have S2 := Lib.hid s2
  have S3 := Lib.hid s3
  have B0 := Lib.hid b0
  have B2 := Lib.hid b2
  have B3 := Lib.hid b3
  clear s0 s1 s2 s3 b0 b2 b3
  have B1 := Lib.hid b1
  unfold maxLen at b1
  go_enter Tryz.func47, Tryz.ntmps47
  go_wp2
  go_loopw [3] (fun i wr => ∃ k : Nat, k ≤ n1 ∧ i = .int .i64 k ∧ (∀ j, j < k → minB x1 j = true) ∧ Own w wr w.heap.size (planC A0 A1 A2 A3 n0 c0 n1 c1 n2 c2 n3 c3 l p t)) (fun i _ => n1 - (intOf i).toNat)
  case atStart => exact ⟨0, Nat.zero_le _, rfl, fun j hj => absurd hj (by omega), Own.box w _ _⟩
  case round =>
    obtain ⟨k, hk, rfl, hall, X⟩ := hrel
    have HA := Lib.hid hall
    clear hall
    have hC := X.C
    have hz := X.z
    by_cases hlt : k < n1
    · obtain ⟨b, off, rfl, hb, q0⟩ := (S1.out.own X).cell1 hlt
      go_wp2_with (go_at_call 48; refine (in_any _ _ _ _).mono ?_; rintro e w' ⟨rfl, rfl⟩)
      all_goals first
        | (refine ⟨⟨k + 1, by omega, by go_num, step_all HA.out (by simp_all [minB]), X⟩, by simp [intOf]; omega⟩)
        | (go_ret; exact ⟨ret_bool (by simp [planOkB, allB_false hlt (show minB x1 k = false by simp_all [minB])]), X.K⟩)
    · obtain rfl : k = n1 := by omega
      have HB := Lib.hid (allB_true.2 HA.out)
      clear HA hk hlt
      go_wp2_with (first
        | (go_at_call 48; refine (in_any _ _ _ _).mono ?_; rintro e w' ⟨rfl, rfl⟩)
        | (go_at_call 88; refine (l1Pods_any A0 A1 A2 A3 n0 c0 k c1 n2 c2 n3 c3 l p t x0 _ (S0.out.own X) B0.out B1.out).mono ?_; rintro e w2 ⟨rfl, hb2⟩; have X2 := X.step hb2; have hC2 := X2.C; clear hb2)
        | (go_at_call 89; refine (l1Mounts_any A0 A1 A2 A3 n0 c0 k c1 n2 c2 n3 c3 l p t x2 x3 _ (S2.out.own X2) (S3.out.own X2) B0.out B2.out B3.out).mono ?_; rintro e w3 ⟨rfl, hb3⟩; have X3 := X2.step hb3; have hC3 := X3.C; clear hb3))
      all_goals (go_ret; refine ⟨ret_bool ?_, by first | exact X3.K | exact X2.K | exact X.K⟩)
      all_goals (have hB := HB.out; clear HB hC X; rw [Bool.eq_iff_iff]; simp only [planOkB, sizesB, timesB, hB, Bool.and_eq_true, decide_eq_true_eq]; grind)
end Go.Proofs.YtdkmhaghnfhajaaGreat
/- Pe -/
set_option linter.unusedVariables false
namespace Go.Proofs.YtdkmhaghnfhajaaGreat
open Go.RowKit
theorem info_pod : (Tryz.prog.info? 62).map (fun i => (i.zero, i.size, i.bytes)) = some (some (.agg #[.int .i64 0, .int .i64 0, .int .i64 0, .int .i64 0]), 4, 32) := by kernel_rfl
theorem info_i64 : (Tryz.prog.info? 2).map (fun i => (i.zero, i.size, i.bytes)) = some (some (.int .i64 0), 1, 8) := by kernel_rfl
theorem info_mount : (Tryz.prog.info? 69).map (fun i => (i.zero, i.size, i.bytes)) = some (some (.agg #[.int .i64 0, .int .i64 0]), 2, 16) := by kernel_rfl
theorem info_device : (Tryz.prog.info? 79).map (fun i => (i.zero, i.size, i.bytes)) = some (some (.agg #[.int .i64 0]), 1, 8) := by kernel_rfl

end Go.Proofs.YtdkmhaghnfhajaaGreat
/- Pf -/
set_option linter.unusedVariables false
namespace Go.Proofs.YtdkmhaghnfhajaaGreat
open Go.RowKit

theorem RowF.far {w : World} {g N : Nat} {x : Nat → Int} (h : RowF w g N x) {p : Addr} (hne : p.block ≠ g) (v : Value) : RowF (w.setCell p v) g N x := fun j hj =>
  ⟨(World.cell?_setCell_other _ _ _ _ (fun e => hne (by rw [e]))).trans (h j hj).1, by rw [World.frozen?_setCell]; exact (h j hj).2⟩
theorem RowF.alloc {w : World} {g N : Nat} {x : Nat → Int} (h : RowF w g N x) (hg : g < w.heap.size) (o : Obj) : RowF (w.alloc o) g N x := h.below ((Below.refl _ _).alloc (Nat.le_refl _) o) hg
theorem RowF.sl {w : World} {g N k n B : Nat} {x : Nat → Int} (h : RowF w g N x) (hN : n * k ≤ N) (hg : g < B) : Sl w B k (some ⟨g, 0, none⟩) n x := fun _ =>
  ⟨g, 0, rfl, hg, fun j hj => by rw [Nat.zero_add]; exact (h j (by omega)).1⟩

/-- A plan of new memory. -/
structure NewPlan (w w' : World) (d : PlanD) (g0 g1 g2 g3 : Nat) : Prop where
  l0 : w.heap.size ≤ g0
  l1 : g0 < g1
  l2 : g1 < g2
  l3 : g2 < g3
  l4 : g3 < w'.heap.size
  R0 : RowF w' g0 (d.n0 * 4) d.x0
  R1 : RowF w' g1 d.n1 d.x1
  R2 : RowF w' g2 (d.n2 * 2) d.x2
  R3 : RowF w' g3 d.n3 d.x3
abbrev newPlanV (d : PlanD) (g0 g1 g2 g3 : Nat) : Value := planV (some ⟨g0, 0, none⟩) (some ⟨g1, 0, none⟩) (some ⟨g2, 0, none⟩) (some ⟨g3, 0, none⟩) d.n0 d.n0 d.n1 d.n1 d.n2 d.n2 d.n3 d.n3 d.l d.p d.t
theorem heap_size_alloc_ (w : World) (o : Obj) : (w.alloc o).heap.size = w.heap.size + 1 := by simp

/-- The three blocks of a copy under way: what came in, the answer's cell, the copy. -/
structure TP (w w1 : World) (cs zs os : Array Value) : Prop where
  A : Own w w1 w.heap.size cs
  Z : Own w w1 (w.heap.size + 1) zs
  O : Own w w1 (w.heap.size + 1 + 1) os
theorem TP.start (w : World) (cs zs os : Array Value) (t t' t'' : TypeId) : TP w (((w.alloc (.cells cs t)).alloc (.cells zs t')).alloc (.cells os t'')) cs zs os := by
  have h1 := Own.box w cs t
  have h2 := Own.box2 h1.K zs t'
  have h3 := Own.box2 h2.K os t''
  simp only [heap_size_alloc_] at h2 h3
  exact ⟨(h1.alloc _).alloc _, h2.alloc _, h3⟩
theorem TP.step {w w1 w2 : World} {cs zs os : Array Value} (h : TP w w1 cs zs os) (hb : Below w1.heap.size w1 w2) : TP w w2 cs zs os := ⟨h.A.step hb, h.Z.step hb, h.O.step hb⟩
theorem TP.set {w w1 : World} {cs zs os : Array Value} (h : TP w w1 cs zs os) {i : Nat} (hi : i < os.size) (v : Value) : TP w (w1.setCell ⟨w.heap.size + 1 + 1, i, none⟩ v) cs zs (os.setIfInBounds i v) :=
  ⟨h.A.far (by simp; omega) (by simp; omega) v, h.Z.far (by simp; omega) (by simp) v, h.O.set (by omega) hi v⟩

theorem NewPlan.is {w w' : World} {d : PlanD} {g0 g1 g2 g3 : Nat} (h : NewPlan w w' d g0 g1 g2 g3) (b0 : d.n0 ≤ maxLen) (b1 : d.n1 ≤ maxLen) (b2 : d.n2 ≤ maxLen) (b3 : d.n3 ≤ maxLen) :
    IsPlan w' w'.heap.size (newPlanV d g0 g1 g2 g3) d := by
  obtain ⟨l0, l1, l2, l3, l4, R0, R1, R2, R3⟩ := h
  exact ⟨⟨_, _, _, _, _, _, _, _, rfl, R0.sl (by omega) (by omega), R1.sl (by omega) (by omega), R2.sl (by omega) (by omega), R3.sl (by omega) (by omega)⟩, b0, b1, b2, b3⟩

/-- Two blocks of what came in. -/
structure Two (w w1 : World) (cs os : Array Value) : Prop where
  A : Own w w1 w.heap.size cs
  O : Own w w1 (w.heap.size + 1) os
theorem Two.start (w : World) (cs os : Array Value) (t t' : TypeId) : Two w ((w.alloc (.cells cs t)).alloc (.cells os t')) cs os := by
  have h1 := Own.box w cs t
  have h2 := Own.box2 h1.K os t'
  simp only [heap_size_alloc_] at h2
  exact ⟨h1.alloc _, h2⟩
theorem Two.step {w w1 w2 : World} {cs os : Array Value} (h : Two w w1 cs os) (hb : Below w1.heap.size w1 w2) : Two w w2 cs os := ⟨h.A.step hb, h.O.step hb⟩

end Go.Proofs.YtdkmhaghnfhajaaGreat
/- PjA -/
set_option linter.unusedVariables false
namespace Go.Proofs.YtdkmhaghnfhajaaGreat
open Go.RowKit
/-- The indexes below n at which f is the wanted number, rising. -/
def hits (n : Nat) (f : Nat → Int) (wanted : Int) : List Int := ((List.range n).filter (fun i => f i == wanted)).map (fun i : Nat => (i : Int))
theorem hits_yes {n : Nat} {f : Nat → Int} {wanted : Int} (h : (f n == wanted) = true) : hits (n + 1) f wanted = hits n f wanted ++ [(n : Int)] := by
  simp [hits, List.range_succ, List.filter_append, h]
theorem hits_no {n : Nat} {f : Nat → Int} {wanted : Int} (h : (f n == wanted) = false) : hits (n + 1) f wanted = hits n f wanted := by
  simp [hits, List.range_succ, List.filter_append, h]
theorem hits_le (n : Nat) (f : Nat → Int) (wanted : Int) : (hits n f wanted).length ≤ n := by
  have := List.length_filter_le (fun i => f i == wanted) (List.range n)
  simpa [hits] using this

/-- What the chapter asks of these functions: the indexes, or nothing where the plan is not right. -/
def found (d : PlanD) (n : Nat) (f : Nat → Int) (wanted : Int) : List Int := if planOkB d then hits n f wanted else []
theorem found_yes {d : PlanD} {n : Nat} {f : Nat → Int} {wanted : Int} (h : planOkB d = true) : found d n f wanted = hits n f wanted := if_pos h
theorem found_no {d : PlanD} {n : Nat} {f : Nat → Int} {wanted : Int} (h : planOkB d = false) : found d n f wanted = [] := if_neg (by rw [h]; decide)
end Go.Proofs.YtdkmhaghnfhajaaGreat
/- Pj -/
set_option linter.unusedVariables false
namespace Go.Proofs.YtdkmhaghnfhajaaGreat
open Go.RowKit

set_option maxRecDepth 100000 in
set_option maxHeartbeats 1000000 in
theorem numbersWith_any (pv : Value) (d : PlanD) (g n : Nat) (f : Nat → Int) (wanted : Int) (w : World) (h : IsPlan w w.heap.size pv d) (hn : n ≤ 1048576)
    (hg : ∀ (x y : Value) (wr : World), (callFunc g #[x, y]).run Tryz.prog wr = .ok (.enter g #[x, y]) wr)
    (H : Hid (∀ i, i < n → ∀ wr, Below w.heap.size w wr → Calls Tryz.prog g #[pv, .int .i64 i] wr fun e w' => e = .returned (.int .i64 (f i)) ∧ Below wr.heap.size wr w')) :
    Calls Tryz.prog 113 #[pv, .int .i64 n, .func (.func g) #[pv] #[], .int .i64 wanted] w (Listed w (found d n f wanted)) := by
  have HN := Lib.hid hn
  have hn' : n ≤ 2 ^ 63 - 1 := by omega
  clear hn
  have P := Lib.hid h
  obtain ⟨⟨A0, A1, A2, A3, c0, c1, c2, c3, rfl, -, -, -, -⟩, -, -, -, -⟩ := h
  obtain ⟨i0, hi, hz0, hz1, hz2⟩ := info_parts info_i64
  have HI := Lib.hid hi
  have HZ0 := Lib.hid hz0
  have HZ1 := Lib.hid hz1
  have HZ2 := Lib.hid hz2
  clear hi hz0 hz1 hz2
  go_enter Tryz.func113, Tryz.ntmps113
  go_wp2_with fail
  have X1 := (Own.box w (planC A0 A1 A2 A3 d.n0 c0 d.n1 c1 d.n2 c2 d.n3 c3 d.l d.p d.t) 29).alloc (.cells #[] 2)
  have O1 : ((w.alloc (.cells (planC A0 A1 A2 A3 d.n0 c0 d.n1 c1 d.n2 c2 d.n3 c3 d.l d.p d.t) 29)).alloc (.cells #[] 2)).ownsRow w.heap.size 2 1 (.slice (some ⟨w.heap.size + 1, 0, none⟩) 0 0) 0 [] := by
    have := World.ownsRow_made (base := w.heap.size) (e := 2) (size := 1) (w.alloc (.cells (planC A0 A1 A2 A3 d.n0 c0 d.n1 c1 d.n2 c2 d.n3 c3 d.l d.p d.t) 29)) #[] 0 (by simp) (Nat.zero_le _) rfl
    simpa using this
  refine (planOk_any _ d _ ((P.out.below X1.K (Nat.le_refl _)).more X1.K.size)).mono ?_
  rintro e w1 ⟨rfl, hb⟩
  have X2 := X1.step hb
  have O2 := ownsRow_below O1 hb
  clear X1 O1 hb
  cases hq : planOkB d
  · have HF := Lib.hid (found_no (n := n) (f := f) (wanted := wanted) hq)
    clear hq
    go_wp2
    go_ret
    exact ⟨_, rfl, by rw [HF.out]; exact O2, X2.K⟩
  · have HF := Lib.hid (found_yes (n := n) (f := f) (wanted := wanted) hq)
    clear hq
    have K2 := X2.K
    clear X2
    go_wp2
    go_loopw [9, 17] (fun v i wr => ∃ k : Nat, k ≤ n ∧ i = .int .i64 k ∧ wr.ownsRow w.heap.size 2 1 v (hits k f wanted).length ((hits k f wanted).map (Value.int .i64)) ∧ Below w.heap.size w wr) (fun _ i _ => n - (intOf i).toNat)
    case atStart => exact ⟨0, Nat.zero_le _, rfl, O2, K2⟩
    case round =>
      clear O2 K2
      obtain ⟨k, hk, rfl, O, K⟩ := hrel
      by_cases hlt : k < n
      · have hf := H.out k hlt _ K
        have hle := hits_le k f wanted
        have HO := Lib.hid O
        clear O
        cases hv : (f k == wanted)
        · have HV := Lib.hid (hits_no hv)
          go_wp2_with (refine hf.mono ?_; rintro e w3 ⟨rfl, hb3⟩)
          exact ⟨⟨k + 1, by omega, by go_num, by rw [HV.out]; exact ownsRow_below HO.out hb3, K.trans (hb3.mono K.size)⟩, by simp [intOf]; omega⟩
        · have HV := Lib.hid (hits_yes hv)
          have h63 : (hits k f wanted).length + 1 ≤ maxLen := by have := HN.out; unfold maxLen; omega
          have hby : ((hits k f wanted).length + 1) * 8 ≤ 140737488355328 := by have := HN.out; omega
          have H63 := Lib.hid h63
          have HBY := Lib.hid hby
          clear h63 hby
          go_wp2_with (first
            | (refine hf.mono ?_; rintro e w3 ⟨rfl, hb3⟩)
            | (at_builtin; refine wpList_append_own _ rfl _ _ 25 rfl w.heap.size 2 i0 (.int .i64 0) 1 8 Tryz.underlying25 HI.out HZ0.out HZ1.out HZ2.out rfl (by decide) _ _ _ rfl ((ownsRow_below HO.out hb3).alloc _) ⟨w3.heap.size, 0, none⟩ 1 1 [.int .i64 k] rfl rfl (cell_one_new _ _ _) (fun x hx => by simp at hx; subst hx; rfl) H63.out HBY.out (by have := K.size; have := hb3.size; simp; omega) ?_; intro v' w4 hown' hgrow hnil))
          have K3 : Below w.heap.size w (w3.alloc (.cells #[.int .i64 k] 2)) := (K.trans (hb3.mono K.size)).alloc (Nat.le_trans K.size hb3.size) _
          refine ⟨⟨k + 1, by omega, by go_num, ?_, K3.grown hgrow K3.size fun g hg => ((ownsRow_below HO.out hb3).lt g hg).1⟩, by simp [intOf]; omega⟩
          rw [HV.out]
          simpa using hown'
      · obtain rfl : k = n := by omega
        go_wp2
        go_ret
        exact ⟨_, rfl, by rw [HF.out]; exact O, K⟩
end Go.Proofs.YtdkmhaghnfhajaaGreat
/- PmA -/
set_option linter.unusedVariables false
namespace Go.Proofs.YtdkmhaghnfhajaaGreat
open Go.RowKit
theorem NewPlan.below {w0 w w' : World} {d : PlanD} {g0 g1 g2 g3 : Nat} (h : NewPlan w0 w d g0 g1 g2 g3) (hb : Below w.heap.size w w') : NewPlan w0 w' d g0 g1 g2 g3 := by
  obtain ⟨l0, l1, l2, l3, l4, R0, R1, R2, R3⟩ := h
  exact ⟨l0, l1, l2, l3, Nat.lt_of_lt_of_le l4 hb.size, R0.below hb (by omega), R1.below hb (by omega), R2.below hb (by omega), R3.below hb (by omega)⟩

end Go.Proofs.YtdkmhaghnfhajaaGreat
/- PwL -/
set_option linter.unusedVariables false
namespace Go.Proofs.YtdkmhaghnfhajaaGreat
open Go.RowKit

theorem plan_of_owned {w : World} {B0 B1 B2 B3 : Nat} {v0 v1 v2 v3 : Value} {d : PlanD} (o0 : OI w B0 62 4 v0 d.n0 d.x0) (o1 : OI w B1 2 1 v1 d.n1 d.x1) (o2 : OI w B2 69 2 v2 d.n2 d.x2) (o3 : OI w B3 79 1 v3 d.n3 d.x3) :
    IsPlan w w.heap.size (.agg #[v0, v1, v2, v3, .int .i64 d.l, .int .i64 d.p, .int .i64 d.t]) d := by
  obtain ⟨A0, c0, rfl, s0, b0⟩ := o0.form
  obtain ⟨A1, c1, rfl, s1, b1⟩ := o1.form
  obtain ⟨A2, c2, rfl, s2, b2⟩ := o2.form
  obtain ⟨A3, c3, rfl, s3, b3⟩ := o3.form
  exact ⟨⟨_, _, _, _, _, _, _, _, rfl, s0, s1, s2, s3⟩, b0, b1, b2, b3⟩

/-- The four lists of a plan. -/
structure Lists (w : World) (B : Nat) (v0 v1 v2 v3 : Value) (d : PlanD) : Prop where
  o0 : OI w B 62 4 v0 d.n0 d.x0
  o1 : OI w B 2 1 v1 d.n1 d.x1
  o2 : OI w B 69 2 v2 d.n2 d.x2
  o3 : OI w B 79 1 v3 d.n3 d.x3
theorem Lists.below {w w' : World} {B : Nat} {v0 v1 v2 v3 : Value} {d : PlanD} (h : Lists w B v0 v1 v2 v3 d) (hb : Below w.heap.size w w') : Lists w' B v0 v1 v2 v3 d :=
  ⟨h.o0.below hb, h.o1.below hb, h.o2.below hb, h.o3.below hb⟩
theorem Lists.keeps {w w' : World} {B g T : Nat} {cs : Array Value} {v0 v1 v2 v3 : Value} {d : PlanD} (h : Lists w B v0 v1 v2 v3 d) (kk : Keeps (· = g) w w') (hg : w.heap[g]? = some (.cells cs T (0, 0)))
    (hT : T ≠ 62 ∧ T ≠ 2 ∧ T ≠ 69 ∧ T ≠ 79) : Lists w' B v0 v1 v2 v3 d :=
  ⟨h.o0.keeps kk hg hT.1, h.o1.keeps kk hg hT.2.1, h.o2.keeps kk hg hT.2.2.1, h.o3.keeps kk hg hT.2.2.2⟩
theorem Lists.base {w : World} {B B' : Nat} {v0 v1 v2 v3 : Value} {d : PlanD} (h : Lists w B v0 v1 v2 v3 d) (hb : B' ≤ B) : Lists w B' v0 v1 v2 v3 d := by
  obtain ⟨⟨a, ha, ha'⟩, ⟨b, hb1, hb2⟩, ⟨c, hc, hc'⟩, ⟨e, he, he'⟩⟩ := h
  exact ⟨⟨a, ownsRow_base ha hb, ha'⟩, ⟨b, ownsRow_base hb1 hb, hb2⟩, ⟨c, ownsRow_base hc hb, hc'⟩, ⟨e, ownsRow_base he hb, he'⟩⟩
theorem Lists.plan {w : World} {B : Nat} {v0 v1 v2 v3 : Value} {d : PlanD} (h : Lists w B v0 v1 v2 v3 d) : IsPlan w w.heap.size (.agg #[v0, v1, v2, v3, .int .i64 d.l, .int .i64 d.p, .int .i64 d.t]) d :=
  plan_of_owned h.o0 h.o1 h.o2 h.o3
end Go.Proofs.YtdkmhaghnfhajaaGreat
/- Pq -/
set_option linter.unusedVariables false
namespace Go.Proofs.YtdkmhaghnfhajaaGreat
open Go.RowKit
set_option maxRecDepth 100000 in
set_option maxHeartbeats 1000000 in
theorem below_any (g : Nat) (n : Int) (w : World) (h : Cur 81 .u64 w g) (h0 : 0 < n) (h1 : n ≤ 1000000) :
    Calls Tryz.prog 21 #[.pointer (some ⟨g, 0, none⟩), .int .i64 n] w (Drawn 81 .u64 g n w) := by
  obtain ⟨A, m, c, i, hh, hg, i0, i1, hm, hB⟩ := h
  have q0 := cell_of_row w g 0 _ _ _ hg
  have q1 := cell_of_row w g 1 _ _ _ hg
  have q2 := cell_of_row w g 2 _ _ _ hg
  have f2 := frozen_of_row w g 2 _ _ hg
  have f1 := frozen_of_row w g 1 _ _ hg
  simp at q0 q1 q2
  have hr := and_u24 (IntKind.u64.wrap (IntKind.u64.wrap (hh * 6364136223846793005) + 1442695040888963407) / 8589934592)
  have HR := Lib.hid hr
  clear hr
  go_enter Tryz.func21, Tryz.ntmps21
  go_wp2_with fail
  rw [IntWalk.wrap64_in _ ⟨by have := HR.out.1; omega, by have := HR.out.2; omega⟩]
  generalize bits BinOp.and IntKind.u64 (IntKind.u64.wrap (IntKind.u64.wrap (hh * 6364136223846793005) + 1442695040888963407) / 8589934592) 16777215 = X at HR ⊢
  obtain ⟨X0, X1⟩ := HR.out
  by_cases hlt : i < m
  · obtain ⟨b, off, rfl, hbg, hz⟩ := hB (by omega)
    obtain ⟨i, rfl⟩ := Int.eq_ofNat_of_zero_le i0
    obtain ⟨z, hz0, z0, z1⟩ := hz i (by omega)
    clear hz
    go_quiet (fail)
    have HB := Lib.hid hB
    clear hB
    have e1 : IntKind.i64.wrap (X + z) = X + z := IntWalk.i64_in _ (by omega)
    have e2 : IntKind.i64.wrap z = z := IntWalk.i64_in _ (by omega)
    have p1 : 0 ≤ X + z := by omega
    go_wp2_with fail
    go_quiet (fail)
    clear e1 e2
    go_wp2_with fail
    go_ret
    have hgs : g < w.heap.size := (Array.getElem?_eq_some_iff.1 hg).1
    have K := (((Keeps.refl (· = g) w).set (p := ⟨g, 2, none⟩) rfl (.int .u64 (IntKind.u64.wrap (IntKind.u64.wrap (hh * 6364136223846793005) + 1442695040888963407)))).drewN nq)
    have K2 := K.set (p := ⟨g, 1, none⟩) rfl (.int .i64 ((i : Int) + 1))
    refine ⟨_, rfl, Int.emod_nonneg _ (by omega), Int.emod_lt_of_pos _ h0, Cur.of (i := (i : Int) + 1) HB.out hm ?_ hgs (heap_setCell_same _ g 1 _ _ _ (heap_setCell_same w g 2 _ _ _ hg)) (by omega) (by omega), ?_⟩
    · exact (((Keeps.refl (· = g) w).set (p := ⟨g, 2, none⟩) rfl _).drewN _).set (p := ⟨g, 1, none⟩) rfl _
    · exact (((Keeps.refl (· = g) w).set (p := ⟨g, 2, none⟩) rfl _).drewN _).set (p := ⟨g, 1, none⟩) rfl _
  · go_quiet (fail)
    go_wp2_with fail
    go_ret
    have hgs : g < w.heap.size := (Array.getElem?_eq_some_iff.1 hg).1
    refine ⟨_, rfl, Int.emod_nonneg _ (by omega), Int.emod_lt_of_pos _ h0, Cur.of (i := i) hB hm ?_ hgs (heap_setCell_same w g 2 _ _ _ hg) (by omega) (by omega), ?_⟩
    · exact ((Keeps.refl (· = g) w).set (p := ⟨g, 2, none⟩) rfl _).drewN _
    · exact ((Keeps.refl (· = g) w).set (p := ⟨g, 2, none⟩) rfl _).drewN _
end Go.Proofs.YtdkmhaghnfhajaaGreat
