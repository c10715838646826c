/-
  The law's own copy of a plan, its comparison, its size.
-/
import Derived.Test.YtlmllnbibiihhaaMZxPe
import Derived.StillTailTactics
/- Pf -/
set_option linter.unusedVariables false
namespace Go.Proofs.Ytlmllnbibiihhaa
open Go.RowKit

theorem RowF.far {w : World} {g N : Nat} {x : Nat → Int} (h : RowF w g N x) {p : Addr} (hne : p.block ≠ g) (v : Value) : RowF (w.setCell p v) g N x := fun j hj =>
  ⟨(World.cell?_setCell_other _ _ _ _ (fun e => hne (by rw [e]))).trans (h j hj).1, by rw [World.frozen?_setCell]; exact (h j hj).2⟩
theorem RowF.alloc {w : World} {g N : Nat} {x : Nat → Int} (h : RowF w g N x) (hg : g < w.heap.size) (o : Obj) : RowF (w.alloc o) g N x := h.below ((Below.refl _ _).alloc (Nat.le_refl _) o) hg
theorem RowF.sl {w : World} {g N k n B : Nat} {x : Nat → Int} (h : RowF w g N x) (hN : n * k ≤ N) (hg : g < B) : Sl w B k (some ⟨g, 0, none⟩) n x := fun _ =>
  ⟨g, 0, rfl, hg, fun j hj => by rw [Nat.zero_add]; exact (h j (by omega)).1⟩

/-- A plan of new memory. -/
structure NewPlan (w w' : World) (d : PlanD) (g0 g1 g2 g3 : Nat) : Prop where
  l0 : w.heap.size ≤ g0
  l1 : g0 < g1
  l2 : g1 < g2
  l3 : g2 < g3
  l4 : g3 < w'.heap.size
  R0 : RowF w' g0 (d.n0 * 4) d.x0
  R1 : RowF w' g1 d.n1 d.x1
  R2 : RowF w' g2 (d.n2 * 2) d.x2
  R3 : RowF w' g3 d.n3 d.x3
abbrev newPlanV (d : PlanD) (g0 g1 g2 g3 : Nat) : Value := planV (some ⟨g0, 0, none⟩) (some ⟨g1, 0, none⟩) (some ⟨g2, 0, none⟩) (some ⟨g3, 0, none⟩) d.n0 d.n0 d.n1 d.n1 d.n2 d.n2 d.n3 d.n3 d.l d.p d.t
def MadePlan (w : World) (d : PlanD) (e : Ending) (w' : World) : Prop :=
  ∃ g0 g1 g2 g3, e = .returned (newPlanV d g0 g1 g2 g3) ∧ NewPlan w w' d g0 g1 g2 g3 ∧ Below w.heap.size w w'

theorem heap_size_alloc_ (w : World) (o : Obj) : (w.alloc o).heap.size = w.heap.size + 1 := by simp

/-- The three blocks of a copy under way: what came in, the answer's cell, the copy. -/
structure TP (w w1 : World) (cs zs os : Array Value) : Prop where
  A : Own w w1 w.heap.size cs
  Z : Own w w1 (w.heap.size + 1) zs
  O : Own w w1 (w.heap.size + 1 + 1) os
theorem TP.start (w : World) (cs zs os : Array Value) (t t' t'' : TypeId) : TP w (((w.alloc (.cells cs t)).alloc (.cells zs t')).alloc (.cells os t'')) cs zs os := by
  have h1 := Own.box w cs t
  have h2 := Own.box2 h1.K zs t'
  have h3 := Own.box2 h2.K os t''
  simp only [heap_size_alloc_] at h2 h3
  exact ⟨(h1.alloc _).alloc _, h2.alloc _, h3⟩
theorem TP.step {w w1 w2 : World} {cs zs os : Array Value} (h : TP w w1 cs zs os) (hb : Below w1.heap.size w1 w2) : TP w w2 cs zs os := ⟨h.A.step hb, h.Z.step hb, h.O.step hb⟩
theorem TP.set {w w1 : World} {cs zs os : Array Value} (h : TP w w1 cs zs os) {i : Nat} (hi : i < os.size) (v : Value) : TP w (w1.setCell ⟨w.heap.size + 1 + 1, i, none⟩ v) cs zs (os.setIfInBounds i v) :=
  ⟨h.A.far (by simp; omega) (by simp; omega) v, h.Z.far (by simp; omega) (by simp) v, h.O.set (by omega) hi v⟩

set_option maxHeartbeats 2000000 in
theorem toPlan_any (v : Value) (d : PlanD) (w : World) (h : IsPlan w w.heap.size v d) (h0 : d.n0 ≤ 1048576) (h1 : d.n1 ≤ 1048576) (h2 : d.n2 ≤ 1048576) (h3 : d.n3 ≤ 1048576) :
    Calls Try.prog 8 #[v] w (MadePlan w d) := by
  obtain ⟨⟨A0, A1, A2, A3, c0, c1, c2, c3, rfl, s0, s1, s2, s3⟩, b0, b1, b2, b3⟩ := h
  obtain ⟨n0, n1, n2, n3, x0, x1, x2, x3, l, p, t⟩ := d
  dsimp only at *
  have S0 := Lib.hid s0
  have S1 := Lib.hid s1
  have S2 := Lib.hid s2
  have S3 := Lib.hid s3
  have B0 := Lib.hid h0
  have B1 := Lib.hid h1
  have B2 := Lib.hid h2
  have B3 := Lib.hid h3
  clear s0 s1 s2 s3 b0 b1 b2 b3 h0 h1 h2 h3
  go_enter Try.func8, Try.ntmps8
  go_wp2_with fail
  have T1 := TP.start w (planC A0 A1 A2 A3 n0 c0 n1 c1 n2 c2 n3 c3 l p t) (planC none none none none 0 0 0 0 0 0 0 0 0 0 0) (planC none none none none 0 0 0 0 0 0 0 0 0 0 0) 27 42 42
  refine (toPodS_any _ _ _ x0 _ ((S0.out.below T1.A.K (Nat.le_refl _)).more T1.A.K.size) B0.out).mono ?_
  rintro e w2 ⟨g0, rfl, hg0, hz0, R0, hb2⟩
  have T2 := T1.step hb2
  have l0 : w.heap.size + 1 + 1 < g0 := Nat.lt_of_lt_of_le T1.O.z hg0
  have hC := T2.A.C
  have hD := T2.O.C
  have hF := T2.O.F
  clear hb2 hg0 T1
  go_wp2_with fail
  have T1 := T2.set (i := 0) (by simp) (.slice (some ⟨g0, 0, none⟩) n0 n0)
  have R0 := R0.far (p := ⟨w.heap.size + 1 + 1, 0, none⟩) (by simp; omega) (.slice (some ⟨g0, 0, none⟩) n0 n0)
  refine (toInt64S_any _ _ _ x1 _ ((S1.out.below T1.A.K (Nat.le_refl _)).more T1.A.K.size) B1.out).mono ?_
  rintro e w3 ⟨g1, rfl, hg1, hz1, R1, hb2⟩
  clear hC hD hF T2
  have T2 := T1.step hb2
  have l1 : g0 < g1 := by simp [World.setCell] at hg1; omega
  have R0 := R0.below hb2 (by simpa [World.setCell] using hz0)
  have hC := T2.A.C
  have hD := T2.O.C
  have hF := T2.O.F
  clear hb2 hg1 T1 hz0
  go_wp2_with fail
  have T1 := T2.set (i := 1) (by simp) (.slice (some ⟨g1, 0, none⟩) n1 n1)
  have R0 := R0.far (p := ⟨w.heap.size + 1 + 1, 1, none⟩) (by simp; omega) (.slice (some ⟨g1, 0, none⟩) n1 n1)
  have R1 := R1.far (p := ⟨w.heap.size + 1 + 1, 1, none⟩) (by simp; omega) (.slice (some ⟨g1, 0, none⟩) n1 n1)
  refine (toMountS_any _ _ _ x2 _ ((S2.out.below T1.A.K (Nat.le_refl _)).more T1.A.K.size) B2.out).mono ?_
  rintro e w4 ⟨g2, rfl, hg2, hz2, R2, hb2⟩
  clear hC hD hF T2
  have T2 := T1.step hb2
  have l2 : g1 < g2 := by simp [World.setCell] at hg2; omega
  have R0 := R0.below hb2 (by simp [World.setCell]; omega)
  have R1 := R1.below hb2 (by simp [World.setCell]; omega)
  have hC := T2.A.C
  have hD := T2.O.C
  have hF := T2.O.F
  clear hb2 hg2 T1 hz1
  go_wp2_with fail
  have T1 := T2.set (i := 2) (by simp) (.slice (some ⟨g2, 0, none⟩) n2 n2)
  have R0 := R0.far (p := ⟨w.heap.size + 1 + 1, 2, none⟩) (by simp; omega) (.slice (some ⟨g2, 0, none⟩) n2 n2)
  have R1 := R1.far (p := ⟨w.heap.size + 1 + 1, 2, none⟩) (by simp; omega) (.slice (some ⟨g2, 0, none⟩) n2 n2)
  have R2 := R2.far (p := ⟨w.heap.size + 1 + 1, 2, none⟩) (by simp; omega) (.slice (some ⟨g2, 0, none⟩) n2 n2)
  refine (toDeviceS_any _ _ _ x3 _ ((S3.out.below T1.A.K (Nat.le_refl _)).more T1.A.K.size) B3.out).mono ?_
  rintro e w5 ⟨g3, rfl, hg3, hz3, R3, hb2⟩
  clear hC hD hF T2
  have T2 := T1.step hb2
  have l3 : g2 < g3 := by simp [World.setCell] at hg3; omega
  have R0 := R0.below hb2 (by simp [World.setCell]; omega)
  have R1 := R1.below hb2 (by simp [World.setCell]; omega)
  have R2 := R2.below hb2 (by simp [World.setCell]; omega)
  clear hb2 hg3 hz2
  have T2 : TP w w5 (planC A0 A1 A2 A3 n0 c0 n1 c1 n2 c2 n3 c3 l p t) (planC none none none none 0 0 0 0 0 0 0 0 0 0 0)
      (planC (some ⟨g0, 0, none⟩) (some ⟨g1, 0, none⟩) (some ⟨g2, 0, none⟩) none n0 n0 n1 n1 n2 n2 0 0 0 0 0) := T2
  have hC := T2.A.C
  have hD := T2.O.C
  have hF := T2.O.F
  have hE := T2.Z.C
  have hG := T2.Z.F
  go_wp2_with fail
  refine bodyPost_ret (v := newPlanV ⟨n0, n1, n2, n3, x0, x1, x2, x3, l, p, t⟩ g0 g1 g2 g3) ?_ rfl ⟨g0, g1, g2, g3, rfl, ⟨by omega, l1, l2, l3, by simp [World.setCell]; exact hz3, ?_, ?_, ?_, ?_⟩, ?_⟩
  · simp [results, Try.results8, go_sem, hE]
  · iterate 11 (refine RowF.far ?_ (by simp; omega) _)
    exact R0
  · iterate 11 (refine RowF.far ?_ (by simp; omega) _)
    exact R1
  · iterate 11 (refine RowF.far ?_ (by simp; omega) _)
    exact R2
  · iterate 11 (refine RowF.far ?_ (by simp; omega) _)
    exact R3
  · iterate 11 (refine Below.setCell ?_ (by simp <;> omega) _)
    exact T2.A.K

theorem NewPlan.is {w w' : World} {d : PlanD} {g0 g1 g2 g3 : Nat} (h : NewPlan w w' d g0 g1 g2 g3) (b0 : d.n0 ≤ maxLen) (b1 : d.n1 ≤ maxLen) (b2 : d.n2 ≤ maxLen) (b3 : d.n3 ≤ maxLen) :
    IsPlan w' w'.heap.size (newPlanV d g0 g1 g2 g3) d := by
  obtain ⟨l0, l1, l2, l3, l4, R0, R1, R2, R3⟩ := h
  exact ⟨⟨_, _, _, _, _, _, _, _, rfl, R0.sl (by omega) (by omega), R1.sl (by omega) (by omega), R2.sl (by omega) (by omega), R3.sl (by omega) (by omega)⟩, b0, b1, b2, b3⟩

set_option maxRecDepth 100000 in
set_option maxHeartbeats 1000000 in
theorem eqPodS_same (A A' : Option Addr) (n c c' : Nat) (x : Nat → Int) (w : World) (s : Sl w w.heap.size 4 A n x) (s' : Sl w w.heap.size 4 A' n x) (hn : n ≤ maxLen) :
    Calls Try.prog 42 #[.slice A n c, .slice A' n c'] w fun e w' => e = .returned (.bool true) ∧ Below w.heap.size w w' := by
  unfold maxLen at hn
  have S := Lib.hid s
  have S' := Lib.hid s'
  clear s s'
  go_enter Try.func42, Try.ntmps42
  go_wp2
  go_loopw [5] (fun i wr => ∃ k : Nat, k ≤ n ∧ i = .int .i64 k ∧ Below w.heap.size w wr) (fun i _ => n - (intOf i).toNat)
  case atStart => exact ⟨0, Nat.zero_le _, rfl, Below.refl _ _⟩
  case round =>
    obtain ⟨k, hk, rfl, K⟩ := hrel
    by_cases hlt : k < n
    · obtain ⟨b, off, rfl, hb, q0, q1, q2, q3⟩ := ((S.out.below K (Nat.le_refl _)).more K.size).cell4 hlt
      obtain ⟨b', off', rfl, hb', r0, r1, r2, r3⟩ := ((S'.out.below K (Nat.le_refl _)).more K.size).cell4 hlt
      go_wp2_with fail
      go_still_tail 8, (by kernel_rfl)
      have K2 : Below w.heap.size w wr.drew := K.drew
      change wpList _ _ _ _ _ wr.drew
      clear q0 q1 q2 q3 r0 r1 r2 r3 hb hb' K
      generalize wr.drew = w2 at K2 ⊢
      go_wp2_with (go_at_call 70; refine (eqPod_same _ _ _ _ _).mono ?_; rintro e w3 ⟨rfl, hb3⟩)
      exact ⟨⟨k + 1, by omega, by go_num, K2.trans (hb3.mono K2.size)⟩, by simp [intOf]; omega⟩
    · obtain rfl : k = n := by omega
      go_wp2
      go_ret
      exact ⟨rfl, K⟩

set_option maxRecDepth 100000 in
set_option maxHeartbeats 1000000 in
theorem eqMountS_same (A A' : Option Addr) (n c c' : Nat) (x : Nat → Int) (w : World) (s : Sl w w.heap.size 2 A n x) (s' : Sl w w.heap.size 2 A' n x) (hn : n ≤ maxLen) :
    Calls Try.prog 44 #[.slice A n c, .slice A' n c'] w fun e w' => e = .returned (.bool true) ∧ Below w.heap.size w w' := by
  unfold maxLen at hn
  have S := Lib.hid s
  have S' := Lib.hid s'
  clear s s'
  go_enter Try.func44, Try.ntmps44
  go_wp2
  go_loopw [5] (fun i wr => ∃ k : Nat, k ≤ n ∧ i = .int .i64 k ∧ Below w.heap.size w wr) (fun i _ => n - (intOf i).toNat)
  case atStart => exact ⟨0, Nat.zero_le _, rfl, Below.refl _ _⟩
  case round =>
    obtain ⟨k, hk, rfl, K⟩ := hrel
    by_cases hlt : k < n
    · obtain ⟨b, off, rfl, hb, q0, q1⟩ := ((S.out.below K (Nat.le_refl _)).more K.size).cell2 hlt
      obtain ⟨b', off', rfl, hb', r0, r1⟩ := ((S'.out.below K (Nat.le_refl _)).more K.size).cell2 hlt
      go_wp2_with fail
      go_still_tail 8, (by kernel_rfl)
      have K2 : Below w.heap.size w wr.drew := K.drew
      change wpList _ _ _ _ _ wr.drew
      clear q0 q1 r0 r1 hb hb' K
      generalize wr.drew = w2 at K2 ⊢
      go_wp2_with (go_at_call 71; refine (eqMount_same _ _ _).mono ?_; rintro e w3 ⟨rfl, hb3⟩)
      exact ⟨⟨k + 1, by omega, by go_num, K2.trans (hb3.mono K2.size)⟩, by simp [intOf]; omega⟩
    · obtain rfl : k = n := by omega
      go_wp2
      go_ret
      exact ⟨rfl, K⟩

set_option maxRecDepth 100000 in
set_option maxHeartbeats 1000000 in
theorem eqDeviceS_same (A A' : Option Addr) (n c c' : Nat) (x : Nat → Int) (w : World) (s : Sl w w.heap.size 1 A n x) (s' : Sl w w.heap.size 1 A' n x) (hn : n ≤ maxLen) :
    Calls Try.prog 45 #[.slice A n c, .slice A' n c'] w fun e w' => e = .returned (.bool true) ∧ Below w.heap.size w w' := by
  unfold maxLen at hn
  have S := Lib.hid s
  have S' := Lib.hid s'
  clear s s'
  go_enter Try.func45, Try.ntmps45
  go_wp2
  go_loopw [5] (fun i wr => ∃ k : Nat, k ≤ n ∧ i = .int .i64 k ∧ Below w.heap.size w wr) (fun i _ => n - (intOf i).toNat)
  case atStart => exact ⟨0, Nat.zero_le _, rfl, Below.refl _ _⟩
  case round =>
    obtain ⟨k, hk, rfl, K⟩ := hrel
    by_cases hlt : k < n
    · obtain ⟨b, off, rfl, hb, q0⟩ := ((S.out.below K (Nat.le_refl _)).more K.size).cell1 hlt
      obtain ⟨b', off', rfl, hb', r0⟩ := ((S'.out.below K (Nat.le_refl _)).more K.size).cell1 hlt
      go_wp2_with fail
      go_still_tail 8, (by kernel_rfl)
      have K2 : Below w.heap.size w wr.drew := K.drew
      change wpList _ _ _ _ _ wr.drew
      clear q0 r0 hb hb' K
      generalize wr.drew = w2 at K2 ⊢
      go_wp2_with (go_at_call 72; refine (eqDevice_same _ _).mono ?_; rintro e w3 ⟨rfl, hb3⟩)
      exact ⟨⟨k + 1, by omega, by go_num, K2.trans (hb3.mono K2.size)⟩, by simp [intOf]; omega⟩
    · obtain rfl : k = n := by omega
      go_wp2
      go_ret
      exact ⟨rfl, K⟩

set_option maxHeartbeats 1000000 in
theorem eqInt64S_same (A A' : Option Addr) (n c c' : Nat) (x : Nat → Int) (w : World) (s : Sl w w.heap.size 1 A n x) (s' : Sl w w.heap.size 1 A' n x) (hn : n ≤ maxLen) :
    Calls Try.prog 43 #[.slice A n c, .slice A' n c'] w fun e w' => e = .returned (.bool true) ∧ Below w.heap.size w w' := by
  unfold maxLen at hn
  have S := Lib.hid s
  have S' := Lib.hid s'
  clear s s'
  go_enter Try.func43, Try.ntmps43
  go_wp2
  go_loopw [5] (fun i wr => ∃ k : Nat, k ≤ n ∧ i = .int .i64 k ∧ Below w.heap.size w wr) (fun i _ => n - (intOf i).toNat)
  case atStart => exact ⟨0, Nat.zero_le _, rfl, Below.refl _ _⟩
  case round =>
    obtain ⟨k, hk, rfl, K⟩ := hrel
    by_cases hlt : k < n
    · obtain ⟨b, off, rfl, hb, q0⟩ := ((S.out.below K (Nat.le_refl _)).more K.size).cell1 hlt
      obtain ⟨b', off', rfl, hb', r0⟩ := ((S'.out.below K (Nat.le_refl _)).more K.size).cell1 hlt
      go_wp2_with fail
      go_quiet (fail)
      go_wp2
      exact ⟨⟨k + 1, by omega, by go_num, below_drewN K _⟩, by simp [intOf]; omega⟩
    · obtain rfl : k = n := by omega
      go_wp2
      go_ret
      exact ⟨rfl, K⟩

/-- Two blocks of what came in. -/
structure Two (w w1 : World) (cs os : Array Value) : Prop where
  A : Own w w1 w.heap.size cs
  O : Own w w1 (w.heap.size + 1) os
theorem Two.start (w : World) (cs os : Array Value) (t t' : TypeId) : Two w ((w.alloc (.cells cs t)).alloc (.cells os t')) cs os := by
  have h1 := Own.box w cs t
  have h2 := Own.box2 h1.K os t'
  simp only [heap_size_alloc_] at h2
  exact ⟨h1.alloc _, h2⟩
theorem Two.step {w w1 w2 : World} {cs os : Array Value} (h : Two w w1 cs os) (hb : Below w1.heap.size w1 w2) : Two w w2 cs os := ⟨h.A.step hb, h.O.step hb⟩

set_option maxHeartbeats 1000000 in
theorem eqPlan_same (v v' : Value) (d : PlanD) (w : World) (h : IsPlan w w.heap.size v d) (h' : IsPlan w w.heap.size v' d) :
    Calls Try.prog 12 #[v, v'] w fun e w' => e = .returned (.bool true) ∧ Below w.heap.size w w' := by
  obtain ⟨⟨A0, A1, A2, A3, c0, c1, c2, c3, rfl, s0, s1, s2, s3⟩, b0, b1, b2, b3⟩ := h
  obtain ⟨⟨A0', A1', A2', A3', c0', c1', c2', c3', rfl, s0', s1', s2', s3'⟩, -, -, -, -⟩ := h'
  obtain ⟨n0, n1, n2, n3, x0, x1, x2, x3, l, p, t⟩ := d
  dsimp only at *
  have S0 := Lib.hid s0
  have S1 := Lib.hid s1
  have S2 := Lib.hid s2
  have S3 := Lib.hid s3
  have S0' := Lib.hid s0'
  have S1' := Lib.hid s1'
  have S2' := Lib.hid s2'
  have S3' := Lib.hid s3'
  have B0 := Lib.hid b0
  have B1 := Lib.hid b1
  have B2 := Lib.hid b2
  have B3 := Lib.hid b3
  clear s0 s1 s2 s3 s0' s1' s2' s3' b0 b1 b2 b3
  go_enter Try.func12, Try.ntmps12
  go_wp2_with fail
  have T1 := Two.start w (planC A0 A1 A2 A3 n0 c0 n1 c1 n2 c2 n3 c3 l p t) (planC A0' A1' A2' A3' n0 c0' n1 c1' n2 c2' n3 c3' l p t) 42 42
  refine (eqPodS_same _ _ _ _ _ x0 _ (S0.out.own T1.A) (S0'.out.own T1.A) B0.out).mono ?_
  rintro e w2 ⟨rfl, hb⟩
  have T2 := T1.step hb
  have hC := T2.A.C
  have hD := T2.O.C
  clear hb T1
  go_wp2_with fail
  refine (eqInt64S_same _ _ _ _ _ x1 _ (S1.out.own T2.A) (S1'.out.own T2.A) B1.out).mono ?_
  rintro e w3 ⟨rfl, hb⟩
  have T3 := T2.step hb
  clear hC hD hb T2
  have hC := T3.A.C
  have hD := T3.O.C
  go_wp2_with fail
  refine (eqMountS_same _ _ _ _ _ x2 _ (S2.out.own T3.A) (S2'.out.own T3.A) B2.out).mono ?_
  rintro e w4 ⟨rfl, hb⟩
  have T4 := T3.step hb
  clear hC hD hb T3
  have hC := T4.A.C
  have hD := T4.O.C
  go_wp2_with fail
  refine (eqDeviceS_same _ _ _ _ _ x3 _ (S3.out.own T4.A) (S3'.out.own T4.A) B3.out).mono ?_
  rintro e w5 ⟨rfl, hb⟩
  have T5 := T4.step hb
  clear hC hD hb T4
  have hC := T5.A.C
  have hD := T5.O.C
  go_wp2_with fail
  go_ret
  exact ⟨rfl, T5.A.K⟩

def szP (d : PlanD) : Int := if d.n0 + d.n1 + d.n2 + d.n3 ≤ 1048576 then 1048576 - d.n0 - d.n1 - d.n2 - d.n3 else -1
set_option maxHeartbeats 2000000 in
theorem szPlan_any (v : Value) (d : PlanD) (w : World) (h : IsPlan w w.heap.size v d) :
    Calls Try.prog 5 #[v, .int .i64 1048576] w fun e w' => e = .returned (.int .i64 (szP d)) ∧ Below w.heap.size w w' := by
  obtain ⟨⟨A0, A1, A2, A3, c0, c1, c2, c3, rfl, -, -, -, -⟩, b0, b1, b2, b3⟩ := h
  obtain ⟨n0, n1, n2, n3, x0, x1, x2, x3, l, p, t⟩ := d
  dsimp only at *
  go_enter Try.func5, Try.ntmps5
  go_wp2_with fail
  refine (szPodS_any _ _ _ _ _ b0 (by omega) (by omega)).mono ?_
  rintro e w2 ⟨rfl, rfl⟩
  by_cases h0 : (n0 : Int) ≤ 1048576
  · rw [szI_pos h0]
    go_wp2_with fail
    refine (szInt64S_any _ _ _ _ _ b1 (by omega) (by omega)).mono ?_
    rintro e w2 ⟨rfl, rfl⟩
    by_cases h1 : (n1 : Int) ≤ 1048576 - n0
    · rw [szI_pos h1]
      go_wp2_with fail
      refine (szMountS_any _ _ _ _ _ b2 (by omega) (by omega)).mono ?_
      rintro e w2 ⟨rfl, rfl⟩
      by_cases h2 : (n2 : Int) ≤ 1048576 - n0 - n1
      · rw [szI_pos h2]
        go_wp2_with fail
        refine (szDeviceS_any _ _ _ _ _ b3 (by omega) (by omega)).mono ?_
        rintro e w2 ⟨rfl, rfl⟩
        by_cases h3 : (n3 : Int) ≤ 1048576 - n0 - n1 - n2
        · rw [szI_pos h3]
          go_wp2_with fail
          go_ret
          exact ⟨ret_int (by simp only [szP]; rw [if_pos (by omega)]), (Below.refl _ _).alloc (Nat.le_refl _) _⟩
        · rw [szI_neg h3]
          go_wp2
          go_ret
          exact ⟨ret_int (by simp only [szP]; rw [if_neg (by omega)]), (Below.refl _ _).alloc (Nat.le_refl _) _⟩
      · rw [szI_neg h2]
        go_wp2
        go_ret
        exact ⟨ret_int (by simp only [szP]; rw [if_neg (by omega)]), (Below.refl _ _).alloc (Nat.le_refl _) _⟩
    · rw [szI_neg h1]
      go_wp2
      go_ret
      exact ⟨ret_int (by simp only [szP]; rw [if_neg (by omega)]), (Below.refl _ _).alloc (Nat.le_refl _) _⟩
  · rw [szI_neg h0]
    go_wp2
    go_ret
    exact ⟨ret_int (by simp only [szP]; rw [if_neg (by omega)]), (Below.refl _ _).alloc (Nat.le_refl _) _⟩
end Go.Proofs.Ytlmllnbibiihhaa
