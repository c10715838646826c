/-
  States where they lie: their lists as cells; read; the call's own.
-/
import Derived.Test.YtlmjjkljkmalpaaMFxPe
import Derived.StillTailTactics
import Derived.Test.YtlmjjkljkmalpaaMFxPbG
import Derived.Test.YtlmjjkljkmalpaaMFxA6
import Derived.ProofKit
import Derived.Deep.Slices
import Derived.Deep.Fields
import Derived.ChangeSame
import Derived.JoinedOf
import Derived.Test.YtlmjjkljkmalpaaMFxRa
import Derived.Test.YtlmjjkljkmalpaaMFxAv
/- Pf -/
set_option linter.unusedVariables false
namespace Go.Proofs.Ytlmjjkljkmalpaa
open Go.RowKit

theorem RowF.far {w : World} {g N : Nat} {x : Nat → Int} (h : RowF w g N x) {p : Addr} (hne : p.block ≠ g) (v : Value) : RowF (w.setCell p v) g N x := fun j hj =>
  ⟨(World.cell?_setCell_other _ _ _ _ (fun e => hne (by rw [e]))).trans (h j hj).1, by rw [World.frozen?_setCell]; exact (h j hj).2⟩
theorem RowF.alloc {w : World} {g N : Nat} {x : Nat → Int} (h : RowF w g N x) (hg : g < w.heap.size) (o : Obj) : RowF (w.alloc o) g N x := h.below ((Below.refl _ _).alloc (Nat.le_refl _) o) hg
theorem RowF.sl {w : World} {g N k n B : Nat} {x : Nat → Int} (h : RowF w g N x) (hN : n * k ≤ N) (hg : g < B) : Sl w B k (some ⟨g, 0, none⟩) n x := fun _ =>
  ⟨g, 0, rfl, hg, fun j hj => by rw [Nat.zero_add]; exact (h j (by omega)).1⟩

/-- A plan of new memory. -/
structure NewPlan (w w' : World) (d : PlanD) (g0 g1 g2 g3 : Nat) : Prop where
  l0 : w.heap.size ≤ g0
  l1 : g0 < g1
  l2 : g1 < g2
  l3 : g2 < g3
  l4 : g3 < w'.heap.size
  R0 : RowF w' g0 (d.n0 * 4) d.x0
  R1 : RowF w' g1 d.n1 d.x1
  R2 : RowF w' g2 (d.n2 * 2) d.x2
  R3 : RowF w' g3 d.n3 d.x3
abbrev newPlanV (d : PlanD) (g0 g1 g2 g3 : Nat) : Value := planV (some ⟨g0, 0, none⟩) (some ⟨g1, 0, none⟩) (some ⟨g2, 0, none⟩) (some ⟨g3, 0, none⟩) d.n0 d.n0 d.n1 d.n1 d.n2 d.n2 d.n3 d.n3 d.l d.p d.t
def MadePlan (w : World) (d : PlanD) (e : Ending) (w' : World) : Prop :=
  ∃ g0 g1 g2 g3, e = .returned (newPlanV d g0 g1 g2 g3) ∧ NewPlan w w' d g0 g1 g2 g3 ∧ Below w.heap.size w w'

theorem heap_size_alloc_ (w : World) (o : Obj) : (w.alloc o).heap.size = w.heap.size + 1 := by simp

/-- The three blocks of a copy under way: what came in, the answer's cell, the copy. -/
structure TP (w w1 : World) (cs zs os : Array Value) : Prop where
  A : Own w w1 w.heap.size cs
  Z : Own w w1 (w.heap.size + 1) zs
  O : Own w w1 (w.heap.size + 1 + 1) os
theorem TP.start (w : World) (cs zs os : Array Value) (t t' t'' : TypeId) : TP w (((w.alloc (.cells cs t)).alloc (.cells zs t')).alloc (.cells os t'')) cs zs os := by
  have h1 := Own.box w cs t
  have h2 := Own.box2 h1.K zs t'
  have h3 := Own.box2 h2.K os t''
  simp only [heap_size_alloc_] at h2 h3
  exact ⟨(h1.alloc _).alloc _, h2.alloc _, h3⟩
theorem TP.step {w w1 w2 : World} {cs zs os : Array Value} (h : TP w w1 cs zs os) (hb : Below w1.heap.size w1 w2) : TP w w2 cs zs os := ⟨h.A.step hb, h.Z.step hb, h.O.step hb⟩
theorem TP.set {w w1 : World} {cs zs os : Array Value} (h : TP w w1 cs zs os) {i : Nat} (hi : i < os.size) (v : Value) : TP w (w1.setCell ⟨w.heap.size + 1 + 1, i, none⟩ v) cs zs (os.setIfInBounds i v) :=
  ⟨h.A.far (by simp; omega) (by simp; omega) v, h.Z.far (by simp; omega) (by simp) v, h.O.set (by omega) hi v⟩

set_option maxHeartbeats 2000000 in
theorem toPlan_any (v : Value) (d : PlanD) (w : World) (h : IsPlan w w.heap.size v d) (h0 : d.n0 ≤ 1048576) (h1 : d.n1 ≤ 1048576) (h2 : d.n2 ≤ 1048576) (h3 : d.n3 ≤ 1048576) :
    Calls Try.prog 8 #[v] w (MadePlan w d) := by
  obtain ⟨⟨A0, A1, A2, A3, c0, c1, c2, c3, rfl, s0, s1, s2, s3⟩, b0, b1, b2, b3⟩ := h
  obtain ⟨n0, n1, n2, n3, x0, x1, x2, x3, l, p, t⟩ := d
  dsimp only at *
  have S0 := Lib.hid s0
  have S1 := Lib.hid s1
  have S2 := Lib.hid s2
  have S3 := Lib.hid s3
  have B0 := Lib.hid h0
  have B1 := Lib.hid h1
  have B2 := Lib.hid h2
  have B3 := Lib.hid h3
  clear s0 s1 s2 s3 b0 b1 b2 b3 h0 h1 h2 h3
  go_enter Try.func8, Try.ntmps8
  go_wp2_with fail
  have T1 := TP.start w (planC A0 A1 A2 A3 n0 c0 n1 c1 n2 c2 n3 c3 l p t) (planC none none none none 0 0 0 0 0 0 0 0 0 0 0) (planC none none none none 0 0 0 0 0 0 0 0 0 0 0) 27 40 40
  refine (toPodS_any _ _ _ x0 _ ((S0.out.below T1.A.K (Nat.le_refl _)).more T1.A.K.size) B0.out).mono ?_
  rintro e w2 ⟨g0, rfl, hg0, hz0, R0, hb2⟩
  have T2 := T1.step hb2
  have l0 : w.heap.size + 1 + 1 < g0 := Nat.lt_of_lt_of_le T1.O.z hg0
  have hC := T2.A.C
  have hD := T2.O.C
  have hF := T2.O.F
  clear hb2 hg0 T1
  go_wp2_with fail
  have T1 := T2.set (i := 0) (by simp) (.slice (some ⟨g0, 0, none⟩) n0 n0)
  have R0 := R0.far (p := ⟨w.heap.size + 1 + 1, 0, none⟩) (by simp; omega) (.slice (some ⟨g0, 0, none⟩) n0 n0)
  refine (toInt64S_any _ _ _ x1 _ ((S1.out.below T1.A.K (Nat.le_refl _)).more T1.A.K.size) B1.out).mono ?_
  rintro e w3 ⟨g1, rfl, hg1, hz1, R1, hb2⟩
  clear hC hD hF T2
  have T2 := T1.step hb2
  have l1 : g0 < g1 := by simp [World.setCell] at hg1; omega
  have R0 := R0.below hb2 (by simpa [World.setCell] using hz0)
  have hC := T2.A.C
  have hD := T2.O.C
  have hF := T2.O.F
  clear hb2 hg1 T1 hz0
  go_wp2_with fail
  have T1 := T2.set (i := 1) (by simp) (.slice (some ⟨g1, 0, none⟩) n1 n1)
  have R0 := R0.far (p := ⟨w.heap.size + 1 + 1, 1, none⟩) (by simp; omega) (.slice (some ⟨g1, 0, none⟩) n1 n1)
  have R1 := R1.far (p := ⟨w.heap.size + 1 + 1, 1, none⟩) (by simp; omega) (.slice (some ⟨g1, 0, none⟩) n1 n1)
  refine (toMountS_any _ _ _ x2 _ ((S2.out.below T1.A.K (Nat.le_refl _)).more T1.A.K.size) B2.out).mono ?_
  rintro e w4 ⟨g2, rfl, hg2, hz2, R2, hb2⟩
  clear hC hD hF T2
  have T2 := T1.step hb2
  have l2 : g1 < g2 := by simp [World.setCell] at hg2; omega
  have R0 := R0.below hb2 (by simp [World.setCell]; omega)
  have R1 := R1.below hb2 (by simp [World.setCell]; omega)
  have hC := T2.A.C
  have hD := T2.O.C
  have hF := T2.O.F
  clear hb2 hg2 T1 hz1
  go_wp2_with fail
  have T1 := T2.set (i := 2) (by simp) (.slice (some ⟨g2, 0, none⟩) n2 n2)
  have R0 := R0.far (p := ⟨w.heap.size + 1 + 1, 2, none⟩) (by simp; omega) (.slice (some ⟨g2, 0, none⟩) n2 n2)
  have R1 := R1.far (p := ⟨w.heap.size + 1 + 1, 2, none⟩) (by simp; omega) (.slice (some ⟨g2, 0, none⟩) n2 n2)
  have R2 := R2.far (p := ⟨w.heap.size + 1 + 1, 2, none⟩) (by simp; omega) (.slice (some ⟨g2, 0, none⟩) n2 n2)
  refine (toDeviceS_any _ _ _ x3 _ ((S3.out.below T1.A.K (Nat.le_refl _)).more T1.A.K.size) B3.out).mono ?_
  rintro e w5 ⟨g3, rfl, hg3, hz3, R3, hb2⟩
  clear hC hD hF T2
  have T2 := T1.step hb2
  have l3 : g2 < g3 := by simp [World.setCell] at hg3; omega
  have R0 := R0.below hb2 (by simp [World.setCell]; omega)
  have R1 := R1.below hb2 (by simp [World.setCell]; omega)
  have R2 := R2.below hb2 (by simp [World.setCell]; omega)
  clear hb2 hg3 hz2
  have T2 : TP w w5 (planC A0 A1 A2 A3 n0 c0 n1 c1 n2 c2 n3 c3 l p t) (planC none none none none 0 0 0 0 0 0 0 0 0 0 0)
      (planC (some ⟨g0, 0, none⟩) (some ⟨g1, 0, none⟩) (some ⟨g2, 0, none⟩) none n0 n0 n1 n1 n2 n2 0 0 0 0 0) := T2
  have hC := T2.A.C
  have hD := T2.O.C
  have hF := T2.O.F
  have hE := T2.Z.C
  have hG := T2.Z.F
  go_wp2_with fail
  refine bodyPost_ret (v := newPlanV ⟨n0, n1, n2, n3, x0, x1, x2, x3, l, p, t⟩ g0 g1 g2 g3) ?_ rfl ⟨g0, g1, g2, g3, rfl, ⟨by omega, l1, l2, l3, by simp [World.setCell]; exact hz3, ?_, ?_, ?_, ?_⟩, ?_⟩
  · simp [results, Try.results8, go_sem, hE]
  · iterate 11 (refine RowF.far ?_ (by simp; omega) _)
    exact R0
  · iterate 11 (refine RowF.far ?_ (by simp; omega) _)
    exact R1
  · iterate 11 (refine RowF.far ?_ (by simp; omega) _)
    exact R2
  · iterate 11 (refine RowF.far ?_ (by simp; omega) _)
    exact R3
  · iterate 11 (refine Below.setCell ?_ (by simp <;> omega) _)
    exact T2.A.K

theorem NewPlan.is {w w' : World} {d : PlanD} {g0 g1 g2 g3 : Nat} (h : NewPlan w w' d g0 g1 g2 g3) (b0 : d.n0 ≤ maxLen) (b1 : d.n1 ≤ maxLen) (b2 : d.n2 ≤ maxLen) (b3 : d.n3 ≤ maxLen) :
    IsPlan w' w'.heap.size (newPlanV d g0 g1 g2 g3) d := by
  obtain ⟨l0, l1, l2, l3, l4, R0, R1, R2, R3⟩ := h
  exact ⟨⟨_, _, _, _, _, _, _, _, rfl, R0.sl (by omega) (by omega), R1.sl (by omega) (by omega), R2.sl (by omega) (by omega), R3.sl (by omega) (by omega)⟩, b0, b1, b2, b3⟩

set_option maxRecDepth 100000 in
set_option maxHeartbeats 1000000 in
theorem eqPodS_same (A A' : Option Addr) (n c c' : Nat) (x : Nat → Int) (w : World) (s : Sl w w.heap.size 4 A n x) (s' : Sl w w.heap.size 4 A' n x) (hn : n ≤ maxLen) :
    Calls Try.prog 36 #[.slice A n c, .slice A' n c'] w fun e w' => e = .returned (.bool true) ∧ Below w.heap.size w w' := by
  unfold maxLen at hn
  have S := Lib.hid s
  have S' := Lib.hid s'
  clear s s'
  go_enter Try.func36, Try.ntmps36
  go_wp2
  go_loopw [5] (fun i wr => ∃ k : Nat, k ≤ n ∧ i = .int .i64 k ∧ Below w.heap.size w wr) (fun i _ => n - (intOf i).toNat)
  case atStart => exact ⟨0, Nat.zero_le _, rfl, Below.refl _ _⟩
  case round =>
    obtain ⟨k, hk, rfl, K⟩ := hrel
    by_cases hlt : k < n
    · obtain ⟨b, off, rfl, hb, q0, q1, q2, q3⟩ := ((S.out.below K (Nat.le_refl _)).more K.size).cell4 hlt
      obtain ⟨b', off', rfl, hb', r0, r1, r2, r3⟩ := ((S'.out.below K (Nat.le_refl _)).more K.size).cell4 hlt
      go_wp2_with fail
      go_still_tail 8, (by kernel_rfl)
      have K2 : Below w.heap.size w wr.drew := K.drew
      change wpList _ _ _ _ _ wr.drew
      clear q0 q1 q2 q3 r0 r1 r2 r3 hb hb' K
      generalize wr.drew = w2 at K2 ⊢
      go_wp2_with (go_at_call 56; refine (eqPod_same _ _ _ _ _).mono ?_; rintro e w3 ⟨rfl, hb3⟩)
      exact ⟨⟨k + 1, by omega, by go_num, K2.trans (hb3.mono K2.size)⟩, by simp [intOf]; omega⟩
    · obtain rfl : k = n := by omega
      go_wp2
      go_ret
      exact ⟨rfl, K⟩

set_option maxRecDepth 100000 in
set_option maxHeartbeats 1000000 in
theorem eqMountS_same (A A' : Option Addr) (n c c' : Nat) (x : Nat → Int) (w : World) (s : Sl w w.heap.size 2 A n x) (s' : Sl w w.heap.size 2 A' n x) (hn : n ≤ maxLen) :
    Calls Try.prog 38 #[.slice A n c, .slice A' n c'] w fun e w' => e = .returned (.bool true) ∧ Below w.heap.size w w' := by
  unfold maxLen at hn
  have S := Lib.hid s
  have S' := Lib.hid s'
  clear s s'
  go_enter Try.func38, Try.ntmps38
  go_wp2
  go_loopw [5] (fun i wr => ∃ k : Nat, k ≤ n ∧ i = .int .i64 k ∧ Below w.heap.size w wr) (fun i _ => n - (intOf i).toNat)
  case atStart => exact ⟨0, Nat.zero_le _, rfl, Below.refl _ _⟩
  case round =>
    obtain ⟨k, hk, rfl, K⟩ := hrel
    by_cases hlt : k < n
    · obtain ⟨b, off, rfl, hb, q0, q1⟩ := ((S.out.below K (Nat.le_refl _)).more K.size).cell2 hlt
      obtain ⟨b', off', rfl, hb', r0, r1⟩ := ((S'.out.below K (Nat.le_refl _)).more K.size).cell2 hlt
      go_wp2_with fail
      go_still_tail 8, (by kernel_rfl)
      have K2 : Below w.heap.size w wr.drew := K.drew
      change wpList _ _ _ _ _ wr.drew
      clear q0 q1 r0 r1 hb hb' K
      generalize wr.drew = w2 at K2 ⊢
      go_wp2_with (go_at_call 57; refine (eqMount_same _ _ _).mono ?_; rintro e w3 ⟨rfl, hb3⟩)
      exact ⟨⟨k + 1, by omega, by go_num, K2.trans (hb3.mono K2.size)⟩, by simp [intOf]; omega⟩
    · obtain rfl : k = n := by omega
      go_wp2
      go_ret
      exact ⟨rfl, K⟩

set_option maxRecDepth 100000 in
set_option maxHeartbeats 1000000 in
theorem eqDeviceS_same (A A' : Option Addr) (n c c' : Nat) (x : Nat → Int) (w : World) (s : Sl w w.heap.size 1 A n x) (s' : Sl w w.heap.size 1 A' n x) (hn : n ≤ maxLen) :
    Calls Try.prog 39 #[.slice A n c, .slice A' n c'] w fun e w' => e = .returned (.bool true) ∧ Below w.heap.size w w' := by
  unfold maxLen at hn
  have S := Lib.hid s
  have S' := Lib.hid s'
  clear s s'
  go_enter Try.func39, Try.ntmps39
  go_wp2
  go_loopw [5] (fun i wr => ∃ k : Nat, k ≤ n ∧ i = .int .i64 k ∧ Below w.heap.size w wr) (fun i _ => n - (intOf i).toNat)
  case atStart => exact ⟨0, Nat.zero_le _, rfl, Below.refl _ _⟩
  case round =>
    obtain ⟨k, hk, rfl, K⟩ := hrel
    by_cases hlt : k < n
    · obtain ⟨b, off, rfl, hb, q0⟩ := ((S.out.below K (Nat.le_refl _)).more K.size).cell1 hlt
      obtain ⟨b', off', rfl, hb', r0⟩ := ((S'.out.below K (Nat.le_refl _)).more K.size).cell1 hlt
      go_wp2_with fail
      go_still_tail 8, (by kernel_rfl)
      have K2 : Below w.heap.size w wr.drew := K.drew
      change wpList _ _ _ _ _ wr.drew
      clear q0 r0 hb hb' K
      generalize wr.drew = w2 at K2 ⊢
      go_wp2_with (go_at_call 58; refine (eqDevice_same _ _).mono ?_; rintro e w3 ⟨rfl, hb3⟩)
      exact ⟨⟨k + 1, by omega, by go_num, K2.trans (hb3.mono K2.size)⟩, by simp [intOf]; omega⟩
    · obtain rfl : k = n := by omega
      go_wp2
      go_ret
      exact ⟨rfl, K⟩

set_option maxHeartbeats 1000000 in
theorem eqInt64S_same (A A' : Option Addr) (n c c' : Nat) (x : Nat → Int) (w : World) (s : Sl w w.heap.size 1 A n x) (s' : Sl w w.heap.size 1 A' n x) (hn : n ≤ maxLen) :
    Calls Try.prog 37 #[.slice A n c, .slice A' n c'] w fun e w' => e = .returned (.bool true) ∧ Below w.heap.size w w' := by
  unfold maxLen at hn
  have S := Lib.hid s
  have S' := Lib.hid s'
  clear s s'
  go_enter Try.func37, Try.ntmps37
  go_wp2
  go_loopw [5] (fun i wr => ∃ k : Nat, k ≤ n ∧ i = .int .i64 k ∧ Below w.heap.size w wr) (fun i _ => n - (intOf i).toNat)
  case atStart => exact ⟨0, Nat.zero_le _, rfl, Below.refl _ _⟩
  case round =>
    obtain ⟨k, hk, rfl, K⟩ := hrel
    by_cases hlt : k < n
    · obtain ⟨b, off, rfl, hb, q0⟩ := ((S.out.below K (Nat.le_refl _)).more K.size).cell1 hlt
      obtain ⟨b', off', rfl, hb', r0⟩ := ((S'.out.below K (Nat.le_refl _)).more K.size).cell1 hlt
      go_wp2_with fail
      go_quiet (fail)
      go_wp2
      exact ⟨⟨k + 1, by omega, by go_num, below_drewN K _⟩, by simp [intOf]; omega⟩
    · obtain rfl : k = n := by omega
      go_wp2
      go_ret
      exact ⟨rfl, K⟩

/-- Two blocks of what came in. -/
structure Two (w w1 : World) (cs os : Array Value) : Prop where
  A : Own w w1 w.heap.size cs
  O : Own w w1 (w.heap.size + 1) os
theorem Two.start (w : World) (cs os : Array Value) (t t' : TypeId) : Two w ((w.alloc (.cells cs t)).alloc (.cells os t')) cs os := by
  have h1 := Own.box w cs t
  have h2 := Own.box2 h1.K os t'
  simp only [heap_size_alloc_] at h2
  exact ⟨h1.alloc _, h2⟩
theorem Two.step {w w1 w2 : World} {cs os : Array Value} (h : Two w w1 cs os) (hb : Below w1.heap.size w1 w2) : Two w w2 cs os := ⟨h.A.step hb, h.O.step hb⟩

set_option maxHeartbeats 1000000 in
theorem eqPlan_same (v v' : Value) (d : PlanD) (w : World) (h : IsPlan w w.heap.size v d) (h' : IsPlan w w.heap.size v' d) :
    Calls Try.prog 11 #[v, v'] w fun e w' => e = .returned (.bool true) ∧ Below w.heap.size w w' := by
  obtain ⟨⟨A0, A1, A2, A3, c0, c1, c2, c3, rfl, s0, s1, s2, s3⟩, b0, b1, b2, b3⟩ := h
  obtain ⟨⟨A0', A1', A2', A3', c0', c1', c2', c3', rfl, s0', s1', s2', s3'⟩, -, -, -, -⟩ := h'
  obtain ⟨n0, n1, n2, n3, x0, x1, x2, x3, l, p, t⟩ := d
  dsimp only at *
  have S0 := Lib.hid s0
  have S1 := Lib.hid s1
  have S2 := Lib.hid s2
  have S3 := Lib.hid s3
  have S0' := Lib.hid s0'
  have S1' := Lib.hid s1'
  have S2' := Lib.hid s2'
  have S3' := Lib.hid s3'
  have B0 := Lib.hid b0
  have B1 := Lib.hid b1
  have B2 := Lib.hid b2
  have B3 := Lib.hid b3
  clear s0 s1 s2 s3 s0' s1' s2' s3' b0 b1 b2 b3
  go_enter Try.func11, Try.ntmps11
  go_wp2_with fail
  have T1 := Two.start w (planC A0 A1 A2 A3 n0 c0 n1 c1 n2 c2 n3 c3 l p t) (planC A0' A1' A2' A3' n0 c0' n1 c1' n2 c2' n3 c3' l p t) 40 40
  refine (eqPodS_same _ _ _ _ _ x0 _ (S0.out.own T1.A) (S0'.out.own T1.A) B0.out).mono ?_
  rintro e w2 ⟨rfl, hb⟩
  have T2 := T1.step hb
  have hC := T2.A.C
  have hD := T2.O.C
  clear hb T1
  go_wp2_with fail
  refine (eqInt64S_same _ _ _ _ _ x1 _ (S1.out.own T2.A) (S1'.out.own T2.A) B1.out).mono ?_
  rintro e w3 ⟨rfl, hb⟩
  have T3 := T2.step hb
  clear hC hD hb T2
  have hC := T3.A.C
  have hD := T3.O.C
  go_wp2_with fail
  refine (eqMountS_same _ _ _ _ _ x2 _ (S2.out.own T3.A) (S2'.out.own T3.A) B2.out).mono ?_
  rintro e w4 ⟨rfl, hb⟩
  have T4 := T3.step hb
  clear hC hD hb T3
  have hC := T4.A.C
  have hD := T4.O.C
  go_wp2_with fail
  refine (eqDeviceS_same _ _ _ _ _ x3 _ (S3.out.own T4.A) (S3'.out.own T4.A) B3.out).mono ?_
  rintro e w5 ⟨rfl, hb⟩
  have T5 := T4.step hb
  clear hC hD hb T4
  have hC := T5.A.C
  have hD := T5.O.C
  go_wp2_with fail
  go_ret
  exact ⟨rfl, T5.A.K⟩

def szP (d : PlanD) : Int := if d.n0 + d.n1 + d.n2 + d.n3 ≤ 1048576 then 1048576 - d.n0 - d.n1 - d.n2 - d.n3 else -1
set_option maxHeartbeats 2000000 in
theorem szPlan_any (v : Value) (d : PlanD) (w : World) (h : IsPlan w w.heap.size v d) :
    Calls Try.prog 5 #[v, .int .i64 1048576] w fun e w' => e = .returned (.int .i64 (szP d)) ∧ Below w.heap.size w w' := by
  obtain ⟨⟨A0, A1, A2, A3, c0, c1, c2, c3, rfl, -, -, -, -⟩, b0, b1, b2, b3⟩ := h
  obtain ⟨n0, n1, n2, n3, x0, x1, x2, x3, l, p, t⟩ := d
  dsimp only at *
  go_enter Try.func5, Try.ntmps5
  go_wp2_with fail
  refine (szPodS_any _ _ _ _ _ b0 (by omega) (by omega)).mono ?_
  rintro e w2 ⟨rfl, rfl⟩
  by_cases h0 : (n0 : Int) ≤ 1048576
  · rw [szI_pos h0]
    go_wp2_with fail
    refine (szInt64S_any _ _ _ _ _ b1 (by omega) (by omega)).mono ?_
    rintro e w2 ⟨rfl, rfl⟩
    by_cases h1 : (n1 : Int) ≤ 1048576 - n0
    · rw [szI_pos h1]
      go_wp2_with fail
      refine (szMountS_any _ _ _ _ _ b2 (by omega) (by omega)).mono ?_
      rintro e w2 ⟨rfl, rfl⟩
      by_cases h2 : (n2 : Int) ≤ 1048576 - n0 - n1
      · rw [szI_pos h2]
        go_wp2_with fail
        refine (szDeviceS_any _ _ _ _ _ b3 (by omega) (by omega)).mono ?_
        rintro e w2 ⟨rfl, rfl⟩
        by_cases h3 : (n3 : Int) ≤ 1048576 - n0 - n1 - n2
        · rw [szI_pos h3]
          go_wp2_with fail
          go_ret
          exact ⟨ret_int (by simp only [szP]; rw [if_pos (by omega)]), (Below.refl _ _).alloc (Nat.le_refl _) _⟩
        · rw [szI_neg h3]
          go_wp2
          go_ret
          exact ⟨ret_int (by simp only [szP]; rw [if_neg (by omega)]), (Below.refl _ _).alloc (Nat.le_refl _) _⟩
      · rw [szI_neg h2]
        go_wp2
        go_ret
        exact ⟨ret_int (by simp only [szP]; rw [if_neg (by omega)]), (Below.refl _ _).alloc (Nat.le_refl _) _⟩
    · rw [szI_neg h1]
      go_wp2
      go_ret
      exact ⟨ret_int (by simp only [szP]; rw [if_neg (by omega)]), (Below.refl _ _).alloc (Nat.le_refl _) _⟩
  · rw [szI_neg h0]
    go_wp2
    go_ret
    exact ⟨ret_int (by simp only [szP]; rw [if_neg (by omega)]), (Below.refl _ _).alloc (Nat.le_refl _) _⟩
end Go.Proofs.Ytlmjjkljkmalpaa
/- PjA -/
set_option linter.unusedVariables false
namespace Go.Proofs.Ytlmjjkljkmalpaa
open Go.RowKit
/-- The indexes below n at which f is the wanted number, rising. -/
def hits (n : Nat) (f : Nat → Int) (wanted : Int) : List Int := ((List.range n).filter (fun i => f i == wanted)).map (fun i : Nat => (i : Int))
/-- What the chapter asks of these functions: the indexes, or nothing where the plan is not right. -/
def found (d : PlanD) (n : Nat) (f : Nat → Int) (wanted : Int) : List Int := if planOkB d then hits n f wanted else []
end Go.Proofs.Ytlmjjkljkmalpaa
/- Pj -/
set_option linter.unusedVariables false
namespace Go.Proofs.Ytlmjjkljkmalpaa
open Go.RowKit

end Go.Proofs.Ytlmjjkljkmalpaa
/- Pl -/
set_option linter.unusedVariables false
namespace Go.Proofs.Ytlmjjkljkmalpaa
open Go.RowKit

end Go.Proofs.Ytlmjjkljkmalpaa
/- Ph -/
set_option linter.unusedVariables false
namespace Go.Proofs.Ytlmjjkljkmalpaa
open Go.ChangeShapes Go.WideShapes Go.ChangeAt Go.RowKit Go.Deep

theorem fields_plan : ∃ fs, Try.prog.underlying 27 = some (.struct fs) ∧ oneCellFields Try.prog fs = true ∧ Try.prog.cellsOf 27 = fs.size ∧ fs.size = 7 ∧
    fs.map (·.type) = #[22, 23, 24, 25, 2, 2, 2] :=
  ⟨_, Try.underlying27, by kernel_rfl, by kernel_rfl, by kernel_rfl, by kernel_rfl⟩

theorem fs_pod : ∃ fs, Try.prog.underlying 87 = some (.struct fs) ∧ oneCellFields Try.prog fs = true ∧ intFields Try.prog fs = true ∧ fs.size = 4 := ⟨_, Try.underlying87, by kernel_rfl, by kernel_rfl, by kernel_rfl⟩
theorem fs_mount : ∃ fs, Try.prog.underlying 89 = some (.struct fs) ∧ oneCellFields Try.prog fs = true ∧ intFields Try.prog fs = true ∧ fs.size = 2 := ⟨_, Try.underlying89, by kernel_rfl, by kernel_rfl, by kernel_rfl⟩
theorem fs_device : ∃ fs, Try.prog.underlying 91 = some (.struct fs) ∧ oneCellFields Try.prog fs = true ∧ intFields Try.prog fs = true ∧ fs.size = 1 := ⟨_, Try.underlying91, by kernel_rfl, by kernel_rfl, by kernel_rfl⟩

set_option maxRecDepth 100000 in
theorem open_plan {H : Type} {enc : TypeId × Value → H} {W : World} {spare : Nat → Bool} {held : Bool} {r : Reach} {b0 : Nat} {v : Value} {d : DataW H} {p : List MemPlace}
    (hv : Value.okWide Try.prog W r b0 27 v) (h : DataW.Trod enc Try.prog W 0 spare held 27 v d p) : ∃ D : PlanD, IsPlan W W.heap.size v D := by
  obtain ⟨fs, hu, hone, hC, h7, hts⟩ := fields_plan
  obtain ⟨cs, rfl, hsz, n, hf⟩ := agg_of_trod hu hone hC hv h
  rw [h7] at hsz
  obtain ⟨f0, j0, t0⟩ := at_of_map hts (j := 0) rfl
  obtain ⟨f1, j1, t1⟩ := at_of_map hts (j := 1) rfl
  obtain ⟨f2, j2, t2⟩ := at_of_map hts (j := 2) rfl
  obtain ⟨f3, j3, t3⟩ := at_of_map hts (j := 3) rfl
  obtain ⟨f4, j4, t4⟩ := at_of_map hts (j := 4) rfl
  obtain ⟨f5, j5, t5⟩ := at_of_map hts (j := 5) rfl
  obtain ⟨f6, j6, t6⟩ := at_of_map hts (j := 6) rfl
  obtain ⟨y0, h0⟩ := hf 0 f0 j0
  obtain ⟨y1, h1⟩ := hf 1 f1 j1
  obtain ⟨y2, h2⟩ := hf 2 f2 j2
  obtain ⟨y3, h3⟩ := hf 3 f3 j3
  obtain ⟨y4, h4⟩ := hf 4 f4 j4
  obtain ⟨y5, h5⟩ := hf 5 f5 j5
  obtain ⟨y6, h6⟩ := hf 6 f6 j6
  rw [t0] at h0
  rw [t1] at h1
  rw [t2] at h2
  rw [t3] at h3
  rw [t4] at h4
  rw [t5] at h5
  rw [t6] at h6
  obtain ⟨ps, ps1, ps2, ps3, ps4⟩ := fs_pod
  obtain ⟨ms, ms1, ms2, ms3, ms4⟩ := fs_mount
  obtain ⟨ds, ds1, ds2, ds3, ds4⟩ := fs_device
  obtain ⟨A0, n0, c0, X0, e0, b0, s0⟩ := sl_structs Try.underlying22 ps1 ps2 ps3 (by kernel_rfl) ps4 (by omega) h0
  obtain ⟨A1, n1, c1, X1, e1, b1, s1⟩ := sl_ints Try.underlying23 Try.underlying2 (by kernel_rfl) h1
  obtain ⟨A2, n2, c2, X2, e2, b2, s2⟩ := sl_structs Try.underlying24 ms1 ms2 ms3 (by kernel_rfl) ms4 (by omega) h2
  obtain ⟨A3, n3, c3, X3, e3, b3, s3⟩ := sl_structs Try.underlying25 ds1 ds2 ds3 (by kernel_rfl) ds4 (by omega) h3
  obtain ⟨l, e4, _, _⟩ := DataW.trod_int Try.underlying2 h4
  obtain ⟨p, e5, _, _⟩ := DataW.trod_int Try.underlying2 h5
  obtain ⟨t, e6, _, _⟩ := DataW.trod_int Try.underlying2 h6
  injection e4 with e4 _
  injection e5 with e5 _
  injection e6 with e6 _
  refine ⟨⟨n0, n1, n2, n3, X0, X1, X2, X3, l, p, t⟩, ⟨A0, A1, A2, A3, c0, c1, c2, c3, ?_, s0, s1, s2, s3⟩, b0, b1, b2, b3⟩
  congr 1
  apply Array.ext (by simp [hsz])
  intro i hi _
  match i, hi with
  | 0, _ => exact e0
  | 1, _ => exact e1
  | 2, _ => exact e2
  | 3, _ => exact e3
  | 4, _ => exact e4
  | 5, _ => exact e5
  | 6, _ => exact e6
  | k + 7, hi => omega

end Go.Proofs.Ytlmjjkljkmalpaa
/- Qa -/
set_option linter.unusedVariables false
namespace Go.Proofs.Ytlmjjkljkmalpaa
open Go.RowKit

/-- The numbers below n at which p is true, rising. -/
def picks (n : Nat) (p : Nat → Bool) : List Int := ((List.range n).filter p).map (fun i : Nat => (i : Int))
def podsL (d : PlanD) (b : Int) : List Int := found d d.n0 (fun i => d.x0 (i * 4 + 1)) b
def hasB (d : PlanD) (b : Nat) : Bool := decide (0 < (podsL d b).length)
def bandsL (d : PlanD) : List Int := picks 6 (hasB d)
def firstOver (l : List Int) (b : Int) : Int := (l.find? (fun x => decide (b < x))).getD (-1)
def nextL (d : PlanD) (b : Int) : Int := firstOver (bandsL d) b
def timeOf (d : PlanD) (i : Nat) : Int := d.x0 (i * 4 + 3) + d.x0 (i * 4 + 2) + 4
def most (d : PlanD) (l : List Int) : Int := l.foldl (fun n i => max n (timeOf d i.toNat)) 0
def bandT (d : PlanD) (b : Int) : Int := if planOkB d then most d (podsL d b) else -1
def sumB : Nat → (Nat → Int) → Int
  | 0, _ => 0
  | k + 1, f => sumB k f + f k
/-- The number ahead of the i-th, -1 ahead of the first. -/
def ahead (l : List Int) (i : Nat) : Int := if i = 0 then -1 else l.getD (i - 1) 0
end Go.Proofs.Ytlmjjkljkmalpaa
/- Ta -/
set_option linter.unusedVariables false
namespace Go.Proofs.Ytlmjjkljkmalpaa
open Go.RowKit

structure StD where
  ph : Int
  co : Bool
  ck : Int
  bo : Int
  ba : Int
  lb : Int
  pods : List (Int × Int)
  mnts : List (Bool × Int)
  devs : List Bool
  lks : List Int
  gd : Int
  pr : Int
deriving DecidableEq

def zeroS : StD := ⟨0, false, 0, 0, 0, 0, [], [], [], [], 0, 0⟩

/-- A state is right. -/
structure StOk (d : PlanD) (s : StD) : Prop where
  plan : planOkB d = true
  ph : 0 ≤ s.ph ∧ s.ph ≤ 8
  co : s.co = decide (s.ph ≠ 0)
  ck : 0 ≤ s.ck ∧ s.ck ≤ 1000000
  bo : 0 ≤ s.bo ∧ s.bo ≤ 1000000
  ba : 0 ≤ s.ba ∧ s.ba ≤ 6
  lb : 0 ≤ s.lb ∧ s.lb ≤ 1000000
  gd : 0 ≤ s.gd ∧ s.gd ≤ s.pr
  pr : s.pr ≤ d.t
  np : s.pods.length = d.n0
  nm : s.mnts.length = d.n2
  nd : s.devs.length = d.n3
  pods : ∀ q ∈ s.pods, (0 ≤ q.1 ∧ q.1 ≤ 6) ∧ (0 ≤ q.2 ∧ q.2 ≤ 1000000)
  mnts : ∀ q ∈ s.mnts, (0 ≤ q.2 ∧ q.2 ≤ 5) ∧ (q.1 = false → q.2 = 0)
  lks : ∀ x ∈ s.lks, 0 ≤ x ∧ x ≤ 7
  rise : s.lks.Pairwise (· < ·)

def stOkB (d : PlanD) (s : StD) : Bool :=
  planOkB d && inB s.ph 0 8 && (s.co == decide (s.ph ≠ 0)) && inB s.ck 0 1000000 && inB s.bo 0 1000000 && inB s.ba 0 6 && inB s.lb 0 1000000 && inB s.gd 0 s.pr && decide (s.pr ≤ d.t) &&
  decide (s.pods.length = d.n0) && decide (s.mnts.length = d.n2) && decide (s.devs.length = d.n3) &&
  s.pods.all (fun q => inB q.1 0 6 && inB q.2 0 1000000) && s.mnts.all (fun q => inB q.2 0 5 && (q.1 || q.2 == 0)) && s.lks.all (fun x => inB x 0 7) && decide (s.lks.Pairwise (· < ·))
theorem stOkB_iff {d : PlanD} {s : StD} : stOkB d s = true ↔ StOk d s := by
  simp only [stOkB, Bool.and_eq_true, inB_true, beq_iff_eq, decide_eq_true_eq, List.all_eq_true, Bool.or_eq_true]
  constructor
  · rintro ⟨⟨⟨⟨⟨⟨⟨⟨⟨⟨⟨⟨⟨⟨⟨h1, h2⟩, h3⟩, h4⟩, h5⟩, h6⟩, h7⟩, h8⟩, h9⟩, h10⟩, h11⟩, h12⟩, h13⟩, h14⟩, h15⟩, h16⟩
    exact ⟨h1, h2, h3, h4, h5, h6, h7, h8, h9, h10, h11, h12, h13, fun q hq => ⟨(h14 q hq).1, fun hf => ((h14 q hq).2.resolve_left (by rw [hf]; decide))⟩, h15, h16⟩
  · rintro ⟨h1, h2, h3, h4, h5, h6, h7, h8, h9, h10, h11, h12, h13, h14, h15, h16⟩
    refine ⟨⟨⟨⟨⟨⟨⟨⟨⟨⟨⟨⟨⟨⟨⟨h1, h2⟩, h3⟩, h4⟩, h5⟩, h6⟩, h7⟩, h8⟩, h9⟩, h10⟩, h11⟩, h12⟩, h13⟩, fun q hq => ⟨(h14 q hq).1, ?_⟩⟩, h15⟩, h16⟩
    cases hb : q.1
    · exact .inr ((h14 q hq).2 hb)
    · exact .inl rfl

def aliveB (x : Int) : Bool := inB x 0 3
/-- A list that rises, with a number, and without it. -/
def withN (n : Int) : List Int → List Int
  | [] => [n]
  | x :: l => if n < x then n :: x :: l else if n = x then x :: l else x :: withN n l
def withoutN (l : List Int) (n : Int) : List Int := l.filter (fun x => x != n)
/-- What one record makes of a state. -/
def applyR (s : StD) (r : RecD) : StD :=
  if r.k = 1 then (if r.a = 0 then { s with ph := 0, co := false, gd := 0, pr := 0, lks := [] } else { s with ph := r.a, co := true })
  else if r.k = 2 then { s with pods := s.pods.set r.a.toNat (r.b, s.ck) }
  else if r.k = 3 then { s with mnts := s.mnts.set r.a.toNat ((s.mnts.getD r.a.toNat (false, 0)).1, r.b) }
  else if r.k = 4 then { s with mnts := s.mnts.set r.a.toNat (false, 0) }
  else if r.k = 5 then { s with devs := s.devs.set r.a.toNat false }
  else if r.k = 6 then { s with lks := withN r.a s.lks }
  else if r.k = 7 then { s with lks := withoutN s.lks r.a }
  else if r.k = 8 then { s with ck := r.a }
  else if r.k = 9 then { s with ba := r.a }
  else if r.k = 10 then { s with bo := r.a }
  else if r.k = 11 then { s with lb := r.a }
  else if r.k = 12 then { s with gd := r.a, pr := r.b }
  else s
section
variable {d : PlanD} {s : StD} (h : StOk d s)
include h
end

end Go.Proofs.Ytlmjjkljkmalpaa
/- Tb -/
set_option linter.unusedVariables false
namespace Go.Proofs.Ytlmjjkljkmalpaa
open Go.RowKit

end Go.Proofs.Ytlmjjkljkmalpaa
/- Tc -/
set_option linter.unusedVariables false
namespace Go.Proofs.Ytlmjjkljkmalpaa
open Go.RowKit

def podAt (s : StD) (i : Nat) : Int × Int := s.pods.getD i (0, 0)
def mntAt (s : StD) (i : Nat) : Bool × Int := s.mnts.getD i (false, 0)
def devAt (s : StD) (i : Nat) : Bool := s.devs.getD i false
def bandOf (d : PlanD) (i : Nat) : Int := d.x0 (i * 4 + 1)
def graceOf (d : PlanD) (i : Nat) : Int := d.x0 (i * 4 + 2)
def hookOf (d : PlanD) (i : Nat) : Int := d.x0 (i * 4 + 3)
def mpod (d : PlanD) (i : Nat) : Nat := (d.x2 (i * 2)).toNat
def mpar (d : PlanD) (i : Nat) : Int := d.x2 (i * 2 + 1)
def dmnt (d : PlanD) (i : Nat) : Nat := (d.x3 i).toNat

def nextB (d : PlanD) (b : Int) : Int := if nextL d b < 0 then 6 else nextL d b
def freeB (d : PlanD) (s : StD) (i : Nat) : Bool := (mntAt s i).1 && !aliveB (podAt s (mpod d i)).1 && (List.range d.n2).all fun j => !(decide (mpar d j = i) && (mntAt s j).1)
def heldB (s : StD) : Bool := s.mnts.any (fun q => q.1) || s.devs.any (fun x => x)
/-- How many ticks of its own a pod needs at most. -/
def potP (hook grace : Int) (q : Int × Int) (ck : Int) : Int :=
  if q.1 = 0 then 2 + hook + max 1 grace else if q.1 = 1 then max 1 (q.2 + hook - ck) + max 1 grace + 1 else if q.1 = 2 then max 1 (q.2 + grace - ck) + 1 else if q.1 = 3 then 1 else 0
end Go.Proofs.Ytlmjjkljkmalpaa
/- Td -/
set_option linter.unusedVariables false
namespace Go.Proofs.Ytlmjjkljkmalpaa
open Go.RowKit

structure HoldsP (d : PlanD) (s : StD) : Prop where
  pod : ∀ i, i < d.n2 → (mntAt s i).1 = false → aliveB (podAt s (mpod d i)).1 = false
  par : ∀ i, i < d.n2 → 0 ≤ mpar d i → (mntAt s i).1 = true → (mntAt s (mpar d i).toNat).1 = true
  dev : ∀ i, i < d.n3 → devAt s i = false → (mntAt s (dmnt d i)).1 = false
structure Going (d : PlanD) (s : StD) : Prop where
  ok : StOk d s
  ph : 3 ≤ s.ph ∧ s.ph ≤ 5
  since : ∀ i, i < d.n0 → (podAt s i).2 ≤ s.ck
  later : s.ph = 3 → ∀ i, i < d.n0 → s.ba < bandOf d i → aliveB (podAt s i).1 = true → (podAt s i).1 = 0
  earlier : s.ph = 3 → ∀ i, i < d.n0 → bandOf d i < s.ba → aliveB (podAt s i).1 = false
  dead : 4 ≤ s.ph → ∀ i, i < d.n0 → aliveB (podAt s i).1 = false
  holds : HoldsP d s
  down : s.ph = 5 → heldB s = false
def over (d : PlanD) (b : Int) : Int := sumB 6 (fun k => if b < k then bandT d k else 0)
def mw (q : Bool × Int) : Int := if q.1 then q.2 + 1 else 0
def relW (d : PlanD) (s : StD) : Int := sumB d.n2 (fun i => mw (mntAt s i)) + sumB d.n3 (fun i => if devAt s i then 1 else 0)
structure Left (d : PlanD) (s : StD) (n : Int) : Prop where
  shut : s.ph = 3 → ∃ lw pw : Int, 0 ≤ lw ∧ 0 ≤ pw ∧ (s.lks = [] ∨ s.lb - 1 - s.ck ≤ lw) ∧ (∀ i, i < d.n0 → bandOf d i = s.ba → aliveB (podAt s i).1 = true → potP (hookOf d i) (graceOf d i) (podAt s i) s.ck ≤ pw) ∧
    lw + pw + (if s.ba = 6 then 0 else 1 + over d s.ba) + 6 * d.n2 + d.n3 + 2 ≤ n
  rel : s.ph = 4 → relW d s + 1 ≤ n
  done : s.ph = 5 → 0 ≤ n

theorem mount_facts {d : PlanD} (h : planOkB d = true) {i : Nat} (hi : i < d.n2) : mpod d i < d.n0 ∧ -1 ≤ mpar d i ∧ mpar d i < i := by
  simp only [planOkB, Bool.and_eq_true] at h
  have := allB_true.1 h.1.2 i hi
  simp only [mountB, Bool.and_eq_true, inB_true] at this
  unfold mpod mpar
  omega
end Go.Proofs.Ytlmjjkljkmalpaa
/- Te -/
set_option linter.unusedVariables false
namespace Go.Proofs.Ytlmjjkljkmalpaa
open Go.RowKit

section
variable {d : PlanD} {s : StD}
end

end Go.Proofs.Ytlmjjkljkmalpaa
/- Tf -/
set_option linter.unusedVariables false
namespace Go.Proofs.Ytlmjjkljkmalpaa
open Go.RowKit

/-- Ahead of the shutting: who is alive runs. -/
structure Before (d : PlanD) (s : StD) : Prop where
  ok : StOk d s
  since : ∀ i, i < d.n0 → (podAt s i).2 ≤ s.ck
  runs : ∀ i, i < d.n0 → aliveB (podAt s i).1 = true → (podAt s i).1 = 0
  holds : HoldsP d s
def shutS (d : PlanD) (s : StD) : StD := { s with lb := min (s.ck + d.l) 1000000, ba := nextB d (-1), ph := 3, co := true }
/-- A state in which one pod is in another state, since now. -/
def podS (s : StD) (i : Nat) (st : Int) : StD := { s with pods := s.pods.set i (st, s.ck) }
end Go.Proofs.Ytlmjjkljkmalpaa
/- Tg -/
set_option linter.unusedVariables false
namespace Go.Proofs.Ytlmjjkljkmalpaa
open Go.RowKit

/-- Chapter 8, of a right state. -/
def healthyN (d : PlanD) (s : StD) (g : Int) : Int := ((List.range d.n0).countP fun i => decide (d.x0 (i * 4) = g) && decide ((podAt s i).1 = 0) : Nat)
def mayEvictB (d : PlanD) (s : StD) (i : Int) : Bool :=
  decide (s.ph = 2) && inB i 0 (d.n0 - 1) && decide ((podAt s i.toNat).1 = 0) && decide (d.x1 (d.x0 (i.toNat * 4)).toNat < healthyN d s (d.x0 (i.toNat * 4)))

end Go.Proofs.Ytlmjjkljkmalpaa
/- Ua -/
set_option linter.unusedVariables false
namespace Go.Proofs.Ytlmjjkljkmalpaa
open Go.RowKit

def podCs : List (Int × Int) → List Value
  | [] => []
  | q :: l => .int .i64 q.1 :: .int .i64 q.2 :: podCs l
def mntCs : List (Bool × Int) → List Value
  | [] => []
  | q :: l => .bool q.1 :: .int .i64 q.2 :: mntCs l
def devCs (l : List Bool) : List Value := l.map Value.bool
def lkCs (l : List Int) : List Value := l.map (Value.int .i64)
theorem podCs_len (l : List (Int × Int)) : (podCs l).length = l.length * 2 := by
  induction l with
  | nil => rfl
  | cons q l ih => simp only [podCs, List.length_cons, ih]; omega
theorem mntCs_len (l : List (Bool × Int)) : (mntCs l).length = l.length * 2 := by
  induction l with
  | nil => rfl
  | cons q l ih => simp only [mntCs, List.length_cons, ih]; omega
theorem devCs_len (l : List Bool) : (devCs l).length = l.length * 1 := by simp [devCs]
theorem lkCs_len (l : List Int) : (lkCs l).length = l.length * 1 := by simp [lkCs]
def podA (l : List (Int × Int)) (i : Nat) : Int × Int := l.getD i (0, 0)
def mntA (l : List (Bool × Int)) (i : Nat) : Bool × Int := l.getD i (false, 0)
def devA (l : List Bool) (i : Nat) : Bool := l.getD i false
def lkA (l : List Int) (i : Nat) : Int := l.getD i 0
theorem podCs_at (l : List (Int × Int)) {i : Nat} (hi : i < l.length) : (podCs l)[i * 2]? = some (.int .i64 (podA l i).1) ∧ (podCs l)[i * 2 + 1]? = some (.int .i64 (podA l i).2) := by
  induction l generalizing i with
  | nil => exact absurd hi (Nat.not_lt_zero _)
  | cons q l ih =>
    cases i with
    | zero => exact ⟨rfl, rfl⟩
    | succ i =>
      have := ih (i := i) (by simpa using hi)
      rw [show (i + 1) * 2 = i * 2 + 1 + 1 by omega]
      simpa [podCs, podA] using this
theorem mntCs_at (l : List (Bool × Int)) {i : Nat} (hi : i < l.length) : (mntCs l)[i * 2]? = some (.bool (mntA l i).1) ∧ (mntCs l)[i * 2 + 1]? = some (.int .i64 (mntA l i).2) := by
  induction l generalizing i with
  | nil => exact absurd hi (Nat.not_lt_zero _)
  | cons q l ih =>
    cases i with
    | zero => exact ⟨rfl, rfl⟩
    | succ i =>
      have := ih (i := i) (by simpa using hi)
      rw [show (i + 1) * 2 = i * 2 + 1 + 1 by omega]
      simpa [mntCs, mntA] using this
theorem devCs_at (l : List Bool) {i : Nat} (hi : i < l.length) : (devCs l)[i]? = some (.bool (devA l i)) := by simp [devCs, devA, List.getD, hi]
theorem lkCs_at (l : List Int) {i : Nat} (hi : i < l.length) : (lkCs l)[i]? = some (.int .i64 (lkA l i)) := by simp [lkCs, lkA, List.getD, hi]
/-- The cells of a state. -/
abbrev stC (A0 A1 A2 A3 : Option Addr) (n0 c0 n1 c1 n2 c2 n3 c3 : Nat) (ph : Int) (co : Bool) (ck bo ba lb gd pr : Int) : Array Value :=
  #[.int .i64 ph, .bool co, .int .i64 ck, .int .i64 bo, .int .i64 ba, .int .i64 lb, .slice A0 n0 c0, .slice A1 n1 c1, .slice A2 n2 c2, .slice A3 n3 c3, .int .i64 gd, .int .i64 pr]
/-- A state that can be read below block B. -/
structure IsSt (w : World) (B : Nat) (v : Value) (s : StD) : Prop where
  it : ∃ A0 A1 A2 A3 c0 c1 c2 c3, v = .agg (stC A0 A1 A2 A3 s.pods.length c0 s.mnts.length c1 s.devs.length c2 s.lks.length c3 s.ph s.co s.ck s.bo s.ba s.lb s.gd s.pr) ∧
    SlV w B 2 A0 s.pods.length (podCs s.pods) ∧ SlV w B 2 A1 s.mnts.length (mntCs s.mnts) ∧ SlV w B 1 A2 s.devs.length (devCs s.devs) ∧ SlV w B 1 A3 s.lks.length (lkCs s.lks)
  b0 : s.pods.length ≤ maxLen
  b1 : s.mnts.length ≤ maxLen
  b2 : s.devs.length ≤ maxLen
  b3 : s.lks.length ≤ maxLen
theorem IsSt.below {w w' : World} {B B' : Nat} {v : Value} {s : StD} (h : IsSt w B v s) (hb : Below B' w w') (hB : B ≤ B') : IsSt w' B v s := by
  obtain ⟨⟨A0, A1, A2, A3, c0, c1, c2, c3, hv, h0, h1, h2, h3⟩, b0, b1, b2, b3⟩ := h
  exact ⟨⟨A0, A1, A2, A3, c0, c1, c2, c3, hv, h0.below hb hB, h1.below hb hB, h2.below hb hB, h3.below hb hB⟩, b0, b1, b2, b3⟩
theorem IsSt.more {w : World} {B B' : Nat} {v : Value} {s : StD} (h : IsSt w B v s) (hB : B ≤ B') : IsSt w B' v s := by
  obtain ⟨⟨A0, A1, A2, A3, c0, c1, c2, c3, hv, h0, h1, h2, h3⟩, b0, b1, b2, b3⟩ := h
  exact ⟨⟨A0, A1, A2, A3, c0, c1, c2, c3, hv, h0.more hB, h1.more hB, h2.more hB, h3.more hB⟩, b0, b1, b2, b3⟩
theorem IsSt.go {w w' : World} {v : Value} {s : StD} (h : IsSt w w.heap.size v s) (hb : Below w.heap.size w w') : IsSt w' w'.heap.size v s := (h.below hb (Nat.le_refl _)).more hb.size
/-- A state of the call's own: each list in a block of its own, from block B on. -/
structure OwnSt (w : World) (B : Nat) (v : Value) (s : StD) : Prop where
  it : ∃ v0 v1 v2 v3, v = .agg #[.int .i64 s.ph, .bool s.co, .int .i64 s.ck, .int .i64 s.bo, .int .i64 s.ba, .int .i64 s.lb, v0, v1, v2, v3, .int .i64 s.gd, .int .i64 s.pr] ∧
    w.ownsRow B 70 2 v0 s.pods.length (podCs s.pods) ∧ w.ownsRow B 68 2 v1 s.mnts.length (mntCs s.mnts) ∧
    w.ownsRow B 4 1 v2 s.devs.length (devCs s.devs) ∧ w.ownsRow B 2 1 v3 s.lks.length (lkCs s.lks)
theorem OwnSt.below {w w' : World} {B : Nat} {v : Value} {s : StD} (h : OwnSt w B v s) (hb : Below w.heap.size w w') : OwnSt w' B v s := by
  obtain ⟨v0, v1, v2, v3, hv, h0, h1, h2, h3⟩ := h.it
  exact ⟨v0, v1, v2, v3, hv, ownsRow_below h0 hb, ownsRow_below h1 hb, ownsRow_below h2 hb, ownsRow_below h3 hb⟩
theorem OwnSt.base {w : World} {B B' : Nat} {v : Value} {s : StD} (h : OwnSt w B v s) (hB : B' ≤ B) : OwnSt w B' v s := by
  obtain ⟨v0, v1, v2, v3, hv, h0, h1, h2, h3⟩ := h.it
  exact ⟨v0, v1, v2, v3, hv, ownsRow_base h0 hB, ownsRow_base h1 hB, ownsRow_base h2 hB, ownsRow_base h3 hB⟩
theorem OwnSt.st {w : World} {B : Nat} {v : Value} {s : StD} (h : OwnSt w B v s) : IsSt w w.heap.size v s := by
  obtain ⟨v0, v1, v2, v3, rfl, h0, h1, h2, h3⟩ := h.it
  obtain ⟨A0, c0, g0, rfl, -, -, -, -, -, s0, b0⟩ := open_row h0
  obtain ⟨A1, c1, g1, rfl, -, -, -, -, -, s1, b1⟩ := open_row h1
  obtain ⟨A2, c2, g2, rfl, -, -, -, -, -, s2, b2⟩ := open_row h2
  obtain ⟨A3, c3, g3, rfl, -, -, -, -, -, s3, b3⟩ := open_row h3
  exact ⟨⟨A0, A1, A2, A3, c0, c1, c2, c3, rfl, s0, s1, s2, s3⟩, b0, b1, b2, b3⟩
theorem OwnSt.zero (w : World) (B : Nat) : OwnSt w B (.agg (stC none none none none 0 0 0 0 0 0 0 0 0 false 0 0 0 0 0 0)) zeroS :=
  ⟨_, _, _, _, rfl, World.ownsRow_nil _ _ _ _, World.ownsRow_nil _ _ _ _, World.ownsRow_nil _ _ _ _, World.ownsRow_nil _ _ _ _⟩
end Go.Proofs.Ytlmjjkljkmalpaa
