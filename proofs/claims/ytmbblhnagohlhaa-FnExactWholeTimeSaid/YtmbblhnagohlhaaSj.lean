/-
  Walks of exact laws.
-/
import Derived.Test.YtmbblhnagohlhaaSi
import Derived.Test.YtmbblhnagohlhaaPk
import Derived.Test.YtmbblhnagohlhaaPmA
import Derived.Deep.RegionHeld3
set_option linter.unusedVariables false
namespace Go.Proofs.Ytmbblhnagohlhaa
open Go.RowKit

set_option maxRecDepth 100000 in
set_option maxHeartbeats 4000000 in
theorem lawNextBand (v : Value) (d : PlanD) (wanted : Int) (w : World) (h : IsPlan w w.heap.size v d) :
    Calls Try.prog 5 #[v, .int .i64 wanted] w fun e w' => e = .returned (.bool true) ∧ Below w.heap.size w w' := by
  have H := Lib.hid h
  obtain ⟨⟨A0, A1, A2, A3, c0, c1, c2, c3, rfl, s0, s1, s2, s3⟩, b0, b1, b2, b3⟩ := h
  clear s0 s1 s2 s3
  have B0 := Lib.hid b0
  have B1 := Lib.hid b1
  have B2 := Lib.hid b2
  have B3 := Lib.hid b3
  clear b0 b1 b2 b3
  go_enter Try.func5, Try.ntmps5
  go_wp2_with fail
  have X1 := Own.box w (planC A0 A1 A2 A3 d.n0 c0 d.n1 c1 d.n2 c2 d.n3 c3 d.l d.p d.t) 45
  refine (szPlan_any _ d _ ((H.out.below X1.K (Nat.le_refl _)).more X1.K.size)).mono ?_
  rintro e w2 ⟨rfl, hb⟩
  have X2 := X1.step hb
  have hC := X2.C
  clear hb X1
  by_cases hsz : d.n0 + d.n1 + d.n2 + d.n3 ≤ 1048576
  · have e0 : szP d = 1048576 - d.n0 - d.n1 - d.n2 - d.n3 := if_pos hsz
    rw [e0]
    clear e0
    go_wp2_with fail
    have HS := Lib.hid hsz
    have q0 : Hid (d.n0 ≤ 1048576) := by have := HS.out; exact Lib.hid (by omega)
    have q1 : Hid (d.n1 ≤ 1048576) := by have := HS.out; exact Lib.hid (by omega)
    have q2 : Hid (d.n2 ≤ 1048576) := by have := HS.out; exact Lib.hid (by omega)
    have q3 : Hid (d.n3 ≤ 1048576) := by have := HS.out; exact Lib.hid (by omega)
    clear hsz
    refine (toPlan_any _ d _ ((H.out.below X2.K (Nat.le_refl _)).more X2.K.size) q0.out q1.out q2.out q3.out).mono ?_
    rintro e w3 ⟨g0, g1, g2, g3, rfl, N3, hb⟩
    have X3 := X2.step hb
    have P3 := Lib.hid (N3.is B0.out B1.out B2.out B3.out)
    clear hb X2 hC N3
    have hC := X3.C
    go_wp2_with fail
    refine (xSpecNext _ d wanted P3.out q0.out q1.out q2.out q3.out).mono ?_
    rintro e w4 ⟨rfl, hb⟩
    have X4 := X3.step hb
    clear hb X3 hC P3
    have hC := X4.C
    go_wp2_with fail
    refine (toPlan_any _ d _ ((H.out.below X4.K (Nat.le_refl _)).more X4.K.size) q0.out q1.out q2.out q3.out).mono ?_
    rintro e w5 ⟨a0, a1, a2, a3, rfl, N5, hb⟩
    have X5 := X4.step hb
    have P5 := Lib.hid (N5.is B0.out B1.out B2.out B3.out)
    clear hb X4 hC N5
    have hC := X5.C
    have hz := X5.z
    go_wp2_with fail
    have X6 := X5.alloc (.cells (planC (some ⟨a0, 0, none⟩) (some ⟨a1, 0, none⟩) (some ⟨a2, 0, none⟩) (some ⟨a3, 0, none⟩) d.n0 d.n0 d.n1 d.n1 d.n2 d.n2 d.n3 d.n3 d.l d.p d.t) 29)
    have Y6 := Own.box2 X5.K (planC (some ⟨a0, 0, none⟩) (some ⟨a1, 0, none⟩) (some ⟨a2, 0, none⟩) (some ⟨a3, 0, none⟩) d.n0 d.n0 d.n1 d.n1 d.n2 d.n2 d.n3 d.n3 d.l d.p d.t) 29
    have P6 := Lib.hid ((P5.out.below ((Below.refl _ _).alloc (Nat.le_refl _) (.cells (planC (some ⟨a0, 0, none⟩) (some ⟨a1, 0, none⟩) (some ⟨a2, 0, none⟩) (some ⟨a3, 0, none⟩) d.n0 d.n0 d.n1 d.n1 d.n2 d.n2 d.n3 d.n3 d.l d.p d.t) 29)) (Nat.le_refl _)).more (B' := w5.heap.size + 1) (by omega))
    clear X5 hC P5
    generalize hg : w5.heap.size = g at *
    refine (xImplNext _ d wanted (by simpa [hg] using P6.out) q0.out q1.out q2.out q3.out).mono ?_
    rintro e w7 ⟨rfl, hb⟩
    have X7 := X6.step hb
    have Y7 := Y6.step hb
    have P7 := Lib.hid ((P6.out.below hb (by simp [hg])).more (B' := w7.heap.size) (by have := Y7.z; omega))
    clear hb X6 Y6 P6 hg
    have hC := X7.C
    have hD := Y7.C
    go_wp2_with fail
    have S7 : (∀ o, w7.cell? ⟨w.heap.size, o, none⟩ = (planC A0 A1 A2 A3 d.n0 c0 d.n1 c1 d.n2 c2 d.n3 c3 d.l d.p d.t)[o]?) ∧ (∀ o, w7.cell? ⟨g, o, none⟩ = (planC (some ⟨a0, 0, none⟩) (some ⟨a1, 0, none⟩) (some ⟨a2, 0, none⟩) (some ⟨a3, 0, none⟩) d.n0 d.n0 d.n1 d.n1 d.n2 d.n2 d.n3 d.n3 d.l d.p d.t)[o]?) ∧ Below w7.heap.size w7 w7 := ⟨hC, hD, Below.refl _ _⟩
    clear hC hD
    go_region_held3 (fun w' => (∀ o, w'.cell? ⟨w.heap.size, o, none⟩ = (planC A0 A1 A2 A3 d.n0 c0 d.n1 c1 d.n2 c2 d.n3 c3 d.l d.p d.t)[o]?) ∧ (∀ o, w'.cell? ⟨g, o, none⟩ = (planC (some ⟨a0, 0, none⟩) (some ⟨a1, 0, none⟩) (some ⟨a2, 0, none⟩) (some ⟨a3, 0, none⟩) d.n0 d.n0 d.n1 d.n1 d.n2 d.n2 d.n3 d.n3 d.l d.p d.t)[o]?) ∧ Below w7.heap.size w7 w')
      (first | exact S7 | exact S8 | exact S9 | (exact ⟨S7.1, S7.2.1, S7.2.2.drew⟩))
      (first
        | (go_at_call 25
           have K8 : Below w7.heap.size w7 w7.drew := (Below.refl _ _).drew
           refine (toPlan_any _ d _ ((H.out.below (X7.step K8).K (Nat.le_refl _)).more (X7.step K8).K.size) q0.out q1.out q2.out q3.out).mono ?_
           rintro e w8 ⟨b0, b1, b2, b3, rfl, N8, hb8⟩
           have K9 : Below w7.heap.size w7 w8 := K8.trans hb8
           have P8 := Lib.hid (N8.is B0.out B1.out B2.out B3.out)
           have S8 := And.intro (X7.step K9).C (And.intro (Y7.step K9).C K9))
        | (go_at_call 27
           refine (eqPlan_same _ _ d _ ((P7.out.below K9 (Nat.le_refl _)).more K9.size) P8.out).mono ?_
           rintro e w9 ⟨rfl, hb9⟩
           have K10 : Below w7.heap.size w7 w9 := K9.trans (hb9.mono K9.size)
           have S9 := And.intro (X7.step K10).C (And.intro (Y7.step K10).C K10)))
    go_wp2
    go_ret
    exact ⟨rfl, (X7.step K10).K⟩
  · have e0 : szP d = -1 := if_neg hsz
    rw [e0]
    clear e0
    go_wp2_with fail
    go_ret
    exact ⟨rfl, X2.K⟩

set_option maxRecDepth 100000 in
set_option maxHeartbeats 4000000 in
theorem lawBandTime (v : Value) (d : PlanD) (wanted : Int) (w : World) (h : IsPlan w w.heap.size v d) :
    Calls Try.prog 7 #[v, .int .i64 wanted] w fun e w' => e = .returned (.bool true) ∧ Below w.heap.size w w' := by
  have H := Lib.hid h
  obtain ⟨⟨A0, A1, A2, A3, c0, c1, c2, c3, rfl, s0, s1, s2, s3⟩, b0, b1, b2, b3⟩ := h
  clear s0 s1 s2 s3
  have B0 := Lib.hid b0
  have B1 := Lib.hid b1
  have B2 := Lib.hid b2
  have B3 := Lib.hid b3
  clear b0 b1 b2 b3
  go_enter Try.func7, Try.ntmps7
  go_wp2_with fail
  have X1 := Own.box w (planC A0 A1 A2 A3 d.n0 c0 d.n1 c1 d.n2 c2 d.n3 c3 d.l d.p d.t) 45
  refine (szPlan_any _ d _ ((H.out.below X1.K (Nat.le_refl _)).more X1.K.size)).mono ?_
  rintro e w2 ⟨rfl, hb⟩
  have X2 := X1.step hb
  have hC := X2.C
  clear hb X1
  by_cases hsz : d.n0 + d.n1 + d.n2 + d.n3 ≤ 1048576
  · have e0 : szP d = 1048576 - d.n0 - d.n1 - d.n2 - d.n3 := if_pos hsz
    rw [e0]
    clear e0
    go_wp2_with fail
    have HS := Lib.hid hsz
    have q0 : Hid (d.n0 ≤ 1048576) := by have := HS.out; exact Lib.hid (by omega)
    have q1 : Hid (d.n1 ≤ 1048576) := by have := HS.out; exact Lib.hid (by omega)
    have q2 : Hid (d.n2 ≤ 1048576) := by have := HS.out; exact Lib.hid (by omega)
    have q3 : Hid (d.n3 ≤ 1048576) := by have := HS.out; exact Lib.hid (by omega)
    clear hsz
    refine (toPlan_any _ d _ ((H.out.below X2.K (Nat.le_refl _)).more X2.K.size) q0.out q1.out q2.out q3.out).mono ?_
    rintro e w3 ⟨g0, g1, g2, g3, rfl, N3, hb⟩
    have X3 := X2.step hb
    have P3 := Lib.hid (N3.is B0.out B1.out B2.out B3.out)
    clear hb X2 hC N3
    have hC := X3.C
    go_wp2_with fail
    refine (xSpecTime _ d wanted P3.out q0.out q1.out q2.out q3.out).mono ?_
    rintro e w4 ⟨rfl, hb⟩
    have X4 := X3.step hb
    clear hb X3 hC P3
    have hC := X4.C
    go_wp2_with fail
    refine (toPlan_any _ d _ ((H.out.below X4.K (Nat.le_refl _)).more X4.K.size) q0.out q1.out q2.out q3.out).mono ?_
    rintro e w5 ⟨a0, a1, a2, a3, rfl, N5, hb⟩
    have X5 := X4.step hb
    have P5 := Lib.hid (N5.is B0.out B1.out B2.out B3.out)
    clear hb X4 hC N5
    have hC := X5.C
    have hz := X5.z
    go_wp2_with fail
    have X6 := X5.alloc (.cells (planC (some ⟨a0, 0, none⟩) (some ⟨a1, 0, none⟩) (some ⟨a2, 0, none⟩) (some ⟨a3, 0, none⟩) d.n0 d.n0 d.n1 d.n1 d.n2 d.n2 d.n3 d.n3 d.l d.p d.t) 29)
    have Y6 := Own.box2 X5.K (planC (some ⟨a0, 0, none⟩) (some ⟨a1, 0, none⟩) (some ⟨a2, 0, none⟩) (some ⟨a3, 0, none⟩) d.n0 d.n0 d.n1 d.n1 d.n2 d.n2 d.n3 d.n3 d.l d.p d.t) 29
    have P6 := Lib.hid ((P5.out.below ((Below.refl _ _).alloc (Nat.le_refl _) (.cells (planC (some ⟨a0, 0, none⟩) (some ⟨a1, 0, none⟩) (some ⟨a2, 0, none⟩) (some ⟨a3, 0, none⟩) d.n0 d.n0 d.n1 d.n1 d.n2 d.n2 d.n3 d.n3 d.l d.p d.t) 29)) (Nat.le_refl _)).more (B' := w5.heap.size + 1) (by omega))
    clear X5 hC P5
    generalize hg : w5.heap.size = g at *
    refine (xImplTime _ d wanted (by simpa [hg] using P6.out) q0.out q1.out q2.out q3.out).mono ?_
    rintro e w7 ⟨rfl, hb⟩
    have X7 := X6.step hb
    have Y7 := Y6.step hb
    have P7 := Lib.hid ((P6.out.below hb (by simp [hg])).more (B' := w7.heap.size) (by have := Y7.z; omega))
    clear hb X6 Y6 P6 hg
    have hC := X7.C
    have hD := Y7.C
    go_wp2_with fail
    have S7 : (∀ o, w7.cell? ⟨w.heap.size, o, none⟩ = (planC A0 A1 A2 A3 d.n0 c0 d.n1 c1 d.n2 c2 d.n3 c3 d.l d.p d.t)[o]?) ∧ (∀ o, w7.cell? ⟨g, o, none⟩ = (planC (some ⟨a0, 0, none⟩) (some ⟨a1, 0, none⟩) (some ⟨a2, 0, none⟩) (some ⟨a3, 0, none⟩) d.n0 d.n0 d.n1 d.n1 d.n2 d.n2 d.n3 d.n3 d.l d.p d.t)[o]?) ∧ Below w7.heap.size w7 w7 := ⟨hC, hD, Below.refl _ _⟩
    clear hC hD
    go_region_held3 (fun w' => (∀ o, w'.cell? ⟨w.heap.size, o, none⟩ = (planC A0 A1 A2 A3 d.n0 c0 d.n1 c1 d.n2 c2 d.n3 c3 d.l d.p d.t)[o]?) ∧ (∀ o, w'.cell? ⟨g, o, none⟩ = (planC (some ⟨a0, 0, none⟩) (some ⟨a1, 0, none⟩) (some ⟨a2, 0, none⟩) (some ⟨a3, 0, none⟩) d.n0 d.n0 d.n1 d.n1 d.n2 d.n2 d.n3 d.n3 d.l d.p d.t)[o]?) ∧ Below w7.heap.size w7 w')
      (first | exact S7 | exact S8 | exact S9 | (exact ⟨S7.1, S7.2.1, S7.2.2.drew⟩))
      (first
        | (go_at_call 25
           have K8 : Below w7.heap.size w7 w7.drew := (Below.refl _ _).drew
           refine (toPlan_any _ d _ ((H.out.below (X7.step K8).K (Nat.le_refl _)).more (X7.step K8).K.size) q0.out q1.out q2.out q3.out).mono ?_
           rintro e w8 ⟨b0, b1, b2, b3, rfl, N8, hb8⟩
           have K9 : Below w7.heap.size w7 w8 := K8.trans hb8
           have P8 := Lib.hid (N8.is B0.out B1.out B2.out B3.out)
           have S8 := And.intro (X7.step K9).C (And.intro (Y7.step K9).C K9))
        | (go_at_call 27
           refine (eqPlan_same _ _ d _ ((P7.out.below K9 (Nat.le_refl _)).more K9.size) P8.out).mono ?_
           rintro e w9 ⟨rfl, hb9⟩
           have K10 : Below w7.heap.size w7 w9 := K9.trans (hb9.mono K9.size)
           have S9 := And.intro (X7.step K10).C (And.intro (Y7.step K10).C K10)))
    go_wp2
    go_ret
    exact ⟨rfl, (X7.step K10).K⟩
  · have e0 : szP d = -1 := if_neg hsz
    rw [e0]
    clear e0
    go_wp2_with fail
    go_ret
    exact ⟨rfl, X2.K⟩

set_option maxRecDepth 100000 in
set_option maxHeartbeats 4000000 in
theorem lawWholeTime (v : Value) (d : PlanD) (w : World) (h : IsPlan w w.heap.size v d) :
    Calls Try.prog 8 #[v] w fun e w' => e = .returned (.bool true) ∧ Below w.heap.size w w' := by
  have H := Lib.hid h
  obtain ⟨⟨A0, A1, A2, A3, c0, c1, c2, c3, rfl, s0, s1, s2, s3⟩, b0, b1, b2, b3⟩ := h
  clear s0 s1 s2 s3
  have B0 := Lib.hid b0
  have B1 := Lib.hid b1
  have B2 := Lib.hid b2
  have B3 := Lib.hid b3
  clear b0 b1 b2 b3
  go_enter Try.func8, Try.ntmps8
  go_wp2_with fail
  have X1 := Own.box w (planC A0 A1 A2 A3 d.n0 c0 d.n1 c1 d.n2 c2 d.n3 c3 d.l d.p d.t) 45
  refine (szPlan_any _ d _ ((H.out.below X1.K (Nat.le_refl _)).more X1.K.size)).mono ?_
  rintro e w2 ⟨rfl, hb⟩
  have X2 := X1.step hb
  have hC := X2.C
  clear hb X1
  by_cases hsz : d.n0 + d.n1 + d.n2 + d.n3 ≤ 1048576
  · have e0 : szP d = 1048576 - d.n0 - d.n1 - d.n2 - d.n3 := if_pos hsz
    rw [e0]
    clear e0
    go_wp2_with fail
    have HS := Lib.hid hsz
    have q0 : Hid (d.n0 ≤ 1048576) := by have := HS.out; exact Lib.hid (by omega)
    have q1 : Hid (d.n1 ≤ 1048576) := by have := HS.out; exact Lib.hid (by omega)
    have q2 : Hid (d.n2 ≤ 1048576) := by have := HS.out; exact Lib.hid (by omega)
    have q3 : Hid (d.n3 ≤ 1048576) := by have := HS.out; exact Lib.hid (by omega)
    clear hsz
    refine (toPlan_any _ d _ ((H.out.below X2.K (Nat.le_refl _)).more X2.K.size) q0.out q1.out q2.out q3.out).mono ?_
    rintro e w3 ⟨g0, g1, g2, g3, rfl, N3, hb⟩
    have X3 := X2.step hb
    have P3 := Lib.hid (N3.is B0.out B1.out B2.out B3.out)
    clear hb X2 hC N3
    have hC := X3.C
    go_wp2_with fail
    refine (xSpecWhole _ d P3.out q0.out q1.out q2.out q3.out).mono ?_
    rintro e w4 ⟨rfl, hb⟩
    have X4 := X3.step hb
    clear hb X3 hC P3
    have hC := X4.C
    go_wp2_with fail
    refine (toPlan_any _ d _ ((H.out.below X4.K (Nat.le_refl _)).more X4.K.size) q0.out q1.out q2.out q3.out).mono ?_
    rintro e w5 ⟨a0, a1, a2, a3, rfl, N5, hb⟩
    have X5 := X4.step hb
    have P5 := Lib.hid (N5.is B0.out B1.out B2.out B3.out)
    clear hb X4 hC N5
    have hC := X5.C
    have hz := X5.z
    go_wp2_with fail
    have X6 := X5.alloc (.cells (planC (some ⟨a0, 0, none⟩) (some ⟨a1, 0, none⟩) (some ⟨a2, 0, none⟩) (some ⟨a3, 0, none⟩) d.n0 d.n0 d.n1 d.n1 d.n2 d.n2 d.n3 d.n3 d.l d.p d.t) 29)
    have Y6 := Own.box2 X5.K (planC (some ⟨a0, 0, none⟩) (some ⟨a1, 0, none⟩) (some ⟨a2, 0, none⟩) (some ⟨a3, 0, none⟩) d.n0 d.n0 d.n1 d.n1 d.n2 d.n2 d.n3 d.n3 d.l d.p d.t) 29
    have P6 := Lib.hid ((P5.out.below ((Below.refl _ _).alloc (Nat.le_refl _) (.cells (planC (some ⟨a0, 0, none⟩) (some ⟨a1, 0, none⟩) (some ⟨a2, 0, none⟩) (some ⟨a3, 0, none⟩) d.n0 d.n0 d.n1 d.n1 d.n2 d.n2 d.n3 d.n3 d.l d.p d.t) 29)) (Nat.le_refl _)).more (B' := w5.heap.size + 1) (by omega))
    clear X5 hC P5
    generalize hg : w5.heap.size = g at *
    refine (xImplWhole _ d (by simpa [hg] using P6.out) q0.out q1.out q2.out q3.out).mono ?_
    rintro e w7 ⟨rfl, hb⟩
    have X7 := X6.step hb
    have Y7 := Y6.step hb
    have P7 := Lib.hid ((P6.out.below hb (by simp [hg])).more (B' := w7.heap.size) (by have := Y7.z; omega))
    clear hb X6 Y6 P6 hg
    have hC := X7.C
    have hD := Y7.C
    go_wp2_with fail
    have S7 : (∀ o, w7.cell? ⟨w.heap.size, o, none⟩ = (planC A0 A1 A2 A3 d.n0 c0 d.n1 c1 d.n2 c2 d.n3 c3 d.l d.p d.t)[o]?) ∧ (∀ o, w7.cell? ⟨g, o, none⟩ = (planC (some ⟨a0, 0, none⟩) (some ⟨a1, 0, none⟩) (some ⟨a2, 0, none⟩) (some ⟨a3, 0, none⟩) d.n0 d.n0 d.n1 d.n1 d.n2 d.n2 d.n3 d.n3 d.l d.p d.t)[o]?) ∧ Below w7.heap.size w7 w7 := ⟨hC, hD, Below.refl _ _⟩
    clear hC hD
    go_region_held3 (fun w' => (∀ o, w'.cell? ⟨w.heap.size, o, none⟩ = (planC A0 A1 A2 A3 d.n0 c0 d.n1 c1 d.n2 c2 d.n3 c3 d.l d.p d.t)[o]?) ∧ (∀ o, w'.cell? ⟨g, o, none⟩ = (planC (some ⟨a0, 0, none⟩) (some ⟨a1, 0, none⟩) (some ⟨a2, 0, none⟩) (some ⟨a3, 0, none⟩) d.n0 d.n0 d.n1 d.n1 d.n2 d.n2 d.n3 d.n3 d.l d.p d.t)[o]?) ∧ Below w7.heap.size w7 w')
      (first | exact S7 | exact S8 | exact S9 | (exact ⟨S7.1, S7.2.1, S7.2.2.drew⟩))
      (first
        | (go_at_call 25
           have K8 : Below w7.heap.size w7 w7.drew := (Below.refl _ _).drew
           refine (toPlan_any _ d _ ((H.out.below (X7.step K8).K (Nat.le_refl _)).more (X7.step K8).K.size) q0.out q1.out q2.out q3.out).mono ?_
           rintro e w8 ⟨b0, b1, b2, b3, rfl, N8, hb8⟩
           have K9 : Below w7.heap.size w7 w8 := K8.trans hb8
           have P8 := Lib.hid (N8.is B0.out B1.out B2.out B3.out)
           have S8 := And.intro (X7.step K9).C (And.intro (Y7.step K9).C K9))
        | (go_at_call 27
           refine (eqPlan_same _ _ d _ ((P7.out.below K9 (Nat.le_refl _)).more K9.size) P8.out).mono ?_
           rintro e w9 ⟨rfl, hb9⟩
           have K10 : Below w7.heap.size w7 w9 := K9.trans (hb9.mono K9.size)
           have S9 := And.intro (X7.step K10).C (And.intro (Y7.step K10).C K10)))
    go_wp2
    go_ret
    exact ⟨rfl, (X7.step K10).K⟩
  · have e0 : szP d = -1 := if_neg hsz
    rw [e0]
    clear e0
    go_wp2_with fail
    go_ret
    exact ⟨rfl, X2.K⟩
end Go.Proofs.Ytmbblhnagohlhaa
