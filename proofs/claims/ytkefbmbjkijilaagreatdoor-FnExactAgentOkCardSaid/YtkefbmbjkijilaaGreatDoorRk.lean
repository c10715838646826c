/-
  The program's ownPlan.
-/
import Derived.Test.YtkefbmbjkijilaaGreatDoorMZ19
set_option linter.unusedVariables false
namespace Go.Proofs.YtkefbmbjkijilaaGreatDoor
open Go.RowKit

theorem info_i64R : (Tryz.prog.info? 2).map (fun i => (i.zero, i.size, i.bytes)) = some (some (.int .i64 0), 1, 8) := by kernel_rfl
set_option maxRecDepth 100000 in
set_option maxHeartbeats 4000000 in
theorem ownPlan_any (v : Value) (d : PlanD) (w : World) (h : IsPlR w w.heap.size v d) : Calls Tryz.prog 59 #[v] w (MadePl w d) := by
  obtain ⟨⟨A0_, A1_, A2_, A3_, c0, c1, c2, c3, rfl, ⟨s0, s1, s2, s3⟩, r0, r1, r2, r3⟩, f0, f1, f2, f3⟩ := h
  obtain ⟨n0, n1, n2, n3, x0, x1, x2, x3, l, p, t⟩ := d
  dsimp only at *
  have S0 := Lib.hid s0.slv
  have S1 : Hid (SlV w w.heap.size 1 A1_ n1 (lkCs ((List.range n1).map x1))) := Lib.hid (by rw [lk_cells]; have := s1.slv; rwa [Nat.mul_one] at this)
  have S2 := Lib.hid s2.slv
  have S3 := Lib.hid s3.slv
  have R0 := Lib.hid r0
  have F0 := Lib.hid f0
  have R1 := Lib.hid r1
  have F1 := Lib.hid f1
  have R2 := Lib.hid r2
  have F2 := Lib.hid f2
  have R3 := Lib.hid r3
  have F3 := Lib.hid f3
  clear s0 s1 s2 s3 r0 r1 r2 r3 f0 f1 f2 f3
  obtain ⟨i0, hi, hz0, hz1, hz2⟩ := info_parts info_pod
  have HI := Lib.hid hi
  have HZ0 := Lib.hid hz0
  have HZ1 := Lib.hid hz1
  have HZ2 := Lib.hid hz2
  clear hi hz0 hz1 hz2
  obtain ⟨i1, hi, hz0, hz1, hz2⟩ := info_parts info_i64R
  have NI := Lib.hid hi
  have NZ0 := Lib.hid hz0
  have NZ1 := Lib.hid hz1
  have NZ2 := Lib.hid hz2
  clear hi hz0 hz1 hz2
  obtain ⟨i2, hi, hz0, hz1, hz2⟩ := info_parts info_mount
  have GI := Lib.hid hi
  have GZ0 := Lib.hid hz0
  have GZ1 := Lib.hid hz1
  have GZ2 := Lib.hid hz2
  clear hi hz0 hz1 hz2
  obtain ⟨i3, hi, hz0, hz1, hz2⟩ := info_parts info_device
  have DI := Lib.hid hi
  have DZ0 := Lib.hid hz0
  have DZ1 := Lib.hid hz1
  have DZ2 := Lib.hid hz2
  clear hi hz0 hz1 hz2
  have T0 := Two.start w (planC A0_ A1_ A2_ A3_ n0 c0 n1 c1 n2 c2 n3 c3 l p t) (planC none none none none 0 0 0 0 0 0 0 0 0 0 0) 42 42
  have HW : Hid (((w.alloc (.cells (planC A0_ A1_ A2_ A3_ n0 c0 n1 c1 n2 c2 n3 c3 l p t) 42)).alloc (.cells (planC none none none none 0 0 0 0 0 0 0 0 0 0 0) 42)).heap.size = w.heap.size + 1 + 1) := Lib.hid (by simp)
  go_enter Tryz.func59, Tryz.ntmps59
  go_wp2_with (first
      | (at_builtin
         have AS3 := A3.set (Nat.le_refl _) (i := 2) (by simp) (.slice B2 n2 e2)
         have OS3 := O3.far (p := ⟨w.heap.size, 2, none⟩) (Nat.le_refl _) (by simp) (.slice B2 n2 e2)
         have HQ30 := Lib.hid (ownsRow_setCell_below (HO20).out (a := ⟨w.heap.size, 2, none⟩) (by simp) (.slice B2 n2 e2))
         have HQ31 := Lib.hid (ownsRow_setCell_below (HO21).out (a := ⟨w.heap.size, 2, none⟩) (by simp) (.slice B2 n2 e2))
         have HQ32 := Lib.hid (ownsRow_setCell_below (HO22).out (a := ⟨w.heap.size, 2, none⟩) (by simp) (.slice B2 n2 e2))
         refine wpList_append_slv rfl _ _ 40 127 i3 (.agg #[.int .i64 0]) 1 8 rfl Tryz.underlying40 DI.out DZ0.out DZ1.out DZ2.out rfl (by decide) (by decide) (w.heap.size + 2) _ 0 [] rfl (made_at _ _ _ _ _ (by simp) OS3.z) A3_ n3 c3 (cellsI (n3 * 1) x3) rfl R3.out (S3.out.below (AS3.K.alloc AS3.K.size _) (Nat.le_refl _)) (cellsI_one _ _) (by have := F3.out; omega) (le_alloc OS3.z) ?_
         intro v3 w5 hown hgrow
         have K3 := grown_at (by simp) hgrow
         replace hown : w5.ownsRow (w.heap.size + 2) 127 1 v3 n3 (cellsI (n3 * 1) x3) := by simpa using hown
         clear hgrow
         have A4 := AS3.step K3
         have O4 := OS3.step K3
         obtain ⟨B3, e3, rfl, -⟩ := open_rowR hown
         have HO33 := Lib.hid hown
         have HO30 := Lib.hid (ownsRow_below HQ30.out K3)
         have HO31 := Lib.hid (ownsRow_below HQ31.out K3)
         have HO32 := Lib.hid (ownsRow_below HQ32.out K3)
         clear hown K3 hC hF hz AS3 OS3 A3 O3
         have hC := A4.C
         have hF := A4.F
         have hz := A4.z
         have hD := O4.C
         have hG := O4.F)
      | (at_builtin
         have AS2 := A2.set (Nat.le_refl _) (i := 1) (by simp) (.slice B1 n1 e1)
         have OS2 := O2.far (p := ⟨w.heap.size, 1, none⟩) (Nat.le_refl _) (by simp) (.slice B1 n1 e1)
         have HQ20 := Lib.hid (ownsRow_setCell_below (HO10).out (a := ⟨w.heap.size, 1, none⟩) (by simp) (.slice B1 n1 e1))
         have HQ21 := Lib.hid (ownsRow_setCell_below (HO11).out (a := ⟨w.heap.size, 1, none⟩) (by simp) (.slice B1 n1 e1))
         refine wpList_append_slv rfl _ _ 39 123 i2 (.agg #[.int .i64 0, .int .i64 0]) 2 16 rfl Tryz.underlying39 GI.out GZ0.out GZ1.out GZ2.out rfl (by decide) (by decide) (w.heap.size + 2) _ 0 [] rfl (made_at _ _ _ _ _ (by simp) OS2.z) A2_ n2 c2 (cellsI (n2 * 2) x2) rfl R2.out (S2.out.below (AS2.K.alloc AS2.K.size _) (Nat.le_refl _)) (cellsI_one _ _) (by have := F2.out; omega) (le_alloc OS2.z) ?_
         intro v2 w4 hown hgrow
         have K2 := grown_at (by simp) hgrow
         replace hown : w4.ownsRow (w.heap.size + 2) 123 2 v2 n2 (cellsI (n2 * 2) x2) := by simpa using hown
         clear hgrow
         have A3 := AS2.step K2
         have O3 := OS2.step K2
         obtain ⟨B2, e2, rfl, -⟩ := open_rowR hown
         have HO22 := Lib.hid hown
         have HO20 := Lib.hid (ownsRow_below HQ20.out K2)
         have HO21 := Lib.hid (ownsRow_below HQ21.out K2)
         clear hown K2 hC hF hz AS2 OS2 A2 O2
         have hC := A3.C
         have hF := A3.F
         have hz := A3.z)
      | (at_builtin
         have AS1 := A1.set (Nat.le_refl _) (i := 0) (by simp) (.slice B0 n0 e0)
         have OS1 := O1.far (p := ⟨w.heap.size, 0, none⟩) (Nat.le_refl _) (by simp) (.slice B0 n0 e0)
         have HQ10 := Lib.hid (ownsRow_setCell_below (HO00).out (a := ⟨w.heap.size, 0, none⟩) (by simp) (.slice B0 n0 e0))
         refine wpList_append_slv rfl _ _ 23 2 i1 (.int .i64 0) 1 8 rfl Tryz.underlying23 NI.out NZ0.out NZ1.out NZ2.out rfl (by decide) (by decide) (w.heap.size + 2) _ 0 [] rfl (made_at _ _ _ _ _ (by simp) OS1.z) A1_ n1 c1 (lkCs ((List.range n1).map x1)) rfl R1.out (S1.out.below (AS1.K.alloc AS1.K.size _) (Nat.le_refl _)) (lkCs_one _) (by have := F1.out; omega) (le_alloc OS1.z) ?_
         intro v1 w3 hown hgrow
         have K1 := grown_at (by simp) hgrow
         replace hown : w3.ownsRow (w.heap.size + 2) 2 1 v1 n1 (lkCs ((List.range n1).map x1)) := by simpa using hown
         clear hgrow
         have A2 := AS1.step K1
         have O2 := OS1.step K1
         obtain ⟨B1, e1, rfl, -⟩ := open_rowR hown
         have HO11 := Lib.hid hown
         have HO10 := Lib.hid (ownsRow_below HQ10.out K1)
         clear hown K1 hC hF hz AS1 OS1 A1 O1
         have hC := A2.C
         have hF := A2.F
         have hz := A2.z)
      | (at_builtin
         refine wpList_append_slv rfl _ _ 38 119 i0 (.agg #[.int .i64 0, .int .i64 0, .int .i64 0, .int .i64 0]) 4 32 rfl Tryz.underlying38 HI.out HZ0.out HZ1.out HZ2.out rfl (by decide) (by decide) (w.heap.size + 2) _ 0 [] rfl (made_at _ _ _ _ _ HW.out T0.O.z) A0_ n0 c0 (cellsI (n0 * 4) x0) rfl R0.out (S0.out.below (T0.A.K.alloc T0.A.K.size _) (Nat.le_refl _)) (cellsI_one _ _) (by have := F0.out; omega) (le_alloc T0.O.z) ?_
         intro v0 w2 hown hgrow
         have K0 := grown_at HW.out hgrow
         replace hown : w2.ownsRow (w.heap.size + 2) 119 4 v0 n0 (cellsI (n0 * 4) x0) := by simpa using hown
         clear hgrow
         have A1 := T0.A.step K0
         have O1 := T0.O.step K0
         obtain ⟨B0, e0, rfl, -⟩ := open_rowR hown
         have HO00 := Lib.hid hown
         clear hown K0 T0 HW
         have hC := A1.C
         have hF := A1.F
         have hz := A1.z))
  refine bodyPost_ret (v := .agg (planC B0 B1 B2 B3 n0 e0 n1 e1 n2 e2 n3 e3 l p t)) ?_ rfl ⟨_, _, _, _, rfl, ⟨OI.of_cells ?_, OI.of_cells ?_, OI.of_cells ?_, OI.of_cells ?_⟩, ?_⟩
  · simp [results, Tryz.results59, go_sem, hD]
  · refine ownsRow_base (base := w.heap.size + 2) ?_ (by omega)
    iterate 8 (refine ownsRow_setCell_below ?_ (by simp) _)
    exact HO30.out
  · rw [Nat.mul_one, ← lk_cells]
    refine ownsRow_base (base := w.heap.size + 2) ?_ (by omega)
    iterate 8 (refine ownsRow_setCell_below ?_ (by simp) _)
    exact HO31.out
  · refine ownsRow_base (base := w.heap.size + 2) ?_ (by omega)
    iterate 8 (refine ownsRow_setCell_below ?_ (by simp) _)
    exact HO32.out
  · refine ownsRow_base (base := w.heap.size + 2) ?_ (by omega)
    iterate 8 (refine ownsRow_setCell_below ?_ (by simp) _)
    exact HO33.out
  · iterate 8 (refine Below.setCell ?_ (by simp) _)
    exact A4.K
end Go.Proofs.YtkefbmbjkijilaaGreatDoor
