/-
  Where a number stands in a list that rises; the list with it, and without it; slices.BinarySearch and slices.Delete of the program's lists.
-/
import Derived.Test.YtbcaginjibnngaaGreatDoorMZ5
import Derived.Test.YtbcaginjibnngaaGreatDoorMZ4
import Derived.Test.YtbcaginjibnngaaGreatDoorMZ1
import Derived.Deep.RegionHeld3
import Derived.Test.YtbcaginjibnngaaGreatDoorMZ2
import Derived.Shelf.Spec.SlicesInsertGrow
import Derived.Lib.AppendZerosOnto
import Derived.Lib.Overlaps
import Derived.Test.YtbcaginjibnngaaGreatDoorMZ3
import Derived.Sort.OwnSortedInts
/- Zc -/
set_option linter.unusedVariables false
namespace Go.Proofs.YtbcaginjibnngaaGreatDoor
open Go.RowKit

/-- Whole numbers as cells. -/
def cellsI (m : Nat) (x : Nat → Int) : List Value := (List.range m).map fun j => Value.int .i64 (x j)
theorem cellsI_len (m : Nat) (x : Nat → Int) : (cellsI m x).length = m := by simp [cellsI]
theorem cellsI_at {m j : Nat} (x : Nat → Int) (hj : j < m) : (cellsI m x)[j]? = some (.int .i64 (x j)) := by simp [cellsI, hj]
theorem cellsI_one (m : Nat) (x : Nat → Int) : ∀ u ∈ cellsI m x, u.oneCell' = true := by
  intro u hu
  obtain ⟨b, _, rfl⟩ := List.mem_map.1 hu
  rfl
theorem lk_cells (n : Nat) (x : Nat → Int) : lkCs ((List.range n).map x) = cellsI n x := by simp [lkCs, cellsI, Function.comp_def]
theorem Sl.slv {w : World} {B k n : Nat} {A : Option Addr} {x : Nat → Int} (h : Sl w B k A n x) : SlV w B k A n (cellsI (n * k) x) :=
  ⟨cellsI_len _ _, fun hn => by
    obtain ⟨b, off, e, hb, hc⟩ := h hn
    exact ⟨b, off, e, hb, fun j hj => by rw [hc j hj, cellsI_at x hj]⟩⟩
theorem OI.of_cells {w : World} {B e k n : Nat} {v : Value} {x : Nat → Int} (h : w.ownsRow B e k v n (cellsI (n * k) x)) : OI w B e k v n x := ⟨_, h, fun j hj => cellsI_at x hj⟩
theorem OI.formR {w : World} {B e k n : Nat} {v : Value} {x : Nat → Int} (h : OI w B e k v n x) : ∃ A c, v = .slice A n c ∧ (A = none → c = 0) ∧ Sl w w.heap.size k A n x := by
  obtain ⟨A', c', hv', hs, -⟩ := h.form
  obtain ⟨xs, hown, -⟩ := h
  obtain ⟨A, c, hv, hr, -⟩ := open_rowR hown
  rw [hv] at hv'
  injection hv' with h1 h2 h3
  subst h1 h3
  exact ⟨A, c, hv, hr, hs⟩
/-- How many cells a plan's lists are at most. -/
structure PlFits (d : PlanD) : Prop where
  f0 : d.n0 ≤ 1048576
  f1 : d.n1 ≤ 1048576
  f2 : d.n2 ≤ 1048576
  f3 : d.n3 ≤ 1048576
/-- A plan that can be read, its lists real slices and small. -/
structure IsPlR (w : World) (B : Nat) (v : Value) (d : PlanD) : Prop where
  it : ∃ A0 A1 A2 A3 c0 c1 c2 c3, v = planV A0 A1 A2 A3 d.n0 c0 d.n1 c1 d.n2 c2 d.n3 c3 d.l d.p d.t ∧ (Sl w B 4 A0 d.n0 d.x0 ∧ Sl w B 1 A1 d.n1 d.x1 ∧ Sl w B 2 A2 d.n2 d.x2 ∧ Sl w B 1 A3 d.n3 d.x3) ∧
    (A0 = none → c0 = 0) ∧ (A1 = none → c1 = 0) ∧ (A2 = none → c2 = 0) ∧ (A3 = none → c3 = 0)
  fit : PlFits d
theorem IsPlR.below {w w' : World} {B B' : Nat} {v : Value} {d : PlanD} (h : IsPlR w B v d) (hb : Below B' w w') (hB : B ≤ B') : IsPlR w' B v d := by
  obtain ⟨⟨A0, A1, A2, A3, c0, c1, c2, c3, hv, ⟨h0, h1, h2, h3⟩, hr⟩, hf⟩ := h
  exact ⟨⟨A0, A1, A2, A3, c0, c1, c2, c3, hv, ⟨h0.below hb hB, h1.below hb hB, h2.below hb hB, h3.below hb hB⟩, hr⟩, hf⟩
theorem IsPlR.more {w : World} {B B' : Nat} {v : Value} {d : PlanD} (h : IsPlR w B v d) (hB : B ≤ B') : IsPlR w B' v d := by
  obtain ⟨⟨A0, A1, A2, A3, c0, c1, c2, c3, hv, ⟨h0, h1, h2, h3⟩, hr⟩, hf⟩ := h
  exact ⟨⟨A0, A1, A2, A3, c0, c1, c2, c3, hv, ⟨h0.more hB, h1.more hB, h2.more hB, h3.more hB⟩, hr⟩, hf⟩
theorem IsPlR.go {w w' : World} {v : Value} {d : PlanD} (h : IsPlR w w.heap.size v d) (hb : Below w.heap.size w w') : IsPlR w' w'.heap.size v d := (h.below hb (Nat.le_refl _)).more hb.size
theorem IsPlR.is {w : World} {B : Nat} {v : Value} {d : PlanD} (h : IsPlR w B v d) : IsPlan w B v d := by
  obtain ⟨⟨A0, A1, A2, A3, c0, c1, c2, c3, hv, ⟨h0, h1, h2, h3⟩, -⟩, f0, f1, f2, f3⟩ := h
  have hm : 1048576 ≤ maxLen := by unfold maxLen; decide
  exact ⟨⟨A0, A1, A2, A3, c0, c1, c2, c3, hv, h0, h1, h2, h3⟩, by omega, by omega, by omega, by omega⟩
theorem Lists.plR {w : World} {B : Nat} {v0 v1 v2 v3 : Value} {d : PlanD} (h : Lists w B v0 v1 v2 v3 d) (hf : PlFits d) : IsPlR w w.heap.size (.agg #[v0, v1, v2, v3, .int .i64 d.l, .int .i64 d.p, .int .i64 d.t]) d := by
  obtain ⟨A0, c0, rfl, r0, s0⟩ := h.o0.formR
  obtain ⟨A1, c1, rfl, r1, s1⟩ := h.o1.formR
  obtain ⟨A2, c2, rfl, r2, s2⟩ := h.o2.formR
  obtain ⟨A3, c3, rfl, r3, s3⟩ := h.o3.formR
  exact ⟨⟨_, _, _, _, _, _, _, _, rfl, ⟨s0, s1, s2, s3⟩, r0, r1, r2, r3⟩, hf⟩
theorem PlFits.of_ok {d : PlanD} (h : planOkB d = true) : PlFits d := by
  simp only [planOkB, sizesB, Bool.and_eq_true, decide_eq_true_eq] at h
  exact ⟨by omega, by omega, by omega, by omega⟩
/-- What makes a plan of the call's own answers. -/
def MadePl (w : World) (d : PlanD) (e : Ending) (w' : World) : Prop :=
  ∃ v0 v1 v2 v3, e = .returned (.agg #[v0, v1, v2, v3, .int .i64 d.l, .int .i64 d.p, .int .i64 d.t]) ∧ Lists w' w.heap.size v0 v1 v2 v3 d ∧ Below w.heap.size w w'

set_option maxRecDepth 4000 in
set_option maxHeartbeats 4000000 in
theorem l15PlanCopy_any (v : Value) (d : PlanD) (w : World) (h : IsPlR w w.heap.size v d) : Calls Tryz.prog 103 #[v] w (MadePl w d) := by
  obtain ⟨⟨A0_, A1_, A2_, A3_, c0, c1, c2, c3, rfl, ⟨s0, s1, s2, s3⟩, r0, r1, r2, r3⟩, f0, f1, f2, f3⟩ := h
  obtain ⟨n0, n1, n2, n3, x0, x1, x2, x3, l, p, t⟩ := d
  dsimp only at *
  have S0 := Lib.hid s0.slv
  have S1 : Hid (SlV w w.heap.size 1 A1_ n1 (lkCs ((List.range n1).map x1))) := Lib.hid (by rw [lk_cells]; have := s1.slv; rwa [Nat.mul_one] at this)
  have S2 := Lib.hid s2.slv
  have S3 := Lib.hid s3.slv
  have R0 := Lib.hid r0
  have F0 := Lib.hid f0
  have R1 := Lib.hid r1
  have F1 := Lib.hid f1
  have R2 := Lib.hid r2
  have F2 := Lib.hid f2
  have R3 := Lib.hid r3
  have F3 := Lib.hid f3
  clear s0 s1 s2 s3 r0 r1 r2 r3 f0 f1 f2 f3
  obtain ⟨i0, hi, hz0, hz1, hz2⟩ := info_parts info_pod
  have HI := Lib.hid hi
  have HZ0 := Lib.hid hz0
  have HZ1 := Lib.hid hz1
  have HZ2 := Lib.hid hz2
  clear hi hz0 hz1 hz2
  obtain ⟨i1, hi, hz0, hz1, hz2⟩ := info_parts info_mount
  have GI := Lib.hid hi
  have GZ0 := Lib.hid hz0
  have GZ1 := Lib.hid hz1
  have GZ2 := Lib.hid hz2
  clear hi hz0 hz1 hz2
  obtain ⟨i2, hi, hz0, hz1, hz2⟩ := info_parts info_device
  have DI := Lib.hid hi
  have DZ0 := Lib.hid hz0
  have DZ1 := Lib.hid hz1
  have DZ2 := Lib.hid hz2
  clear hi hz0 hz1 hz2
  have T0 := Two.start w (planC A0_ A1_ A2_ A3_ n0 c0 n1 c1 n2 c2 n3 c3 l p t) (planC none none none none 0 0 0 0 0 0 0 0 0 0 0) 29 29
  have HW : Hid (((w.alloc (.cells (planC A0_ A1_ A2_ A3_ n0 c0 n1 c1 n2 c2 n3 c3 l p t) 29)).alloc (.cells (planC none none none none 0 0 0 0 0 0 0 0 0 0 0) 29)).heap.size = w.heap.size + 1 + 1) := Lib.hid (by simp)
  go_enter Tryz.func103, Tryz.ntmps103
  go_wp2_with (first
      | (at_builtin
         have AS3 := A3.set (Nat.le_refl _) (i := 2) (by simp) (.slice B2 n2 e2)
         have OS3 := O3.far (p := ⟨w.heap.size, 2, none⟩) (Nat.le_refl _) (by simp) (.slice B2 n2 e2)
         have HQ30 := Lib.hid (ownsRow_setCell_below (HO20).out (a := ⟨w.heap.size, 2, none⟩) (by simp) (.slice B2 n2 e2))
         have HQ31 := Lib.hid (ownsRow_setCell_below (HO21).out (a := ⟨w.heap.size, 2, none⟩) (by simp) (.slice B2 n2 e2))
         have HQ32 := Lib.hid (ownsRow_setCell_below (HO22).out (a := ⟨w.heap.size, 2, none⟩) (by simp) (.slice B2 n2 e2))
         refine wpList_append_slv rfl _ _ 27 107 i2 (.agg #[.int .i64 0]) 1 8 rfl Tryz.underlying27 DI.out DZ0.out DZ1.out DZ2.out rfl (by decide) (by decide) (w.heap.size + 2) _ 0 [] rfl (made_at _ _ _ _ _ (by simp) OS3.z) A3_ n3 c3 (cellsI (n3 * 1) x3) rfl R3.out (S3.out.below (AS3.K.alloc AS3.K.size _) (Nat.le_refl _)) (cellsI_one _ _) (by have := F3.out; omega) (le_alloc OS3.z) ?_
         intro v3 w5 hown hgrow
         have K3 := grown_at (by simp) hgrow
         replace hown : w5.ownsRow (w.heap.size + 2) 107 1 v3 n3 (cellsI (n3 * 1) x3) := by simpa using hown
         clear hgrow
         have A4 := AS3.step K3
         have O4 := OS3.step K3
         obtain ⟨B3, e3, rfl, -⟩ := open_rowR hown
         have HO33 := Lib.hid hown
         have HO30 := Lib.hid (ownsRow_below HQ30.out K3)
         have HO31 := Lib.hid (ownsRow_below HQ31.out K3)
         have HO32 := Lib.hid (ownsRow_below HQ32.out K3)
         clear hown K3 hC hF hz AS3 OS3 A3 O3
         have hC := A4.C
         have hF := A4.F
         have hz := A4.z
         have hD := O4.C
         have hG := O4.F)
      | (at_builtin
         have AS2 := A2.set (Nat.le_refl _) (i := 1) (by simp) (.slice B1 n1 e1)
         have OS2 := O2.far (p := ⟨w.heap.size, 1, none⟩) (Nat.le_refl _) (by simp) (.slice B1 n1 e1)
         have HQ20 := Lib.hid (ownsRow_setCell_below (HO10).out (a := ⟨w.heap.size, 1, none⟩) (by simp) (.slice B1 n1 e1))
         have HQ21 := Lib.hid (ownsRow_setCell_below (HO11).out (a := ⟨w.heap.size, 1, none⟩) (by simp) (.slice B1 n1 e1))
         refine wpList_append_slv rfl _ _ 26 105 i1 (.agg #[.int .i64 0, .int .i64 0]) 2 16 rfl Tryz.underlying26 GI.out GZ0.out GZ1.out GZ2.out rfl (by decide) (by decide) (w.heap.size + 2) _ 0 [] rfl (made_at _ _ _ _ _ (by simp) OS2.z) A2_ n2 c2 (cellsI (n2 * 2) x2) rfl R2.out (S2.out.below (AS2.K.alloc AS2.K.size _) (Nat.le_refl _)) (cellsI_one _ _) (by have := F2.out; omega) (le_alloc OS2.z) ?_
         intro v2 w4 hown hgrow
         have K2 := grown_at (by simp) hgrow
         replace hown : w4.ownsRow (w.heap.size + 2) 105 2 v2 n2 (cellsI (n2 * 2) x2) := by simpa using hown
         clear hgrow
         have A3 := AS2.step K2
         have O3 := OS2.step K2
         obtain ⟨B2, e2, rfl, -⟩ := open_rowR hown
         have HO22 := Lib.hid hown
         have HO20 := Lib.hid (ownsRow_below HQ20.out K2)
         have HO21 := Lib.hid (ownsRow_below HQ21.out K2)
         clear hown K2 hC hF hz AS2 OS2 A2 O2
         have hC := A3.C
         have hF := A3.F
         have hz := A3.z)
      | (go_at_call 118
         have AS1 := A1.set (Nat.le_refl _) (i := 0) (by simp) (.slice B0 n0 e0)
         have OS1 := O1.far (p := ⟨w.heap.size, 0, none⟩) (Nat.le_refl _) (by simp) (.slice B0 n0 e0)
         have HQ10 := Lib.hid (ownsRow_setCell_below (HO00).out (a := ⟨w.heap.size, 0, none⟩) (by simp) (.slice B0 n0 e0))
         refine (l1Copy_any A1_ n1 c1 ((List.range n1).map x1) _ ((S1.out.below AS1.K (Nat.le_refl _)).more AS1.K.size) R1.out F1.out).mono ?_
         rintro e w3 ⟨v1, rfl, hown, K1⟩
         replace hown : w3.ownsRow (w.heap.size + 2) 2 1 v1 n1 (lkCs ((List.range n1).map x1)) := ownsRow_base hown OS1.z
         have A2 := AS1.step K1
         have O2 := OS1.step K1
         obtain ⟨B1, e1, rfl, -⟩ := open_rowR hown
         have HO11 := Lib.hid hown
         have HO10 := Lib.hid (ownsRow_below HQ10.out K1)
         clear hown K1 hC hF hz AS1 OS1 A1 O1
         have hC := A2.C
         have hF := A2.F
         have hz := A2.z)
      | (at_builtin
         refine wpList_append_slv rfl _ _ 24 103 i0 (.agg #[.int .i64 0, .int .i64 0, .int .i64 0, .int .i64 0]) 4 32 rfl Tryz.underlying24 HI.out HZ0.out HZ1.out HZ2.out rfl (by decide) (by decide) (w.heap.size + 2) _ 0 [] rfl (made_at _ _ _ _ _ HW.out T0.O.z) A0_ n0 c0 (cellsI (n0 * 4) x0) rfl R0.out (S0.out.below (T0.A.K.alloc T0.A.K.size _) (Nat.le_refl _)) (cellsI_one _ _) (by have := F0.out; omega) (le_alloc T0.O.z) ?_
         intro v0 w2 hown hgrow
         have K0 := grown_at HW.out hgrow
         replace hown : w2.ownsRow (w.heap.size + 2) 103 4 v0 n0 (cellsI (n0 * 4) x0) := by simpa using hown
         clear hgrow
         have A1 := T0.A.step K0
         have O1 := T0.O.step K0
         obtain ⟨B0, e0, rfl, -⟩ := open_rowR hown
         have HO00 := Lib.hid hown
         clear hown K0 T0 HW
         have hC := A1.C
         have hF := A1.F
         have hz := A1.z))
  refine bodyPost_ret (v := .agg (planC B0 B1 B2 B3 n0 e0 n1 e1 n2 e2 n3 e3 l p t)) ?_ rfl ⟨_, _, _, _, rfl, ⟨OI.of_cells ?_, OI.of_cells ?_, OI.of_cells ?_, OI.of_cells ?_⟩, ?_⟩
  · simp [results, Tryz.results103, go_sem, hD]
  · refine ownsRow_base (base := w.heap.size + 2) ?_ (by omega)
    iterate 8 (refine ownsRow_setCell_below ?_ (by simp) _)
    exact HO30.out
  · rw [Nat.mul_one, ← lk_cells]
    refine ownsRow_base (base := w.heap.size + 2) ?_ (by omega)
    iterate 8 (refine ownsRow_setCell_below ?_ (by simp) _)
    exact HO31.out
  · refine ownsRow_base (base := w.heap.size + 2) ?_ (by omega)
    iterate 8 (refine ownsRow_setCell_below ?_ (by simp) _)
    exact HO32.out
  · refine ownsRow_base (base := w.heap.size + 2) ?_ (by omega)
    iterate 8 (refine ownsRow_setCell_below ?_ (by simp) _)
    exact HO33.out
  · iterate 8 (refine Below.setCell ?_ (by simp) _)
    exact A4.K
end Go.Proofs.YtbcaginjibnngaaGreatDoor
/- Sc -/
set_option linter.unusedVariables false
namespace Go.Proofs.YtbcaginjibnngaaGreatDoor
open Go.RowKit

set_option maxHeartbeats 400000 in
theorem bandOfPod_any (A0 A1 A2 A3 : Option Addr) (n0 c0 n1 c1 n2 c2 n3 c3 : Nat) (l p t : Int) (x0 : Nat → Int) (i : Nat) (w : World)
    (s0 : Sl w w.heap.size 4 A0 n0 x0) (hi : i < n0) (b0 : n0 ≤ maxLen) :
    Calls Tryz.prog 82 #[planV A0 A1 A2 A3 n0 c0 n1 c1 n2 c2 n3 c3 l p t, .int .i64 i] w fun e w' =>
      e = .returned (.int .i64 (x0 (i * 4 + 1))) ∧ Below w.heap.size w w' := by
  unfold maxLen at b0
  obtain ⟨b, off, rfl, hb, q0, q1, q2, q3⟩ := s0.cell4 hi
  clear s0
  go_enter Tryz.func82, Tryz.ntmps82
  go_wp2
  go_ret
  exact ⟨rfl, (Below.refl _ _).alloc (Nat.le_refl _) _⟩
theorem enter_bandOfPod (x y : Value) (wr : World) : (callFunc 82 #[x, y]).run Tryz.prog wr = .ok (.enter 82 #[x, y]) wr := by simp [go_sem]

set_option maxRecDepth 100000 in
set_option maxHeartbeats 1000000 in
theorem implPodsOf_any (v : Value) (d : PlanD) (wanted : Int) (w : World) (h : IsPlan w w.heap.size v d) (hn : d.n0 ≤ 1048576) :
    Calls Tryz.prog 32 #[v, .int .i64 wanted] w (Listed w (found d d.n0 (fun i => d.x0 (i * 4 + 1)) wanted)) := by
  have P := Lib.hid h
  obtain ⟨⟨A0, A1, A2, A3, c0, c1, c2, c3, rfl, s0, s1, s2, s3⟩, b0, b1, b2, b3⟩ := h
  have S := Lib.hid s0
  have B := Lib.hid b0
  have HN := Lib.hid hn
  clear s0 s1 s2 s3 b0 b1 b2 b3 hn
  go_enter Tryz.func32, Tryz.ntmps32
  go_wp2_with fail
  have X1 := Own.box w (planC A0 A1 A2 A3 d.n0 c0 d.n1 c1 d.n2 c2 d.n3 c3 d.l d.p d.t) 29
  refine (numbersWith_any _ d _ d.n0 (fun i => d.x0 (i * 4 + 1)) wanted _ ((P.out.below X1.K (Nat.le_refl _)).more X1.K.size) HN.out enter_bandOfPod ?_).mono ?_
  · exact fun i hi wr hb => bandOfPod_any A0 A1 A2 A3 d.n0 c0 d.n1 c1 d.n2 c2 d.n3 c3 d.l d.p d.t d.x0 i wr ((S.out.below (X1.K.trans (hb.mono X1.K.size)) (Nat.le_refl _)).more (X1.K.trans (hb.mono X1.K.size)).size) hi B.out
  · intro e w2 hL
    obtain ⟨v', rfl, O, K⟩ := hL.back X1.K
    clear hL
    go_wp2_with fail
    go_ret
    exact ⟨_, rfl, O, K⟩

set_option maxRecDepth 100000 in
set_option maxHeartbeats 2000000 in
theorem specPodsOf_any (v : Value) (d : PlanD) (wanted : Int) (w : World) (h : IsPlan w w.heap.size v d) (hn : d.n0 ≤ 1048576) :
    Calls Tryz.prog 93 #[v, .int .i64 wanted] w (Listed w (found d d.n0 (fun i => d.x0 (i * 4 + 1)) wanted)) := by
  have P := Lib.hid h
  obtain ⟨⟨A0, A1, A2, A3, c0, c1, c2, c3, rfl, s0, s1, s2, s3⟩, b0, b1, b2, b3⟩ := h
  have S := Lib.hid s0
  have HN := Lib.hid hn
  have hn' : d.n0 ≤ 2 ^ 63 - 1 := by omega
  clear s0 s1 s2 s3 b0 b1 b2 b3 hn
  obtain ⟨i0, hi, hz0, hz1, hz2⟩ := info_parts info_i64
  have HI := Lib.hid hi
  have HZ0 := Lib.hid hz0
  have HZ1 := Lib.hid hz1
  have HZ2 := Lib.hid hz2
  clear hi hz0 hz1 hz2
  go_enter Tryz.func93, Tryz.ntmps93
  go_wp2
  have X1 := (Own.box w (planC A0 A1 A2 A3 d.n0 c0 d.n1 c1 d.n2 c2 d.n3 c3 d.l d.p d.t) 29).alloc (.cells #[] 2)
  have O1 : ((w.alloc (.cells (planC A0 A1 A2 A3 d.n0 c0 d.n1 c1 d.n2 c2 d.n3 c3 d.l d.p d.t) 29)).alloc (.cells #[] 2)).ownsRow (w.heap.size + 1) 2 1 (.slice (some ⟨w.heap.size + 1, 0, none⟩) 0 0) 0 [] := by
    have := World.ownsRow_made (base := w.heap.size + 1) (e := 2) (size := 1) (w.alloc (.cells (planC A0 A1 A2 A3 d.n0 c0 d.n1 c1 d.n2 c2 d.n3 c3 d.l d.p d.t) 29)) #[] 0 (by simp) (Nat.zero_le _) rfl
    simpa using this
  go_loopw [5, 6] (fun v i wr => ∃ k : Nat, k ≤ d.n0 ∧ i = .int .i64 k ∧ (k = 0 ∨ planOkB d = true) ∧ wr.ownsRow (w.heap.size + 1) 2 1 v (hits k (fun i => d.x0 (i * 4 + 1)) wanted).length ((hits k (fun i => d.x0 (i * 4 + 1)) wanted).map (Value.int .i64)) ∧
    Own w wr w.heap.size (planC A0 A1 A2 A3 d.n0 c0 d.n1 c1 d.n2 c2 d.n3 c3 d.l d.p d.t)) (fun _ i _ => d.n0 - (intOf i).toNat)
  case atStart => exact ⟨0, Nat.zero_le _, rfl, .inl rfl, O1, X1⟩
  case round =>
    clear O1 X1
    obtain ⟨k, hk, rfl, hor, O, X⟩ := hrel
    have HR := Lib.hid hor
    have HO := Lib.hid O
    clear hor O
    have hC := X.C
    have hz := X.z
    by_cases hlt : k < d.n0
    · cases hq : planOkB d
      · have HQ := Lib.hid hq
        go_wp2_with (go_at_call 40; refine (spec_planOk_any _ d _ ((P.out.below X.K (Nat.le_refl _)).more X.K.size)).mono ?_; rintro e w2 ⟨rfl, hb2⟩; have X2 := X.step hb2)
        go_ret
        refine ⟨_, rfl, ?_, X2.K⟩
        have hk0 : k = 0 := HR.out.resolve_right (by rw [HQ.out]; decide)
        rw [found_no HQ.out]
        have := ownsRow_base (ownsRow_below HO.out hb2) (Nat.le_succ _)
        rw [hk0] at this
        exact this
      · have HQ := Lib.hid hq
        have hle := hits_le k (fun i => d.x0 (i * 4 + 1)) wanted
        have h63 : (hits k (fun i => d.x0 (i * 4 + 1)) wanted).length + 1 ≤ maxLen := by have := HN.out; unfold maxLen; omega
        have hby : ((hits k (fun i => d.x0 (i * 4 + 1)) wanted).length + 1) * 8 ≤ 140737488355328 := by have := HN.out; omega
        have H63 := Lib.hid h63
        have HBY := Lib.hid hby
        clear h63 hby hle
        obtain ⟨b, off, rfl, hb, q0, q1, q2, q3⟩ := (S.out.own X).cell4 hlt
        cases hv : (d.x0 (k * 4 + 1) == wanted)
        · have HV := Lib.hid (hits_no (f := fun i => d.x0 (i * 4 + 1)) hv)
          go_wp2_with (go_at_call 40; refine (spec_planOk_any _ d _ ((P.out.below X.K (Nat.le_refl _)).more X.K.size)).mono ?_; rintro e w2 ⟨rfl, hb2⟩; have X2 := X.step hb2; have hC2 := X2.C; have hD2 := (bcell hb2).1)
          refine ⟨⟨k + 1, by omega, by go_num, .inr (by first | exact HQ.out | trivial), by rw [HV.out]; exact ownsRow_below HO.out hb2, X2⟩, by simp [intOf]; omega⟩
        · have HV := Lib.hid (hits_yes (f := fun i => d.x0 (i * 4 + 1)) hv)
          go_wp2_with (first
            | (go_at_call 40; refine (spec_planOk_any _ d _ ((P.out.below X.K (Nat.le_refl _)).more X.K.size)).mono ?_; rintro e w2 ⟨rfl, hb2⟩; have X2 := X.step hb2; have hC2 := X2.C; have hD2 := (bcell hb2).1)
            | (at_builtin; refine wpList_append_own _ rfl _ _ 25 rfl (w.heap.size + 1) 2 i0 (.int .i64 0) 1 8 Tryz.underlying25 HI.out HZ0.out HZ1.out HZ2.out rfl (by decide) _ _ _ rfl ((ownsRow_below HO.out hb2).alloc _) ⟨w2.heap.size, 0, none⟩ 1 1 [.int .i64 k] rfl rfl (cell_one_new _ _ _) (fun x hx => by simp at hx; subst hx; rfl) H63.out HBY.out (by have := X2.z; simp; omega) ?_; intro v' w4 hown' hgrow hnil))
          have X3 := X2.alloc (.cells #[.int .i64 k] 2)
          have OB := (ownsRow_below HO.out hb2)
          refine ⟨⟨k + 1, by omega, by go_num, .inr (by first | exact HQ.out | trivial), ?_, ?_⟩, by simp [intOf]; omega⟩
          · rw [HV.out]
            simpa using hown'
          · exact X3.grown hgrow fun g hg => by have := (OB.lt g hg).1; omega
    · obtain rfl : k = d.n0 := by omega
      go_wp2
      go_ret
      refine ⟨_, rfl, ?_, X.K⟩
      have := ownsRow_base HO.out (Nat.le_succ _)
      rcases HR.out with h0 | h1
      · cases hq : planOkB d
        · rw [found_no hq]
          rw [h0] at this
          exact this
        · rw [found_yes hq]; exact this
      · rw [found_yes h1]; exact this

theorem implPods_any (v : Value) (d : PlanD) (b : Int) (w : World) (h : IsPlan w w.heap.size v d) (hn : d.n0 ≤ 1048576) :
    Calls Tryz.prog 32 #[v, .int .i64 b] w (Listed w (podsL d b)) := implPodsOf_any v d b w h hn
theorem specPods_any (v : Value) (d : PlanD) (b : Int) (w : World) (h : IsPlan w w.heap.size v d) (hn : d.n0 ≤ 1048576) :
    Calls Tryz.prog 93 #[v, .int .i64 b] w (Listed w (podsL d b)) := specPodsOf_any v d b w h hn
end Go.Proofs.YtbcaginjibnngaaGreatDoor
/- Sd -/
set_option linter.unusedVariables false
namespace Go.Proofs.YtbcaginjibnngaaGreatDoor
open Go.RowKit

theorem rise_unique : ∀ {L M : List Int}, L.Pairwise (· < ·) → M.Pairwise (· < ·) → (∀ x, x ∈ L ↔ x ∈ M) → L = M
  | [], [], _, _, _ => rfl
  | [], b :: M, _, _, h => by have := (h b).2 (by simp); cases this
  | a :: L, [], _, _, h => by have := (h a).1 (by simp); cases this
  | a :: L, b :: M, hL, hM, h => by
    have hL' := List.pairwise_cons.1 hL
    have hM' := List.pairwise_cons.1 hM
    have hab : a = b := by
      have h1 := (h a).1 (by simp)
      have h2 := (h b).2 (by simp)
      rcases List.mem_cons.1 h1 with e | e
      · exact e
      · rcases List.mem_cons.1 h2 with e2 | e2
        · exact e2.symm
        · have := hM'.1 a e
          have := hL'.1 b e2
          omega
    subst hab
    congr 1
    refine rise_unique hL'.2 hM'.2 fun x => ⟨fun hx => ?_, fun hx => ?_⟩
    · have := hL'.1 x hx
      rcases List.mem_cons.1 ((h x).1 (by simp [hx])) with e | e
      · omega
      · exact e
    · have := hM'.1 x hx
      rcases List.mem_cons.1 ((h x).2 (by simp [hx])) with e | e
      · omega
      · exact e

theorem dd_mem {x : Nat → Int} {v : Int} : ∀ {m : Nat}, v ∈ dd x m ↔ ∃ j, j < m ∧ x j = v
  | 0 => by simp [dd]
  | m + 1 => by
    by_cases h : m = 0 ∨ x m ≠ x (m - 1)
    · rw [dd_new h, List.mem_append, dd_mem (m := m), List.mem_singleton]
      refine ⟨?_, fun ⟨j, hj, e⟩ => ?_⟩
      · rintro (⟨j, hj, e⟩ | e)
        · exact ⟨j, by omega, e⟩
        · exact ⟨m, by omega, e.symm⟩
      · by_cases e2 : j = m
        · subst e2; exact .inr e.symm
        · exact .inl ⟨j, by omega, e⟩
    · rw [dd_old (by omega) (by omega), dd_mem (m := m)]
      refine ⟨fun ⟨j, hj, e⟩ => ⟨j, by omega, e⟩, fun ⟨j, hj, e⟩ => ?_⟩
      by_cases e2 : j = m
      · subst e2
        exact ⟨j - 1, by omega, by rw [← e]; omega⟩
      · exact ⟨j, by omega, e⟩
theorem dd_rise {x : Nat → Int} {n : Nat} (h : Rises x n) : ∀ {m : Nat}, m ≤ n → (dd x m).Pairwise (· < ·)
  | 0, _ => List.Pairwise.nil
  | m + 1, hm => by
    have ih := dd_rise h (m := m) (by omega)
    by_cases hn : m = 0 ∨ x m ≠ x (m - 1)
    · rw [dd_new hn, List.pairwise_append]
      refine ⟨ih, List.pairwise_singleton _ _, fun a ha b hb => ?_⟩
      obtain rfl := List.mem_singleton.1 hb
      obtain ⟨j, hj, rfl⟩ := dd_mem.1 ha
      have h1 := h (m - 1) m (by omega) (by omega)
      by_cases e : j = m - 1
      · rw [e]; omega
      · have h2 := h j (m - 1) (by omega) (by omega)
        omega
    · rw [dd_old (by omega) (by omega)]
      exact ih

theorem picks_mem_iff {n : Nat} {p : Nat → Bool} {x : Int} : x ∈ picks n p ↔ ∃ i : Nat, i < n ∧ x = i ∧ p i = true := by
  refine ⟨picks_mem, ?_⟩
  rintro ⟨i, h1, rfl, h2⟩
  simp only [picks, List.mem_map, List.mem_filter, List.mem_range]
  exact ⟨i, ⟨h1, h2⟩, rfl⟩
/-- Numbers that rise, made of the pods' bands, without repeats: the chapter's list. -/
theorem rising_bands {d : PlanD} (h : planOkB d = true) {y : Nat → Int} (hS : Same d.n0 (fun i => d.x0 (i * 4 + 1)) y) (hR : Rises y d.n0) : dd y d.n0 = bandsL d := by
  refine rise_unique (dd_rise hR (Nat.le_refl _)) (bandsL_rise d) fun v => ?_
  rw [dd_mem]
  unfold bandsL
  rw [picks_mem_iff]
  constructor
  · rintro ⟨k, hk, rfl⟩
    obtain ⟨i, hi, e⟩ := hS.back k hk
    have hb := planOk_band h hi
    have e : y k = d.x0 (i * 4 + 1) := e
    rw [e]
    refine ⟨(d.x0 (i * 4 + 1)).toNat, by omega, by omega, ?_⟩
    simp only [hasB, decide_eq_true_eq]
    unfold podsL
    rw [found_yes h]
    refine List.length_pos_of_mem (a := (i : Int)) ?_
    rw [hits_picks, picks_mem_iff]
    exact ⟨i, hi, rfl, by simp; omega⟩
  · rintro ⟨b, hb, rfl, hp⟩
    simp only [hasB, decide_eq_true_eq] at hp
    obtain ⟨v, hv⟩ := List.exists_mem_of_length_pos hp
    obtain ⟨i, hi, _, e⟩ := podsL_mem hv
    obtain ⟨k, hk, ek⟩ := hS.there i hi
    exact ⟨k, hk, ek.trans e⟩
theorem bandsL_no {d : PlanD} (h : planOkB d = false) : bandsL d = [] := by
  refine List.eq_nil_iff_forall_not_mem.2 fun x hx => ?_
  obtain ⟨i, _, _, hp⟩ := picks_mem hx
  simp only [hasB, decide_eq_true_eq] at hp
  unfold podsL at hp
  rw [found_no h] at hp
  exact absurd hp (by decide)

theorem Cells.owns {w : World} {g n : Nat} {y : Nat → Int} {L : List Int} (h : Cells w g n y) (hn : n ≤ 12) (hl : L.length ≤ n) (hL : ∀ j, j < L.length → y j = L.getD j 0) :
    w.ownsRow g 2 1 (.slice (some ⟨g, 0, none⟩) L.length n) L.length (L.map (Value.int .i64)) := by
  obtain ⟨cur, hh, hs, hc⟩ := h
  refine ⟨by simp, .inr ⟨g, n, cur, rfl, Nat.le_refl _, hh, hl, by unfold maxLen; omega, by omega, ?_⟩⟩
  rw [Nat.mul_one]
  refine List.ext_getElem? fun j => ?_
  by_cases hj : j < L.length
  · rw [List.getElem?_take_of_lt hj, Array.getElem?_toList, hc j (by omega), hL j hj]
    simp [List.getD, hj]
  · rw [List.getElem?_take_eq_none (by omega), List.getElem?_eq_none (by simp; omega)]

set_option maxRecDepth 100000 in
set_option maxHeartbeats 1000000 in
/-- The program's rising list, made in the list's own block. -/
theorem rising_any (d : PlanD) (g : Nat) (w : World) (hq : planOkB d = true) (hX : Cells w g d.n0 (fun i => d.x0 (i * 4 + 1))) :
    Calls Tryz.prog 127 #[.slice (some ⟨g, 0, none⟩) d.n0 d.n0] w fun e w' =>
      ∃ v, e = .returned v ∧ w'.ownsRow g 2 1 v (bandsL d).length ((bandsL d).map (Value.int .i64)) ∧ Keeps (· = g) w w' := by
  have hn := (planOk_lock hq).2.2.1
  have HQ := Lib.hid hq
  have HX := Lib.hid hX
  clear hq hX
  go_enter Tryz.func127, Tryz.ntmps127
  go_wp2_with fail
  refine (sort_any g d.n0 _ _ HX.out hn).mono ?_
  rintro e w1 ⟨rfl, y, hY, hS, hR, hK⟩
  have hb := rising_bands HQ.out hS hR
  have hc := compact_any g d.n0 y w1 hY hn
  unfold Compacted at hc
  have hle := dd_le y d.n0
  rw [hb] at hc hle
  have HC := Lib.hid hc
  have HK := Lib.hid hK
  clear hb hc hY hS hR hK
  go_wp2_with fail
  refine HC.out.mono ?_
  rintro e w2 ⟨rfl, z, hZ, hz, hK2⟩
  have HO := Lib.hid (hZ.owns hn hle hz)
  have HK2 := Lib.hid (HK.out.trans hK2)
  clear hZ hz hK2
  go_wp2_with fail
  go_ret
  exact ⟨_, rfl, HO.out, HK2.out⟩
end Go.Proofs.YtbcaginjibnngaaGreatDoor
/- Se -/
set_option linter.unusedVariables false
namespace Go.Proofs.YtbcaginjibnngaaGreatDoor
open Go.RowKit Go.Sort

/-- Block g, of n whole numbers, is being filled: the first k are as f tells. -/
structure Filling (wr : World) (g n k : Nat) (f : Nat → Int) : Prop where
  it : ∃ cur, wr.heap[g]? = some (.cells cur 2 (0, 0)) ∧ cur.size = n ∧ ∀ j, j < k → cur[j]? = some (.int .i64 (f j))
theorem Filling.lt {wr : World} {g n k : Nat} {f : Nat → Int} (h : Filling wr g n k f) : g < wr.heap.size := by
  obtain ⟨cur, hh, _⟩ := h
  exact (Array.getElem?_eq_some_iff.1 hh).1
theorem Filling.below {wr w' : World} {g n k : Nat} {f : Nat → Int} (h : Filling wr g n k f) (hb : Below wr.heap.size wr w') : Filling w' g n k f := by
  have hl := h.lt
  obtain ⟨cur, hh, r⟩ := h
  exact ⟨cur, (hb.block g hl).trans hh, r⟩
theorem Filling.at_ {wr : World} {g n k i : Nat} {f : Nat → Int} (h : Filling wr g n k f) (hi : i < n) : ∃ v, wr.cell? ⟨g, i, none⟩ = some v ∧ wr.frozen? ⟨g, i, none⟩ = false := by
  obtain ⟨cur, hh, hs, _⟩ := h
  exact ⟨cur[i]'(by omega), (cell_of_row _ _ _ _ _ _ hh).trans (Array.getElem?_eq_getElem (by omega)), frozen_of_row _ _ _ _ _ hh⟩
theorem Filling.set {wr : World} {g n k : Nat} {f : Nat → Int} (h : Filling wr g n k f) (hk : k < n) : Filling (wr.setCell ⟨g, k, none⟩ (.int .i64 (f k))) g n (k + 1) f := by
  obtain ⟨cur, hh, hs, hc⟩ := h
  refine ⟨cur.setIfInBounds k (.int .i64 (f k)), ?_, by simp [hs], fun j hj => ?_⟩
  · rw [setCell_eq]
    simp [mapBlock, Array.getElem?_modify, hh, onCells]
  · by_cases e : j = k
    · subst e
      simp [hs, hk]
    · rw [Array.getElem?_setIfInBounds_ne (fun he => e he.symm)]
      exact hc j (by omega)
theorem Filling.full {wr : World} {g n : Nat} {f : Nat → Int} (h : Filling wr g n n f) : Cells wr g n f := ⟨h.it⟩
theorem made_emptyI (w : World) {B : Nat} (hB : B ≤ w.heap.size) : (w.alloc (.cells #[] 2)).ownsRow B 2 1 (.slice (some ⟨w.heap.size, 0, none⟩) 0 0) 0 [] := by
  have := World.ownsRow_made (base := B) (e := 2) (size := 1) w #[] 0 hB (Nat.zero_le _) rfl
  simpa using this
theorem filling_new {w : World} {B g n : Nat} {f : Nat → Int} {xs : List Value} (h : w.ownsRow B 2 1 (.slice (some ⟨g, 0, none⟩) n n) n xs) : B ≤ g ∧ Filling w g n 0 f := by
  rcases h.2 with ⟨h1, _⟩ | ⟨g', cap, cur, h1, hb, h2, h3, h4, h5, h6⟩
  · cases h1
  · injection h1 with h1 _ h7
    injection h1 with h1
    injection h1 with h1 _ _
    subst h1 h7
    exact ⟨hb, cur, h2, by omega, fun j hj => absurd hj (by omega)⟩

set_option maxRecDepth 100000 in
set_option maxHeartbeats 2000000 in
theorem implBands_any (v : Value) (d : PlanD) (w : World) (h : IsPlan w w.heap.size v d) :
    Calls Tryz.prog 109 #[v] w (Listed w (bandsL d)) := by
  have P := Lib.hid h
  obtain ⟨⟨A0, A1, A2, A3, c0, c1, c2, c3, rfl, s0, s1, s2, s3⟩, b0, b1, b2, b3⟩ := h
  have S := Lib.hid s0
  have B := Lib.hid b0
  clear s0 s1 s2 s3 b0 b1 b2 b3
  obtain ⟨i0, hi, hz0, hz1, hz2⟩ := info_parts info_i64
  go_enter Tryz.func109, Tryz.ntmps109
  go_wp2_with fail
  have X1 := Own.box w (planC A0 A1 A2 A3 d.n0 c0 d.n1 c1 d.n2 c2 d.n3 c3 d.l d.p d.t) 29
  refine (planOk_any _ d _ ((P.out.below X1.K (Nat.le_refl _)).more X1.K.size)).mono ?_
  rintro e w2 ⟨rfl, hb⟩
  have X2 := X1.step hb
  clear X1 hb
  have hC := X2.C
  cases hq : planOkB d
  · have HF := Lib.hid (bandsL_no hq)
    clear hq
    go_wp2
    go_ret
    refine ⟨_, rfl, ?_, (X2.alloc (.cells #[] 2)).K⟩
    rw [HF.out]
    exact made_emptyI w2 X2.K.size
  · have HQ := Lib.hid hq
    have hn12 : d.n0 ≤ 12 := (planOk_lock hq).2.2.1
    clear hq
    have hz := X2.K.size
    have hz' := X2.z
    go_wp2_with (at_make; refine wpList_make_full _ rfl _ _ 25 rfl (w.heap.size + 1) 2 i0 (.int .i64 0) 1 Tryz.underlying25 hi hz0 hz1 _ _ _ _ d.n0 rfl rfl rfl rfl ?b2 ?b3 (by omega) ?_)
    case b2 => rw [hz2]; omega
    case b3 => unfold maxLen; omega
    intro w3 hown hgrow
    obtain ⟨hg, F3⟩ := filling_new (f := fun i => d.x0 (i * 4 + 1)) hown
    have X3 : Own w w3 w.heap.size _ := X2.grown hgrow (fun r hr => by cases hr)
    generalize w2.heap.size = g at hg F3 ⊢
    clear hown hgrow hz0 hz1 hz2 hi hC X2 hz hz'
    go_wp2
    go_loopw [15] (fun i wr => ∃ k : Nat, k ≤ d.n0 ∧ i = .int .i64 k ∧ Own w wr w.heap.size (planC A0 A1 A2 A3 d.n0 c0 d.n1 c1 d.n2 c2 d.n3 c3 d.l d.p d.t) ∧ Filling wr g d.n0 k (fun i => d.x0 (i * 4 + 1))) (fun i _ => d.n0 - (intOf i).toNat)
    case atStart => exact ⟨0, Nat.zero_le _, rfl, X3, F3⟩
    case round =>
      clear X3 F3
      obtain ⟨k, hk, rfl, X, F⟩ := hrel
      have hC := X.C
      have hz := X.z
      by_cases hlt : k < d.n0
      · go_wp2_with (go_at_call 82; refine (bandOfPod_any A0 A1 A2 A3 d.n0 c0 d.n1 c1 d.n2 c2 d.n3 c3 d.l d.p d.t d.x0 k _ (S.out.own X) hlt B.out).mono ?_; rintro e w4 ⟨rfl, hb4⟩; have X4 := X.step hb4; have F4 := F.below hb4; obtain ⟨v0, t0, f0⟩ := F4.at_ hlt; clear hb4)
        exact ⟨⟨k + 1, by omega, by go_num, X4.far (p := ⟨g, k, none⟩) (by show w.heap.size ≤ g; omega) (by show g ≠ w.heap.size; omega) _, F4.set hlt⟩, by simp [intOf]; omega⟩
      · obtain rfl : k = d.n0 := by omega
        have HR := Lib.hid (rising_any d g wr HQ.out F.full)
        go_wp2_with fail
        refine HR.out.mono ?_
        rintro e w5 ⟨v', rfl, O5, K5⟩
        have HO := Lib.hid O5
        have HK := Lib.hid K5
        clear O5 K5
        go_wp2_with fail
        go_ret
        exact ⟨_, rfl, ownsRow_base HO.out (by omega), X.K.trans (HK.out.below X.K.size (fun b hb e => by omega))⟩

set_option maxRecDepth 100000 in
set_option maxHeartbeats 2000000 in
theorem specBands_any (v : Value) (d : PlanD) (w : World) (h : IsPlan w w.heap.size v d) (hn : d.n0 ≤ 1048576) :
    Calls Tryz.prog 113 #[v] w (Listed w (bandsL d)) := by
  have P := Lib.hid h
  have HN := Lib.hid hn
  obtain ⟨⟨A0, A1, A2, A3, c0, c1, c2, c3, rfl, s0, s1, s2, s3⟩, b0, b1, b2, b3⟩ := h
  clear s0 s1 s2 s3 b0 b1 b2 b3 hn
  obtain ⟨i0, hi, hz0, hz1, hz2⟩ := info_parts info_i64
  have HI := Lib.hid hi
  have HZ0 := Lib.hid hz0
  have HZ1 := Lib.hid hz1
  have HZ2 := Lib.hid hz2
  clear hi hz0 hz1 hz2
  go_enter Tryz.func113, Tryz.ntmps113
  go_wp2
  have X1 := (Own.box w (planC A0 A1 A2 A3 d.n0 c0 d.n1 c1 d.n2 c2 d.n3 c3 d.l d.p d.t) 29).alloc (.cells #[] 2)
  have O1 := made_emptyI (w.alloc (.cells (planC A0 A1 A2 A3 d.n0 c0 d.n1 c1 d.n2 c2 d.n3 c3 d.l d.p d.t) 29)) (B := w.heap.size + 1) (by simp)
  rw [heap_size_alloc_] at O1
  go_loopw [3, 4] (fun v i wr => ∃ k : Nat, k ≤ 6 ∧ i = .int .i64 k ∧ wr.ownsRow (w.heap.size + 1) 2 1 v (picks k (hasB d)).length ((picks k (hasB d)).map (Value.int .i64)) ∧
    Own w wr w.heap.size (planC A0 A1 A2 A3 d.n0 c0 d.n1 c1 d.n2 c2 d.n3 c3 d.l d.p d.t)) (fun _ i _ => 6 - (intOf i).toNat)
  case atStart => exact ⟨0, Nat.zero_le _, rfl, O1, X1⟩
  case round =>
    clear O1 X1
    obtain ⟨k, hk, rfl, O, X⟩ := hrel
    have HO := Lib.hid O
    clear O
    have hC := X.C
    have hz := X.z
    by_cases hlt : k < 6
    · have hle := picks_le k (hasB d)
      have h63 : (picks k (hasB d)).length + 1 ≤ maxLen := by unfold maxLen; omega
      have hby : ((picks k (hasB d)).length + 1) * 8 ≤ 140737488355328 := by omega
      have H63 := Lib.hid h63
      have HBY := Lib.hid hby
      clear h63 hby hle
      have hp := Lib.hid (specPods_any _ d k _ ((P.out.below X.K (Nat.le_refl _)).more X.K.size) HN.out)
      have hl0 := podsL_le d k
      have hl1 := HN.out
      have hl : (podsL d k).length ≤ 1048576 := by omega
      clear hl0 hl1
      cases hv : hasB d k
      · have HV := Lib.hid (picks_no hv)
        simp only [hasB, decide_eq_false_iff_not] at hv
        go_wp2_with (go_at_call 93; refine hp.out.mono ?_; rintro e w2 ⟨v', rfl, O2, hb2⟩; obtain ⟨A', c', g', rfl, -⟩ := open_list O2; have X2 := X.step hb2)
        refine ⟨⟨k + 1, by omega, by go_num, by rw [HV.out]; exact ownsRow_below HO.out hb2, X2⟩, by simp [intOf]; omega⟩
      · have HV := Lib.hid (picks_yes hv)
        simp only [hasB, decide_eq_true_eq] at hv
        go_wp2_with (first
          | (go_at_call 93; refine hp.out.mono ?_; rintro e w2 ⟨v', rfl, O2, hb2⟩; obtain ⟨A', c', g', rfl, -⟩ := open_list O2; have X2 := X.step hb2; clear O2)
          | (at_builtin; refine wpList_append_own _ rfl _ _ 25 rfl (w.heap.size + 1) 2 i0 (.int .i64 0) 1 8 Tryz.underlying25 HI.out HZ0.out HZ1.out HZ2.out rfl (by decide) _ _ _ rfl ((ownsRow_below HO.out hb2).alloc _) ⟨w2.heap.size, 0, none⟩ 1 1 [.int .i64 k] rfl rfl (cell_one_new _ _ _) (fun x hx => by simp at hx; subst hx; rfl) H63.out HBY.out (by have := X2.z; simp; omega) ?_; intro v' w4 hown' hgrow hnil))
        have X3 := X2.alloc (.cells #[.int .i64 k] 2)
        have OB := (ownsRow_below HO.out hb2)
        refine ⟨⟨k + 1, by omega, by go_num, ?_, ?_⟩, by simp [intOf]; omega⟩
        · rw [HV.out]
          simpa using hown'
        · exact X3.grown hgrow fun g hg => by have := (OB.lt g hg).1; omega
    · obtain rfl : k = 6 := by omega
      go_wp2
      go_ret
      exact ⟨_, rfl, ownsRow_base HO.out (Nat.le_succ _), X.K⟩
end Go.Proofs.YtbcaginjibnngaaGreatDoor
/- Sf -/
set_option linter.unusedVariables false
namespace Go.Proofs.YtbcaginjibnngaaGreatDoor
open Go.RowKit

theorem step_le {L : List Int} {b : Int} {k : Nat} (h : ∀ j, j < k → L.getD j 0 ≤ b) (hk : L.getD k 0 ≤ b) : ∀ j, j < k + 1 → L.getD j 0 ≤ b := fun j hj => by
  by_cases e : j = k
  · rw [e]; exact hk
  · exact h j (by omega)
theorem firstOver_hit {L : List Int} {b : Int} {k : Nat} (hk : k < L.length) (h : ∀ j, j < k → L.getD j 0 ≤ b) (hb : b < L.getD k 0) : firstOver L b = L.getD k 0 := by
  rw [getD_at hk] at hb ⊢
  exact firstOver_at hk (fun j hj => by have := h j hj; rwa [getD_at (by omega)] at this) hb
theorem firstOver_miss {L : List Int} {b : Int} (h : ∀ j, j < L.length → L.getD j 0 ≤ b) : firstOver L b = -1 := by
  refine firstOver_none fun x hx => ?_
  obtain ⟨j, hj, rfl⟩ := List.getElem_of_mem hx
  have := h j hj
  rwa [getD_at hj] at this

set_option maxRecDepth 100000 in
set_option maxHeartbeats 2000000 in
theorem implNext_any (v : Value) (d : PlanD) (b : Int) (w : World) (h : IsPlan w w.heap.size v d) :
    Calls Tryz.prog 84 #[v, .int .i64 b] w fun e w' => e = .returned (.int .i64 (nextL d b)) ∧ Below w.heap.size w w' := by
  have P := Lib.hid h
  obtain ⟨⟨A0, A1, A2, A3, c0, c1, c2, c3, rfl, s0, s1, s2, s3⟩, b0, b1, b2, b3⟩ := h
  clear s0 s1 s2 s3 b0 b1 b2 b3
  go_enter Tryz.func84, Tryz.ntmps84
  go_wp2_with fail
  have X1 := Own.box w (planC A0 A1 A2 A3 d.n0 c0 d.n1 c1 d.n2 c2 d.n3 c3 d.l d.p d.t) 29
  refine (implBands_any _ d _ ((P.out.below X1.K (Nat.le_refl _)).more X1.K.size)).mono ?_
  rintro e w2 ⟨v', rfl, O2, hb⟩
  have K2 := Lib.hid (X1.step hb).K
  obtain ⟨A, c, g, rfl, hA, hg, hgl, R⟩ := open_list O2
  have HA := Lib.hid hA
  have hle := bandsL_le d
  have HF := Lib.hid (show ∀ x, firstOver (bandsL d) x = nextL d x from fun _ => rfl)
  clear X1 hb O2 hA hg hgl
  generalize bandsL d = L at *
  have HR := Lib.hid R
  clear R
  go_wp2
  go_loopw [10] (fun i wr => ∃ k : Nat, k ≤ L.length ∧ i = .int .i64 k ∧ wr = w2 ∧ ∀ j, j < k → L.getD j 0 ≤ b) (fun i _ => L.length - (intOf i).toNat)
  case atStart => exact ⟨0, Nat.zero_le _, rfl, rfl, fun j hj => absurd hj (by omega)⟩
  case round =>
    obtain ⟨k, hk, rfl, rfl, hall⟩ := hrel
    have HL := Lib.hid hall
    clear hall
    by_cases hlt : k < L.length
    · obtain rfl := HA.out (by omega)
      obtain ⟨t0, f0⟩ : wr.cell? ⟨g, k, none⟩ = some (.int .i64 (L.getD k 0)) ∧ wr.frozen? ⟨g, k, none⟩ = false := HR.out k hlt
      generalize hx : L.getD k 0 = x at t0
      have HX := Lib.hid hx
      clear hx
      by_cases hb : b < x
      · go_wp2
        go_ret
        exact ⟨ret_int (by rw [← HF.out, firstOver_hit hlt HL.out (by rw [HX.out]; exact hb), HX.out]), K2.out⟩
      · go_wp2
        exact ⟨⟨k + 1, by omega, by go_num, by trivial, step_le HL.out (by rw [HX.out]; omega)⟩, by simp [intOf]; omega⟩
    · obtain rfl : k = L.length := by omega
      go_wp2
      go_ret
      exact ⟨ret_int (by rw [← HF.out, firstOver_miss HL.out]), K2.out⟩

set_option maxRecDepth 100000 in
set_option maxHeartbeats 2000000 in
theorem specNext_any (v : Value) (d : PlanD) (b : Int) (w : World) (h : IsPlan w w.heap.size v d) (hn : d.n0 ≤ 1048576) :
    Calls Tryz.prog 96 #[v, .int .i64 b] w fun e w' => e = .returned (.int .i64 (nextL d b)) ∧ Below w.heap.size w w' := by
  have P := Lib.hid h
  have HN := Lib.hid hn
  obtain ⟨⟨A0, A1, A2, A3, c0, c1, c2, c3, rfl, s0, s1, s2, s3⟩, b0, b1, b2, b3⟩ := h
  clear s0 s1 s2 s3 b0 b1 b2 b3 hn
  go_enter Tryz.func96, Tryz.ntmps96
  go_wp2_with fail
  have X1 := Own.box w (planC A0 A1 A2 A3 d.n0 c0 d.n1 c1 d.n2 c2 d.n3 c3 d.l d.p d.t) 29
  refine (specBands_any _ d _ ((P.out.below X1.K (Nat.le_refl _)).more X1.K.size) HN.out).mono ?_
  rintro e w2 ⟨v', rfl, O2, hb⟩
  have K2 := Lib.hid (X1.step hb).K
  obtain ⟨A, c, g, rfl, hA, hg, hgl, R⟩ := open_list O2
  have HA := Lib.hid hA
  have hle := bandsL_le d
  have HF := Lib.hid (show ∀ x, firstOver (bandsL d) x = nextL d x from fun _ => rfl)
  clear X1 hb O2 hA hg hgl
  generalize bandsL d = L at *
  have HR := Lib.hid R
  clear R
  go_wp2
  go_loopw [6] (fun i wr => ∃ k : Nat, k ≤ L.length ∧ i = .int .i64 k ∧ wr = w2 ∧ ∀ j, j < k → L.getD j 0 ≤ b) (fun i _ => L.length - (intOf i).toNat)
  case atStart => exact ⟨0, Nat.zero_le _, rfl, rfl, fun j hj => absurd hj (by omega)⟩
  case round =>
    obtain ⟨k, hk, rfl, rfl, hall⟩ := hrel
    have HL := Lib.hid hall
    clear hall
    by_cases hlt : k < L.length
    · obtain rfl := HA.out (by omega)
      obtain ⟨t0, f0⟩ : wr.cell? ⟨g, k, none⟩ = some (.int .i64 (L.getD k 0)) ∧ wr.frozen? ⟨g, k, none⟩ = false := HR.out k hlt
      generalize hx : L.getD k 0 = x at t0
      have HX := Lib.hid hx
      clear hx
      by_cases hb : b < x
      · go_wp2
        go_ret
        exact ⟨ret_int (by rw [← HF.out, firstOver_hit hlt HL.out (by rw [HX.out]; exact hb), HX.out]), K2.out⟩
      · go_wp2
        exact ⟨⟨k + 1, by omega, by go_num, by trivial, step_le HL.out (by rw [HX.out]; omega)⟩, by simp [intOf]; omega⟩
    · obtain rfl : k = L.length := by omega
      go_wp2
      go_ret
      exact ⟨ret_int (by rw [← HF.out, firstOver_miss HL.out]), K2.out⟩
end Go.Proofs.YtbcaginjibnngaaGreatDoor
/- Xc -/
set_option linter.unusedVariables false
namespace Go.Proofs.YtbcaginjibnngaaGreatDoor
open Go.RowKit

/-- A block of so many cells. -/
def Row1 (w : World) (g cap : Nat) : Prop := ∃ cur, w.heap[g]? = some (.cells cur 2) ∧ cur.size = cap
theorem Row1.set {w : World} {g cap : Nat} (h : Row1 w g cap) (b i : Nat) (v : Value) : Row1 (w.setCell ⟨b, i, none⟩ v) g cap := by
  obtain ⟨cur, hc, hs⟩ := h
  by_cases e : g = b
  · subst e
    exact ⟨_, heap_setCell_same w g i cur _ v hc, by simpa using hs⟩
  · exact ⟨cur, (heap_setCell_other w ⟨b, i, none⟩ g v e).trans hc, hs⟩
theorem Row1.sets {g cap : Nat} (b : Nat) : ∀ (vs : List Value) (o : Nat) {w : World}, Row1 w g cap → Row1 (w.setCells b o vs) g cap
  | [], _, _, h => h
  | v :: vs, o, _, h => Row1.sets b vs (o + 1) (h.set b o v)
theorem grown_sets (g : Nat) : ∀ (vs : List Value) (o : Nat) (w : World), Keeps (· = g) w (w.setCells g o vs)
  | [], _, w => Keeps.refl _ w
  | v :: vs, o, w => ((Keeps.refl (· = g) w).set rfl v).trans (grown_sets g vs (o + 1) _)
theorem Keeps.below' {w w1 w2 : World} (h : Keeps (· = w.heap.size) w1 w2) (hb : Below w.heap.size w w1) : Below w.heap.size w w2 := hb.trans (h.below hb.size fun b hlt e => by omega)
theorem Row1.own {w : World} {g cap n B : Nat} {xs : List Value} (h : Row1 w g cap) (hx : ∀ j v, xs[j]? = some v → w.cell? ⟨g, j, none⟩ = some v) (hl : xs.length = n) (hB : B ≤ g) (hn : n ≤ cap) (hm : cap ≤ maxLen) :
    w.ownsRow B 2 1 (.slice (some ⟨g, 0, none⟩) n cap) n xs := by
  obtain ⟨cur, hc, hs⟩ := h
  refine ⟨by omega, .inr ⟨g, cap, cur, rfl, hB, hc, hn, hm, by omega, ?_⟩⟩
  apply List.ext_getElem?
  intro j
  by_cases hj : j < n
  · have h1 := hx j _ (List.getElem?_eq_getElem (show j < xs.length by omega))
    rw [cell_of_row _ _ _ _ _ _ hc] at h1
    rw [List.getElem?_take_of_lt (by omega), Array.getElem?_toList, h1, List.getElem?_eq_getElem (by omega)]
  · rw [List.getElem?_eq_none (by rw [List.length_take]; omega), List.getElem?_eq_none (by omega)]
theorem lkCs_put (l : List Int) (i : Nat) (x : Int) : lkCs (l.take i ++ x :: l.drop i) = (lkCs l).take i ++ .int .i64 x :: (lkCs l).drop i := by simp [lkCs, List.map_take, List.map_drop]
/-- What one put into a list answers. -/
def Puts (w : World) (B : Nat) (v : Value) (l : List Int) (e : Ending) (w' : World) : Prop := ∃ v', e = .returned v' ∧ LkR w' B v' l ∧ Keeps (fun g => v.ownBlock = some g) w w'
theorem Keeps.of_grownX {w w' : World} {v : Value} (h : w.grownBy w' v.ownBlock) : Keeps (fun g => v.ownBlock = some g) w w' := ⟨h.os, h.tape, h.output, h.size, fun b hb hn => h.block b hb fun e => hn e.symm⟩
theorem lk_oneC (l : List Int) : ∀ v ∈ lkCs l, v.oneCell' = true := lkCs_one l

theorem put_len {l : List Int} {x : Int} {i n : Nat} (hi : i ≤ n) (hn : l.length = n) : (l.take i ++ x :: l.drop i).length = n + 1 := by
  simp
  omega
theorem put_cells {W : World} {g i : Nat} {P D : List Value} {y : Value} (hi : P.length = i) (hP : ∀ j u, P[j]? = some u → W.cell? ⟨g, j, none⟩ = some u) (hy : W.cell? ⟨g, i, none⟩ = some y)
    (hD : ∀ j u, D[j]? = some u → W.cell? ⟨g, i + 1 + j, none⟩ = some u) : ∀ j u, (P ++ y :: D)[j]? = some u → W.cell? ⟨g, j, none⟩ = some u := by
  intro j u hj
  by_cases h1 : j < i
  · exact hP j u (by rwa [List.getElem?_append_left (by omega)] at hj)
  · rw [List.getElem?_append_right (by omega), hi] at hj
    by_cases h2 : j = i
    · subst h2
      rw [Nat.sub_self] at hj
      exact hy.trans hj
    · obtain ⟨k, rfl⟩ : ∃ k, j = i + 1 + k := ⟨j - (i + 1), by omega⟩
      rw [show i + 1 + k - i = k + 1 by omega] at hj
      exact hD k u hj

section
variable (l : List Int) (x : Int) (w : World) (B vb : Nat)

set_option maxRecDepth 100000 in
set_option maxHeartbeats 4000000 in
theorem insert_end (v : Value) (hB : B ≤ w.heap.size) (h : LkR w B v l) (hl : l.length ≤ 1048576) (hv : w.heap[vb]? = some (.cells #[.int .i64 x] 2)) :
    Calls Tryz.prog 101 #[v, .int .i64 l.length, .slice (some ⟨vb, 0, none⟩) 1 1] w (Puts w B v (l ++ [x])) := by
  have h0 : LkR w B v l := h
  obtain ⟨A, c, rfl, r0, S0⟩ := open_rowR h
  have hcap : l.length ≤ c ∧ c ≤ maxLen := by
    rcases h0.2 with ⟨e, hn⟩ | ⟨g, cap, cur, e, -, -, h1, h2, -⟩
    · injection e with _ _ e
      unfold maxLen
      omega
    · injection e with _ _ e
      omega
  obtain ⟨h1c, h2c⟩ := hcap
  unfold maxLen at h2c
  obtain ⟨i0, hi0, hz0, hz1, hz2⟩ := info_parts infoS_i64
  have HV := Lib.hid hv
  have H0 := Lib.hid h0
  have HI := Lib.hid hi0
  have HZ0 := Lib.hid hz0
  have HZ1 := Lib.hid hz1
  have HZ2 := Lib.hid hz2
  have HS : Hid (SlV w w.heap.size 1 (some ⟨vb, 0, none⟩) 1 (lkCs [x])) := Lib.hid ⟨rfl, fun _ => ⟨vb, 0, rfl, (Array.getElem?_eq_some_iff.1 hv).1, fun j hj => by
    obtain rfl : j = 0 := by omega
    rw [cell_of_row _ _ _ _ _ _ hv]
    rfl⟩⟩
  clear hi0 hz0 hz1 hz2 hv h h0 S0
  go_enter Tryz.func101, Tryz.ntmps101
  go_wp2_with
    (at_builtin
     refine wpList_append_slv rfl _ _ 25 2 i0 (.int .i64 0) 1 8 rfl Tryz.underlying25 HI.out HZ0.out HZ1.out HZ2.out rfl (by decide) (by decide) B (.slice A l.length _) l.length (lkCs l) rfl H0.out (some ⟨vb, 0, none⟩) 1 1 (lkCs [x]) rfl (fun e => by cases e) HS.out (lkCs_one [x]) (by omega) hB ?_
     intro v' w2 hown hgrow
     have HO := Lib.hid hown
     have HG := Lib.hid hgrow
     clear hown hgrow)
  all_goals
    go_ret
    exact ⟨_, rfl, LkR.push x HO.out, Keeps.of_grownX (by cases A <;> exact HG.out)⟩

set_option maxRecDepth 100000 in
set_option maxHeartbeats 4000000 in
theorem insert_room (g c i : Nat) (hB : B ≤ w.heap.size) (h : LkR w B (.slice (some ⟨g, 0, none⟩) l.length c) l) (hi : i < l.length) (hc : l.length < c) (hne : vb ≠ g) (hv : w.heap[vb]? = some (.cells #[.int .i64 x] 2)) :
    Calls Tryz.prog 101 #[.slice (some ⟨g, 0, none⟩) l.length c, .int .i64 i, .slice (some ⟨vb, 0, none⟩) 1 1] w (Puts w B (.slice (some ⟨g, 0, none⟩) l.length c) (l.take i ++ x :: l.drop i)) := by
  obtain ⟨n, hn⟩ : ∃ n, l.length = n := ⟨_, rfl⟩
  have hcl : (lkCs l).length = n := by rw [lkCs_len]; omega
  have hcs := h.cells (g := g) rfl
  obtain ⟨cur, hcur, hcsz, hcm, hBg⟩ : ∃ cur, w.heap[g]? = some (.cells cur 2) ∧ cur.size = c ∧ c ≤ maxLen ∧ B ≤ g := by
    rcases h.2 with ⟨e, -⟩ | ⟨g', cap, cur, e, hb, hh, -, h2, h3, -⟩
    · cases e
    · injection e with e1 e2 e3
      injection e1 with e1
      injection e1 with e1 _ _
      subst e1 e3
      exact ⟨cur, hh, by omega, h2, hb⟩
  have HR : Hid (Row1 w g c) := Lib.hid ⟨cur, hcur, hcsz⟩
  have hfz : ∀ o, w.frozen? ⟨g, o, none⟩ = false := fun o => by simp [World.frozen?, hcur]
  have hsome : ∀ k, k < c → (w.cell? ⟨g, k, none⟩).isSome = true := fun k hk => by
    rw [cell_of_row _ _ _ _ _ _ hcur, Array.getElem?_eq_getElem (by omega)]
    rfl
  have hcells : ∀ j u, (lkCs l)[j]? = some u → w.cell? ⟨g, j, none⟩ = some u := fun j u hu => by
    have := hcs j u hu
    rwa [add_zero_block] at this
  have hvc : w.cell? ⟨vb, 0, none⟩ = some (.int .i64 x) := by rw [cell_of_row _ _ _ _ _ _ hv]; rfl
  have hsz : (Tryz.prog.info? 2).map (·.size) = some 1 := by kernel_rfl
  have hOV : ∀ lb cb, (callFunc 116 #[.slice (some ⟨vb, 0, none⟩) 1 1, .slice (some ⟨g, i + 1, none⟩) lb cb]).run Tryz.prog w = .ok (.value (.bool false)) w := fun lb cb => by
    rw [run_callFunc_extern Tryz.func116 (by kernel_rfl) (by kernel_rfl) (by kernel_rfl) (e := Extern.SlicesOverlaps.overlaps #[25, 25] #[4]) (by kernel_rfl),
      Lib.run_overlaps_apart w 25 4 2 (by kernel_rfl) 1 (fun _ => by kernel_rfl) ⟨vb, 0, none⟩ ⟨g, i + 1, none⟩ 1 1 lb cb hne 2 2 1 c (by simp [World.shape?, hv]) (by simp [World.shape?, hcur, hcsz]) (by omega) (by simp [World.frozen?, hv]) (by simp [World.frozen?, hv])]
    rfl
  obtain ⟨D, hD⟩ : ∃ D, (lkCs l).drop i = D := ⟨_, rfl⟩
  have hdl : D.length = n - i := by rw [← hD, List.length_drop, hcl]
  have hDc : ∀ j u, D[j]? = some u → w.cell? ⟨g, i + j, none⟩ = some u := fun j u hu => hcells _ _ (by rwa [← hD, List.getElem?_drop] at hu)
  have hD1 : ∀ u ∈ D, u.oneCell' = true := fun u hu => lk_oneC l u (List.mem_of_mem_drop (hD ▸ hu))
  have hcp1 : ∀ ty dc sc, (Builtin.copy_ #[25, 25] ty #[.slice (some ⟨g, i + 1, none⟩) (n - i) dc, .slice (some ⟨g, i, none⟩) (n + 1 - i) sc]).run Tryz.prog w.drew = .ok (goInt D.length) (w.drew.setCells g (i + 1) D) := fun ty dc sc =>
    run_copy_cells w.drew _ _ ty 2 g (i + 1) (n - i) dc ⟨g, i, none⟩ (n + 1 - i) sc D (by kernel_rfl) hsz (by rw [hdl]; simp only [Nat.min_def]; split <;> omega)
      (fun j u hj => by rw [Addr.add_lit]; exact hDc j u hj) (fun j hj => hsome _ (by omega)) (fun j hj => hfz _) hD1
  obtain ⟨W1, hW1⟩ : ∃ W1, W1 = w.drew.setCells g (i + 1) D := ⟨_, rfl⟩
  rw [← hW1] at hcp1
  have hs1 : ∀ k, k < c → (W1.cell? ⟨g, k, none⟩).isSome = true := fun k hk => by
    rw [hW1]
    exact isSome_setCells g D (i + 1) w.drew (fun j hj => hsome _ (by omega)) k (hsome k hk)
  have hcp2 : ∀ (W : World), (∀ x, W.cell? x = W1.cell? x) → (∀ x, W.frozen? x = W1.frozen? x) → ∀ ty dc, (Builtin.copy_ #[25, 25] ty #[.slice (some ⟨g, i, none⟩) (n + 1 - i) dc, .slice (some ⟨vb, 0, none⟩) 1 1]).run Tryz.prog W = .ok (goInt [Value.int .i64 x].length) (W.setCells g i [.int .i64 x]) := fun W hWc hWf ty dc =>
    run_copy_cells W _ _ ty 2 g i (n + 1 - i) dc ⟨vb, 0, none⟩ 1 1 [.int .i64 x] (by kernel_rfl) hsz (by simp only [Nat.min_def, List.length_singleton]; split <;> omega)
      (fun j u hj => by
        have hj0 : j = 0 := by have := (List.getElem?_eq_some_iff.1 hj).1; simpa using this
        subst hj0
        rw [Addr.add_lit, hWc, hW1, World.cell?_setCells_out g _ _ _ _ (fun h _ => absurd h hne)]
        exact hvc.trans hj)
      (fun j hj => by rw [hWc]; exact hs1 _ (by simp at hj; omega)) (fun j hj => by rw [hWf, hW1, World.frozen?_setCells]; exact hfz _) (fun u hu => by simp at hu; subst hu; rfl)
  have hl1 : ¬ ((i : Int) = (n : Int)) := by omega
  have hw1 : IntKind.i64.wrap ((i : Int) + 1) = (i : Int) + 1 := by rw [IntKind.wrap_i64]; unfold maxLen at hcm; omega
  have hw2 : IntKind.i64.wrap ((n : Int) + 1) = (n : Int) + 1 := by rw [IntKind.wrap_i64]; unfold maxLen at hcm; omega
  unfold maxLen at hcm
  rw [hn]
  have mixed : Tryz.prog.follows .mixedOrders = true := by kernel_rfl
  have hb1 : (0 : Int) ≤ (i : Int) + 1 := by omega
  have htn : ((i : Int) + 1).toNat = i + 1 := by omega
  have hb2 : ¬ (c = i + 1) := by omega
  have hb3 : (i : Int) + 1 ≤ (n : Int) + 1 := by omega
  have hb5 : (i : Int) ≤ (n : Int) + 1 := by omega
  have hb4 : ¬ (c = i) := by omega
  have hin : i < n := by omega
  have hnc : n < c := by omega
  have HN := Lib.hid hn
  have H0 := Lib.hid h
  clear h hn hcs hi hc hcur
  go_enter Tryz.func101, Tryz.ntmps101
  go_wp2_with (simp only [hOV])
  go_region_law_o (refine step_copy_runI rfl _ _ 25 25 rfl _ _ (by simp [Act.eval, Act.put]) (by simp [Act.eval, Act.put]) (hcp1 _ _ _) ?_)
  go_wp2_with
    (at_builtin
     refine wpList_copy_runI _ rfl _ _ 25 25 rfl _ _ rfl rfl (hcp2 _ (fun _ => rfl) (fun _ => rfl) _ _) ?_)
  go_ret
  have kp := (Keeps.of_below (S := (· = g)) (Below.refl w.heap.size w).drew).trans ((grown_sets g D (i + 1) w.drew).trans (grown_sets g [.int .i64 x] i _))
  refine ⟨.slice (some ⟨g, 0, none⟩) (n + 1) c, rfl, ?_, ?_⟩
  · unfold LkR
    rw [put_len (Nat.le_of_lt hin) HN.out, lkCs_put, hD]
    refine Row1.own (((show Row1 w.drew g c from HR.out).sets g D (i + 1)).sets g [.int .i64 x] i) (put_cells (i := i) (by rw [List.length_take, hcl]; omega) ?_ ?_ ?_) (by simp [hdl, hcl] <;> omega) hBg (by omega) (by unfold maxLen; omega)
    · intro j u hj
      have hj1 : j < i := by have := (List.getElem?_eq_some_iff.1 hj).1; rw [List.length_take] at this; omega
      rw [World.cell?_setCells_out g _ _ _ _ (fun _ _ => Or.inl hj1), World.cell?_setCells_out g _ _ _ _ (fun _ _ => Or.inl (show j < i + 1 by omega))]
      exact hcells j u (by rwa [List.getElem?_take_of_lt hj1] at hj)
    · have := World.cell?_setCells_in g [.int .i64 x] i (w.drew.setCells g (i + 1) D) (fun j hj => by rw [← hW1]; exact hs1 _ (by simp at hj; omega)) 0 (by simp)
      simpa using this
    · intro j u hj
      have hj1 := (List.getElem?_eq_some_iff.1 hj).1
      rw [World.cell?_setCells_out g _ _ _ _ (fun _ _ => Or.inr (show i + 1 ≤ i + 1 + j by omega)), World.cell?_setCells_in g D (i + 1) w.drew (fun j hj => hsome _ (by omega)) j hj1]
      rw [← hj, List.getElem?_eq_getElem hj1]
  · refine kp.mono fun b hb => ?_
    subst hb
    rfl

set_option maxRecDepth 100000 in
set_option maxHeartbeats 4000000 in
theorem insert_grow (g c i : Nat) (hB : B ≤ w.heap.size) (h : LkR w B (.slice (some ⟨g, 0, none⟩) l.length c) l) (hi : i < l.length) (hlc : l.length ≤ c) (hc : c < l.length + 1) (hl : l.length ≤ 1048576) (hv : w.heap[vb]? = some (.cells #[.int .i64 x] 2)) :
    Calls Tryz.prog 101 #[.slice (some ⟨g, 0, none⟩) l.length c, .int .i64 i, .slice (some ⟨vb, 0, none⟩) 1 1] w (Puts w B (.slice (some ⟨g, 0, none⟩) l.length c) (l.take i ++ x :: l.drop i)) := by
  obtain ⟨n, hn⟩ : ∃ n, l.length = n := ⟨_, rfl⟩
  have hcl : (lkCs l).length = n := by rw [lkCs_len]; omega
  have hcs := h.cells (g := g) rfl
  have hcells : ∀ j u, (lkCs l)[j]? = some u → w.cell? ⟨g, j, none⟩ = some u := fun j u hu => by
    have := hcs j u hu
    rwa [add_zero_block] at this
  have hg : g < w.heap.size := (h.lt rfl).2
  have hvl : vb < w.heap.size := (Array.getElem?_eq_some_iff.1 hv).1
  have hvc : w.cell? ⟨vb, 0, none⟩ = some (.int .i64 x) := by rw [cell_of_row _ _ _ _ _ _ hv]; rfl
  have hsz : (Tryz.prog.info? 2).map (·.size) = some 1 := by kernel_rfl
  obtain ⟨i0, hi0, hz0, hz1, hz2⟩ := info_parts infoS_i64
  have hk : n + 1 - i + i = n + 1 := by omega
  have hkk : (n : Int) + 1 - (i : Int) = ((n + 1 - i : Nat) : Int) := by omega
  have hold : (Builtin.firstCells i0.size i (.slice (some ⟨g, 0, none⟩) i c)).run Tryz.prog w.drew = .ok ((lkCs l).take i).toArray w.drew := by
    rw [hz1]
    refine run_firstCells_some w.drew 1 i ⟨g, 0, none⟩ i c ((lkCs l).take i) (by rw [List.length_take]; omega) (fun j u hj => ?_)
    rw [add_zero_block]
    have hj1 : j < i := by have := (List.getElem?_eq_some_iff.1 hj).1; rw [List.length_take] at this; omega
    exact hcells j u (by rwa [List.getElem?_take_of_lt hj1] at hj)
  obtain ⟨G, hG⟩ : ∃ G, G = grownCap w (n + 1) c 2 := ⟨_, rfl⟩
  obtain ⟨R, hR⟩ : ∃ R : Array Value, R = ((lkCs l).take i).toArray ++ Builtin.zeroCells (Value.int .i64 0).cells (n + 1 - i) ++ Builtin.zeroCells (Value.int .i64 0).cells (G - (n + 1)) := ⟨_, rfl⟩
  have hrz : ∀ ty, (Builtin.append_ #[25, 3] ty #[.slice (some ⟨g, 0, none⟩) i c, .int .i64 ((n : Int) + 1 - (i : Int))]).run Tryz.prog w = .ok (.slice (some ⟨w.heap.size, 0, none⟩) (n + 1) G) (w.drew.alloc (.cells R 2)) := fun ty => by
    have h := Lib.run_append_grow_zeros w 25 3 ty 2 i0 _ .i64 .i64 (by kernel_rfl) (by kernel_rfl) hi0 hz0 (some ⟨g, 0, none⟩) i c ((lkCs l).take i) hold (n + 1 - i) (by omega) (by omega) (by omega) (by omega) (by rw [hz2]; omega) (by rw [hz2, show i + (n + 1 - i) = n + 1 by omega]; exact growslice_fits (by omega) (by omega))
    rw [show i + (n + 1 - i) = n + 1 by omega, ← hG, ← hR] at h
    rw [hkk]
    exact h
  have hGn : n + 1 ≤ G := by rw [hG]; exact grownCap_ge w _ _ _
  have hGm : G ≤ maxLen := by rw [hG]; exact grownCap_le_maxLen w (n + 1) c _ (by unfold maxLen; omega)
  have hRs : R.size = G := by
    rw [hR]
    simp [Builtin.zeroCells, Value.cells, hcl]
    omega
  obtain ⟨W1, hW1⟩ : ∃ W1, W1 = w.drew.alloc (.cells R 2) := ⟨_, rfl⟩
  rw [← hW1] at hrz
  have hR1 : W1.heap[w.heap.size]? = some (.cells R 2) := by rw [hW1]; exact heap_alloc_new w.drew _
  have hs1 : ∀ k, k < G → (W1.cell? ⟨w.heap.size, k, none⟩).isSome = true := fun k hk => by
    rw [cell_of_row _ _ _ _ _ _ hR1, Array.getElem?_eq_getElem (by omega)]
    rfl
  have hf1 : ∀ k, W1.frozen? ⟨w.heap.size, k, none⟩ = false := fun k => by simp [World.frozen?, hR1]
  have hb1 : Below w.heap.size w W1 := by rw [hW1]; exact (Below.refl w.heap.size w).drew.alloc (Nat.le_refl _) _
  have hP1 : ∀ j u, ((lkCs l).take i)[j]? = some u → W1.cell? ⟨w.heap.size, j, none⟩ = some u := fun j u hj => by
    have hj1 := (List.getElem?_eq_some_iff.1 hj).1
    rw [cell_of_row _ _ _ _ _ _ hR1, hR, Array.append_assoc, Array.getElem?_append_left (by simpa using hj1)]
    simpa using hj
  obtain ⟨D, hD⟩ : ∃ D, (lkCs l).drop i = D := ⟨_, rfl⟩
  have hdl : D.length = n - i := by rw [← hD, List.length_drop, hcl]
  have hDc : ∀ j u, D[j]? = some u → W1.cell? ⟨g, i + j, none⟩ = some u := fun j u hu => by
    rw [hb1.cell hg]
    exact hcells _ _ (by rwa [← hD, List.getElem?_drop] at hu)
  have hD1 : ∀ u ∈ D, u.oneCell' = true := fun u hu => lk_oneC l u (List.mem_of_mem_drop (hD ▸ hu))
  have hv1 : W1.cell? ⟨vb, 0, none⟩ = some (.int .i64 x) := (hb1.cell hvl).trans hvc
  have hgN : g ≠ w.heap.size := by omega
  have hcpA : ∀ ty dc, (Builtin.copy_ #[25, 25] ty #[.slice (some ⟨w.heap.size, i, none⟩) (n + 1 - i) dc, .slice (some ⟨vb, 0, none⟩) 1 1]).run Tryz.prog W1 = .ok (goInt [Value.int .i64 x].length) (W1.setCells w.heap.size i [.int .i64 x]) := fun ty dc =>
    run_copy_cells W1 _ _ ty 2 w.heap.size i (n + 1 - i) dc ⟨vb, 0, none⟩ 1 1 [.int .i64 x] (by kernel_rfl) hsz (by simp only [Nat.min_def, List.length_singleton]; split <;> omega)
      (fun j u hj => by
        have hj0 : j = 0 := by have := (List.getElem?_eq_some_iff.1 hj).1; simpa using this
        subst hj0
        rw [Addr.add_lit]
        exact hv1.trans hj)
      (fun j hj => hs1 _ (by simp at hj; omega)) (fun j hj => hf1 _) (fun u hu => by simp at hu; subst hu; rfl)
  obtain ⟨W2, hW2⟩ : ∃ W2, W2 = W1.setCells w.heap.size i [.int .i64 x] := ⟨_, rfl⟩
  rw [← hW2] at hcpA
  have hs2 : ∀ k, k < G → (W2.cell? ⟨w.heap.size, k, none⟩).isSome = true := fun k hk => by
    rw [hW2]
    exact isSome_setCells w.heap.size _ i W1 (fun j hj => hs1 _ (by simp at hj; omega)) k (hs1 k hk)
  have hcpB : ∀ ty dc sc, (Builtin.copy_ #[25, 25] ty #[.slice (some ⟨w.heap.size, i + 1, none⟩) (n - i) dc, .slice (some ⟨g, i, none⟩) (n - i) sc]).run Tryz.prog W2.drew = .ok (goInt D.length) (W2.drew.setCells w.heap.size (i + 1) D) := fun ty dc sc =>
    run_copy_cells W2.drew _ _ ty 2 w.heap.size (i + 1) (n - i) dc ⟨g, i, none⟩ (n - i) sc D (by kernel_rfl) hsz (by rw [hdl]; simp only [Nat.min_def]; split <;> omega)
      (fun j u hj => by
        rw [Addr.add_lit]
        refine Eq.trans ?_ (hDc j u hj)
        show W2.cell? _ = _
        rw [hW2]
        exact World.cell?_setCells_out _ _ _ _ _ (fun h _ => absurd h hgN))
      (fun j hj => hs2 _ (by omega)) (fun j hj => by show W2.frozen? _ = _; rw [hW2, World.frozen?_setCells]; exact hf1 _) hD1
  have hl1 : ¬ ((i : Int) = (n : Int)) := by omega
  have hw1 : IntKind.i64.wrap ((i : Int) + 1) = (i : Int) + 1 := by rw [IntKind.wrap_i64]; omega
  have hw2 : IntKind.i64.wrap ((n : Int) + 1) = (n : Int) + 1 := by rw [IntKind.wrap_i64]; omega
  have hz3 : (c : Int) < (n : Int) + 1 := by omega
  have hin : i < n := by omega
  have hin2 : i ≤ n := by omega
  have hic : i ≤ c := by omega
  have hz4 : (0 : Int) ≤ (i : Int) + 1 := by omega
  have htn : ((i : Int) + 1).toNat = i + 1 := by omega
  have hG2 : ¬ (G = i + 1) := by omega
  have hG3 : ¬ (G = i) := by omega
  have hci : ¬ (c = i) := by omega
  have hb3 : (i : Int) + 1 ≤ (n : Int) + 1 := by omega
  have hb5 : (i : Int) ≤ (n : Int) + 1 := by omega
  unfold maxLen at hGm
  rw [hn]
  have mixed : Tryz.prog.follows .mixedOrders = true := by kernel_rfl
  have HN := Lib.hid hn
  have HP1 := Lib.hid hP1
  have HR1 := Lib.hid hR1
  have HR2 := Lib.hid hR
  have HW1 := Lib.hid hW1
  have HW2 := Lib.hid hW2
  clear h hn hcs hlc hi hold hR hR1 hP1 hG hkk hk hW1 hW2
  go_enter Tryz.func101, Tryz.ntmps101
  go_wp2_with (first
    | (at_builtin
       refine Lib.wpList_append_run _ rfl _ _ _ _ rfl _ _ rfl rfl _ _ (hrz _) ?_)
    | (at_builtin
       refine wpList_copy_runI _ rfl _ _ 25 25 rfl _ _ rfl rfl (hcpA _ _) ?_))
  all_goals
    go_region_law_o (refine step_copy_runI rfl _ _ 25 25 rfl _ _ (by simp [Act.eval, Act.put]) (by simp [Act.eval, Act.put]) (hcpB _ _ _) ?_)
    go_wp2
    go_ret
    refine ⟨.slice (some ⟨w.heap.size, 0, none⟩) (n + 1) G, rfl, ?_, ?_⟩
    · unfold LkR
      rw [put_len hin2 HN.out, lkCs_put, hD]
      have hr : Row1 W2 w.heap.size G := by rw [HW2.out]; exact Row1.sets _ _ _ ⟨R, HR1.out, hRs⟩
      refine Row1.own ((show Row1 W2.drew w.heap.size G from hr).sets w.heap.size D (i + 1)) (put_cells (i := i) (by rw [List.length_take, hcl]; omega) ?_ ?_ ?_) (by simp [hdl, hcl] <;> omega) hB hGn (by unfold maxLen; omega)
      · intro j u hj
        have hj1 : j < i := by have := (List.getElem?_eq_some_iff.1 hj).1; rw [List.length_take] at this; omega
        rw [World.cell?_setCells_out _ _ _ _ _ (fun _ _ => Or.inl (show j < i + 1 by omega))]
        show W2.cell? _ = _
        rw [HW2.out, World.cell?_setCells_out _ _ _ _ _ (fun _ _ => Or.inl hj1)]
        exact HP1.out j u hj
      · rw [World.cell?_setCells_out _ _ _ _ _ (fun _ _ => Or.inl (show i < i + 1 by omega))]
        show W2.cell? _ = _
        rw [HW2.out]
        have := World.cell?_setCells_in w.heap.size [.int .i64 x] i W1 (fun j hj => hs1 _ (by simp at hj; omega)) 0 (by simp)
        simpa using this
      · intro j u hj
        have hj1 := (List.getElem?_eq_some_iff.1 hj).1
        rw [World.cell?_setCells_in w.heap.size D (i + 1) W2.drew (fun j hj => hs2 _ (by omega)) j hj1]
        rw [← hj, List.getElem?_eq_getElem hj1]
    · have h2 : Below w.heap.size w W2 := by rw [HW2.out]; exact (grown_sets w.heap.size _ i W1).below' hb1
      exact Keeps.of_below ((grown_sets w.heap.size D (i + 1) W2.drew).below' h2.drew)
end
end Go.Proofs.YtbcaginjibnngaaGreatDoor
/- Xd -/
set_option linter.unusedVariables false
namespace Go.Proofs.YtbcaginjibnngaaGreatDoor
open Go.RowKit Go.Shelf Go.Sort

/-- How many lie ahead of it. -/
def placeN (l : List Int) (x : Int) : Nat := l.countP (· < x)
theorem place_le (l : List Int) (x : Int) : placeN l x ≤ l.length := List.countP_le_length
theorem place_all {l : List Int} {x : Int} (h : ∀ y ∈ l, x < y) : placeN l x = 0 := by
  unfold placeN
  rw [List.countP_eq_zero]
  intro y hy
  have := h y hy
  simp
  omega
theorem with_place {l : List Int} (x : Int) (h : l.Pairwise (· < ·)) : withN x l = if l.contains x then l else l.take (placeN l x) ++ x :: l.drop (placeN l x) := by
  induction l with
  | nil => rfl
  | cons y l ih =>
    obtain ⟨h1, h2⟩ := List.pairwise_cons.1 h
    unfold withN
    by_cases e1 : x < y
    · have hp : placeN (y :: l) x = 0 := place_all fun z hz => by
        rcases List.mem_cons.1 hz with rfl | hz
        · exact e1
        · have := h1 z hz; omega
      have hc : (y :: l).contains x = false := by
        rw [List.contains_eq_mem, decide_eq_false_iff_not]
        intro hm
        rcases List.mem_cons.1 hm with rfl | hm
        · omega
        · have := h1 x hm; omega
      rw [if_pos e1, hc, hp]
      rfl
    · rw [if_neg e1]
      by_cases e2 : x = y
      · subst e2
        simp
      · have hy : y < x := by omega
        have hp : placeN (y :: l) x = placeN l x + 1 := by simp [placeN, hy]
        have hc : (y :: l).contains x = l.contains x := by simp [e2]
        rw [if_neg e2, ih h2, hc, hp]
        split <;> simp
theorem without_place {l : List Int} (x : Int) (h : l.Pairwise (· < ·)) : withoutN l x = if l.contains x then l.take (placeN l x) ++ l.drop (placeN l x + 1) else l := by
  induction l with
  | nil => rfl
  | cons y l ih =>
    obtain ⟨h1, h2⟩ := List.pairwise_cons.1 h
    by_cases e2 : y = x
    · subst e2
      have hp : placeN (y :: l) y = 0 := by
        have : placeN l y = 0 := place_all h1
        simpa [placeN] using this
      have hf : withoutN (y :: l) y = l := by
        have : ∀ z ∈ l, (z != y) = true := fun z hz => by have := h1 z hz; simp; omega
        simp [withoutN]
        exact fun z hz => by have := h1 z hz; omega
      rw [hf, hp]
      simp
    · have hc : (y :: l).contains x = l.contains x := by
        have : ¬ x = y := fun e => e2 e.symm
        simp [this]
      have hw : withoutN (y :: l) x = y :: withoutN l x := by simp [withoutN, e2]
      rw [hw, hc, ih h2]
      by_cases hm : l.contains x = true
      · have hx : y < x := h1 x (by simpa using hm)
        have hp : placeN (y :: l) x = placeN l x + 1 := by simp [placeN, hx]
        rw [if_pos hm, if_pos hm, hp]
        simp
      · rw [if_neg hm, if_neg hm]
theorem place_lt {l : List Int} {x : Int} (hc : l.contains x = true) (h : l.Pairwise (· < ·)) : placeN l x < l.length := by
  induction l with
  | nil => simp at hc
  | cons y l ih =>
    obtain ⟨h1, h2⟩ := List.pairwise_cons.1 h
    by_cases e : x = y
    · subst e
      have : placeN l x = 0 := place_all h1
      have hp : placeN (x :: l) x = 0 := by simpa [placeN] using this
      rw [hp]
      simp
    · have hm : l.contains x = true := by simpa [e] using hc
      have := ih hm h2
      have hp : placeN (y :: l) x ≤ placeN l x + 1 := by unfold placeN; rw [List.countP_cons]; split <;> omega
      simp only [List.length_cons]
      omega

theorem row_cut {w : World} {B e g n m c : Nat} {xs : List Value} (h : w.ownsRow B e 1 (.slice (some ⟨g, 0, none⟩) n c) n xs) (hm : m ≤ n) : w.ownsRow B e 1 (.slice (some ⟨g, 0, none⟩) m c) m (xs.take m) := by
  obtain ⟨hl, ⟨h0, -⟩ | ⟨g', cap, cur, hv, hb, hh, hnc, hcm, hsz, ht⟩⟩ := h
  · cases h0
  · cases hv
    refine ⟨by rw [List.length_take]; omega, .inr ⟨g, c, cur, rfl, hb, hh, by omega, hcm, hsz, ?_⟩⟩
    rw [← ht, List.take_take]
    congr 1
    omega

set_option maxRecDepth 100000 in
set_option maxHeartbeats 2000000 in
theorem search_any (v : Value) (l : List Int) (x : Int) (w : World) (B : Nat) (h : LkR w B v l) (hr : l.Pairwise (· < ·)) (hl : l.length ≤ 1048576) :
    Calls Tryz.prog 100 #[v, .int .i64 x] w fun e w' => e = .returned (.tuple #[.int .i64 (placeN l x : Nat), .bool (l.contains x)]) ∧ ∃ q, w' = w.drewN q := by
  rcases h.2 with ⟨rfl, hn⟩ | ⟨g, cap, cur, rfl, hb, hh, hnc, hcm, hsz, ht⟩
  · have h0 : l = [] := List.length_eq_zero_iff.1 hn
    subst h0
    go_enter Tryz.func100, Tryz.ntmps100
    go_wp2
    go_loopw [7, 8] (fun a b wr => a = .int .i64 0 ∧ b = .int .i64 0 ∧ wr = w) (fun _ _ _ => 0)
    case atStart => exact ⟨rfl, rfl, rfl⟩
    case round =>
      obtain ⟨rfl, rfl, rfl⟩ := hrel
      go_wp2
      go_ret2
      exact ⟨rfl, 0, rfl⟩
  · have hcs := h.cells (g := g) rfl
    have := AnyG.slices_BinarySearch_int lays_search g 0 l.length cap l x w (Nat.le_refl _) (by omega) (fun j hj => by
      have h1 := hcs j _ (lkCs_at l hj)
      rw [add_zero_block] at h1
      rw [Nat.zero_add]
      exact h1) (by rw [List.take_length]; exact hr.imp fun h => Int.le_of_lt h)
    rw [List.take_length] at this
    exact this

theorem delete_any (v : Value) (l : List Int) (i : Nat) (w : World) (B : Nat) (h : LkR w B v l) (hi : i < l.length) (hl : l.length ≤ 1048576) :
    Calls Tryz.prog 102 #[v, .int .i64 i, .int .i64 ((i : Int) + 1)] w (Puts w B v (l.take i ++ l.drop (i + 1))) := by
  rcases h.2 with ⟨rfl, hn⟩ | ⟨g, cap, cur, rfl, hb, hh, hnc, hcm, hsz, ht⟩
  · omega
  · have hH : Holds (Value.int .i64) w g 0 l.toArray := holds_of_blockI hh (by rw [Nat.mul_one] at ht; exact ht)
    unfold maxLen at hcm
    have := AnyG.slices_Delete_int lays_delete g 0 cap i (i + 1) l w hH (by omega) (by omega) (by omega) (by omega)
    rw [show ((i + 1 : Nat) : Int) = (i : Int) + 1 from Int.natCast_succ i] at this
    refine Calls.mono this ?_
    rintro e w' ⟨rfl, q, rfl⟩
    have hlen : (l.take i ++ l.drop (i + 1) ++ List.replicate (i + 1 - i) 0).length = l.length := by simp; omega
    have hrow := ownsRow_sortedI (w := w) (n := q) (os := #[]) (base := B) hlen hb hh (by omega) (by unfold maxLen; omega) (by omega)
    have hg := grownBy_sortedI (w := w) (g := g) (n := q) (os := #[]) (l.take i ++ l.drop (i + 1) ++ List.replicate (i + 1 - i) 0).toArray
    rw [grow_empty] at hrow hg
    refine ⟨_, rfl, ?_, Keeps.of_grownX hg⟩
    have := row_cut hrow (m := l.length - (i + 1 - i)) (by omega)
    unfold LkR
    have hl2 : (l.take i ++ l.drop (i + 1)).length = l.length - (i + 1 - i) := by simp; omega
    rw [hl2]
    have hx : ((l.take i ++ l.drop (i + 1) ++ List.replicate (i + 1 - i) 0).map (Value.int .i64)).take (l.length - (i + 1 - i)) = lkCs (l.take i ++ l.drop (i + 1)) := by
      rw [← hl2, List.map_append, List.take_left' (by simp)]
      rfl
    rw [← hx]
    exact this
end Go.Proofs.YtbcaginjibnngaaGreatDoor
