/-
  The model's copy of a state.
-/
import Derived.Test.YtlfppcppjbfieaaGreatDoorUm
set_option linter.unusedVariables false
namespace Go.Proofs.YtlfppcppjbfieaaGreatDoor
open Go.RowKit

theorem grown_new {W w2 : World} {e : TypeId} (hg : (W.alloc (.cells #[] e)).grownBy w2 (Value.slice (some ⟨W.heap.size, 0, none⟩) 0 0).ownBlock) : Below W.heap.size W w2 :=
  ((Below.refl _ _).alloc (Nat.le_refl _) _).grown hg (by simp) fun r hr => by
    obtain rfl : W.heap.size = r := by simpa [Value.ownBlock] using hr
    exact Nat.le_refl _

theorem made_at (w : World) (B e k g : Nat) (hg : w.heap.size = g) (hB : B ≤ w.heap.size) : (w.alloc (.cells #[] e)).ownsRow B e k (.slice (some ⟨g, 0, none⟩) 0 0) 0 [] := by
  subst hg
  exact made_empty w B e k hB
theorem grown_at {W w2 : World} {e g : Nat} (hg : W.heap.size = g) (h : (W.alloc (.cells #[] e)).grownBy w2 (Value.slice (some ⟨g, 0, none⟩) 0 0).ownBlock) : Below W.heap.size W w2 := by
  subst hg
  exact grown_new h
theorem le_alloc {W : World} {o : Obj} {n : Nat} (h : n ≤ W.heap.size) : n ≤ (W.alloc o).heap.size := Nat.le_trans h ((Below.refl W.heap.size W).alloc (Nat.le_refl _) o).size

/-- A state that can be read, its lists real slices and small. -/
structure IsStR (w : World) (B : Nat) (v : Value) (s : StD) : Prop where
  it : ∃ A0 A1 A2 A3 c0 c1 c2 c3, v = .agg (stC A0 A1 A2 A3 s.pods.length c0 s.mnts.length c1 s.devs.length c2 s.lks.length c3 s.ph s.co s.ck s.bo s.ba s.lb s.gd s.pr) ∧
    (SlV w B 2 A0 s.pods.length (podCs s.pods) ∧ SlV w B 2 A1 s.mnts.length (mntCs s.mnts) ∧ SlV w B 1 A2 s.devs.length (devCs s.devs) ∧ SlV w B 1 A3 s.lks.length (lkCs s.lks)) ∧
    (A0 = none → c0 = 0) ∧ (A1 = none → c1 = 0) ∧ (A2 = none → c2 = 0) ∧ (A3 = none → c3 = 0)
  fit : StFits s 1048576
theorem IsStR.is {w : World} {B : Nat} {v : Value} {s : StD} (h : IsStR w B v s) : IsSt w B v s := by
  obtain ⟨⟨A0, A1, A2, A3, c0, c1, c2, c3, hv, ⟨h0, h1, h2, h3⟩, -⟩, f0, f1, f2, f3⟩ := h
  have hm : 1048576 ≤ maxLen := by unfold maxLen; decide
  exact ⟨⟨A0, A1, A2, A3, c0, c1, c2, c3, hv, h0, h1, h2, h3⟩, by omega, by omega, by omega, by omega⟩
theorem IsStR.below {w w' : World} {B B' : Nat} {v : Value} {s : StD} (h : IsStR w B v s) (hb : Below B' w w') (hB : B ≤ B') : IsStR w' B v s := by
  obtain ⟨⟨A0, A1, A2, A3, c0, c1, c2, c3, hv, ⟨h0, h1, h2, h3⟩, hr⟩, hf⟩ := h
  exact ⟨⟨A0, A1, A2, A3, c0, c1, c2, c3, hv, ⟨h0.below hb hB, h1.below hb hB, h2.below hb hB, h3.below hb hB⟩, hr⟩, hf⟩
theorem IsStR.more {w : World} {B B' : Nat} {v : Value} {s : StD} (h : IsStR w B v s) (hB : B ≤ B') : IsStR w B' v s := by
  obtain ⟨⟨A0, A1, A2, A3, c0, c1, c2, c3, hv, ⟨h0, h1, h2, h3⟩, hr⟩, hf⟩ := h
  exact ⟨⟨A0, A1, A2, A3, c0, c1, c2, c3, hv, ⟨h0.more hB, h1.more hB, h2.more hB, h3.more hB⟩, hr⟩, hf⟩
theorem IsStR.go {w w' : World} {v : Value} {s : StD} (h : IsStR w w.heap.size v s) (hb : Below w.heap.size w w') : IsStR w' w'.heap.size v s := (h.below hb (Nat.le_refl _)).more hb.size
theorem NewSt.isR {w w' : World} {s : StD} {g0 g1 g2 g3 : Nat} (h : NewSt w w' s g0 g1 g2 g3) (hf : StFits s 1048576) : IsStR w' w'.heap.size (newStV s g0 g1 g2 g3) s := by
  obtain ⟨l0, l1, l2, l3, l4, R0, R1, R2, R3⟩ := h
  exact ⟨⟨_, _, _, _, _, _, _, _, rfl, ⟨R0.slv (podCs_len _) (by omega), R1.slv (mntCs_len _) (by omega), R2.slv (devCs_len _) (by omega), R3.slv (lkCs_len _) (by omega)⟩, (fun h => by cases h), (fun h => by cases h), (fun h => by cases h), (fun h => by cases h)⟩, hf⟩
theorem open_rowR {w : World} {B e k n : Nat} {v : Value} {xs : List Value} (h : w.ownsRow B e k v n xs) : ∃ A c, v = .slice A n c ∧ (A = none → c = 0) ∧ SlV w w.heap.size k A n xs := by
  obtain ⟨A, c, g, hv, -, -, -, -, -, hS, -⟩ := open_row h
  refine ⟨A, c, hv, fun hA => ?_, hS⟩
  rcases h.2 with ⟨h1, h2⟩ | ⟨g', cap, cur, h1, -⟩
  · rw [hv] at h1
    injection h1
  · rw [hv] at h1
    injection h1 with h1 _ _
    rw [hA] at h1
    cases h1
theorem OwnSt.isR {w : World} {B : Nat} {v : Value} {s : StD} (h : OwnSt w B v s) (hf : StFits s 1048576) : IsStR w w.heap.size v s := by
  obtain ⟨v0, v1, v2, v3, rfl, h0, h1, h2, h3⟩ := h.it
  obtain ⟨A0, c0, rfl, r0, s0⟩ := open_rowR h0
  obtain ⟨A1, c1, rfl, r1, s1⟩ := open_rowR h1
  obtain ⟨A2, c2, rfl, r2, s2⟩ := open_rowR h2
  obtain ⟨A3, c3, rfl, r3, s3⟩ := open_rowR h3
  exact ⟨⟨A0, A1, A2, A3, c0, c1, c2, c3, rfl, ⟨s0, s1, s2, s3⟩, r0, r1, r2, r3⟩, hf⟩

/-- What makes a state of the call's own answers. -/
def MadeS (w : World) (s : StD) (e : Ending) (w' : World) : Prop := ∃ v, e = .returned v ∧ OwnSt w' w.heap.size v s ∧ Below w.heap.size w w'

set_option maxRecDepth 4000 in
set_option maxHeartbeats 4000000 in
theorem l5Copy_any (v : Value) (s : StD) (w : World) (h : IsStR w w.heap.size v s) : Calls Tryz.prog 33 #[v] w (MadeS w s) := by
  obtain ⟨⟨A0_, A1_, A2_, A3_, c0, c1, c2, c3, rfl, ⟨s0, s1, s2, s3⟩, r0, r1, r2, r3⟩, f0, f1, f2, f3⟩ := h
  obtain ⟨ph, co, ck, bo, ba, lb, l0, l1, l2, l3, gd, pr⟩ := s
  dsimp only at *
  have S0 := Lib.hid s0
  have S1 := Lib.hid s1
  have S2 := Lib.hid s2
  have S3 := Lib.hid s3
  have R0 := Lib.hid r0
  have R1 := Lib.hid r1
  have R2 := Lib.hid r2
  have R3 := Lib.hid r3
  have F0 := Lib.hid f0
  have F1 := Lib.hid f1
  have F2 := Lib.hid f2
  have F3 := Lib.hid f3
  clear s0 s1 s2 s3 r0 r1 r2 r3 f0 f1 f2 f3
  obtain ⟨i0, hi, hz0, hz1, hz2⟩ := info_parts infoS_pod
  have HI := Lib.hid hi
  have HZ0 := Lib.hid hz0
  have HZ1 := Lib.hid hz1
  have HZ2 := Lib.hid hz2
  clear hi hz0 hz1 hz2
  obtain ⟨i1, hi, hz0, hz1, hz2⟩ := info_parts infoS_mnt
  have GI := Lib.hid hi
  have GZ0 := Lib.hid hz0
  have GZ1 := Lib.hid hz1
  have GZ2 := Lib.hid hz2
  clear hi hz0 hz1 hz2
  obtain ⟨i2, hi, hz0, hz1, hz2⟩ := info_parts infoS_bool
  have DI := Lib.hid hi
  have DZ0 := Lib.hid hz0
  have DZ1 := Lib.hid hz1
  have DZ2 := Lib.hid hz2
  clear hi hz0 hz1 hz2
  have T0 := Two.start w (stC A0_ A1_ A2_ A3_ l0.length c0 l1.length c1 l2.length c2 l3.length c3 ph co ck bo ba lb gd pr) (stC none none none none 0 0 0 0 0 0 0 0 0 false 0 0 0 0 0 0) 40 40
  have HW : Hid (((w.alloc (.cells (stC A0_ A1_ A2_ A3_ l0.length c0 l1.length c1 l2.length c2 l3.length c3 ph co ck bo ba lb gd pr) 40)).alloc (.cells (stC none none none none 0 0 0 0 0 0 0 0 0 false 0 0 0 0 0 0) 40)).heap.size = w.heap.size + 1 + 1) := Lib.hid (by simp)
  go_enter Tryz.func33, Tryz.ntmps33
  go_wp2_with (first
      | (go_at_call 71
         have AS3 := A3.set (Nat.le_refl _) (i := 8) (by simp) (.slice B2 l2.length d2)
         have OS3 := O3.far (p := ⟨w.heap.size, 8, none⟩) (Nat.le_refl _) (by simp) (.slice B2 l2.length d2)
         have HQ30 := Lib.hid (ownsRow_setCell_below (HO20).out (a := ⟨w.heap.size, 8, none⟩) (by simp) (.slice B2 l2.length d2))
         have HQ31 := Lib.hid (ownsRow_setCell_below (HO21).out (a := ⟨w.heap.size, 8, none⟩) (by simp) (.slice B2 l2.length d2))
         have HQ32 := Lib.hid (ownsRow_setCell_below (HO22).out (a := ⟨w.heap.size, 8, none⟩) (by simp) (.slice B2 l2.length d2))
         refine (l1Copy_any A3_ l3.length c3 l3 _ ((S3.out.below AS3.K (Nat.le_refl _)).more AS3.K.size) R3.out F3.out).mono ?_
         rintro e w5 ⟨v3, rfl, hown, K3⟩
         have A4 := AS3.step K3
         have O4 := OS3.step K3
         replace hown := ownsRow_base hown OS3.z
         obtain ⟨B3, d3, rfl, -⟩ := open_rowR hown
         have HO33 := Lib.hid hown
         have HO30 := Lib.hid (ownsRow_below HQ30.out K3)
         have HO31 := Lib.hid (ownsRow_below HQ31.out K3)
         have HO32 := Lib.hid (ownsRow_below HQ32.out K3)
         clear hown K3 hC hF hz AS3 OS3 A3 O3
         have hC := A4.C
         have hF := A4.F
         have hz := A4.z
         have hD := O4.C
         have hG := O4.F)
      | (at_builtin
         have AS2 := A2.set (Nat.le_refl _) (i := 7) (by simp) (.slice B1 l1.length d1)
         have OS2 := O2.far (p := ⟨w.heap.size, 7, none⟩) (Nat.le_refl _) (by simp) (.slice B1 l1.length d1)
         have HQ20 := Lib.hid (ownsRow_setCell_below (HO10).out (a := ⟨w.heap.size, 7, none⟩) (by simp) (.slice B1 l1.length d1))
         have HQ21 := Lib.hid (ownsRow_setCell_below (HO11).out (a := ⟨w.heap.size, 7, none⟩) (by simp) (.slice B1 l1.length d1))
         refine wpList_append_slv rfl _ _ 30 4 i2 (.bool false) 1 1 rfl Tryz.underlying30 DI.out DZ0.out DZ1.out DZ2.out rfl (by decide) (by decide) (w.heap.size + 2) _ 0 [] rfl (made_at _ _ _ _ _ (by simp) OS2.z) A2_ l2.length c2 (devCs l2) rfl R2.out (S2.out.below (AS2.K.alloc AS2.K.size _) (Nat.le_refl _)) (devCs_one l2) (by have := F2.out; omega) (le_alloc OS2.z) ?_
         intro v2 w4 hown hgrow
         have K2 := grown_at (by simp) hgrow
         have A3 := AS2.step K2
         have O3 := OS2.step K2
         replace hown : w4.ownsRow (w.heap.size + 2) 4 1 v2 l2.length (devCs l2) := by simpa using hown
         obtain ⟨B2, d2, rfl, -⟩ := open_rowR hown
         have HO22 := Lib.hid hown
         have HO20 := Lib.hid (ownsRow_below HQ20.out K2)
         have HO21 := Lib.hid (ownsRow_below HQ21.out K2)
         clear hown hgrow K2 hC hF hz AS2 OS2 A2 O2
         have hC := A3.C
         have hF := A3.F
         have hz := A3.z)
      | (at_builtin
         have AS1 := A1.set (Nat.le_refl _) (i := 6) (by simp) (.slice B0 l0.length d0)
         have OS1 := O1.far (p := ⟨w.heap.size, 6, none⟩) (Nat.le_refl _) (by simp) (.slice B0 l0.length d0)
         have HQ10 := Lib.hid (ownsRow_setCell_below (HO00).out (a := ⟨w.heap.size, 6, none⟩) (by simp) (.slice B0 l0.length d0))
         refine wpList_append_slv rfl _ _ 38 108 i1 (.agg #[.bool false, .int .i64 0]) 2 16 rfl Tryz.underlying38 GI.out GZ0.out GZ1.out GZ2.out rfl (by decide) (by decide) (w.heap.size + 2) _ 0 [] rfl (made_at _ _ _ _ _ (by simp) OS1.z) A1_ l1.length c1 (mntCs l1) rfl R1.out (S1.out.below (AS1.K.alloc AS1.K.size _) (Nat.le_refl _)) (mntCs_one l1) (by have := F1.out; omega) (le_alloc OS1.z) ?_
         intro v1 w3 hown hgrow
         have K1 := grown_at (by simp) hgrow
         have A2 := AS1.step K1
         have O2 := OS1.step K1
         replace hown : w3.ownsRow (w.heap.size + 2) 108 2 v1 l1.length (mntCs l1) := by simpa using hown
         obtain ⟨B1, d1, rfl, -⟩ := open_rowR hown
         have HO11 := Lib.hid hown
         have HO10 := Lib.hid (ownsRow_below HQ10.out K1)
         clear hown hgrow K1 hC hF hz AS1 OS1 A1 O1
         have hC := A2.C
         have hF := A2.F
         have hz := A2.z)
      | (at_builtin
         refine wpList_append_slv rfl _ _ 37 106 i0 (.agg #[.int .i64 0, .int .i64 0]) 2 16 rfl Tryz.underlying37 HI.out HZ0.out HZ1.out HZ2.out rfl (by decide) (by decide) (w.heap.size + 2) _ 0 [] rfl (made_at _ _ _ _ _ HW.out T0.O.z) A0_ l0.length c0 (podCs l0) rfl R0.out (S0.out.below (T0.A.K.alloc T0.A.K.size _) (Nat.le_refl _)) (podCs_one l0) (by have := F0.out; omega) (le_alloc T0.O.z) ?_
         intro v0 w2 hown hgrow
         have K0 := grown_at HW.out hgrow
         have A1 := T0.A.step K0
         have O1 := T0.O.step K0
         replace hown : w2.ownsRow (w.heap.size + 2) 106 2 v0 l0.length (podCs l0) := by simpa using hown
         obtain ⟨B0, d0, rfl, -⟩ := open_rowR hown
         have HO00 := Lib.hid hown
         clear hown hgrow K0 T0 HW
         have hC := A1.C
         have hF := A1.F
         have hz := A1.z))
  refine bodyPost_ret (v := .agg (stC B0 B1 B2 B3 l0.length d0 l1.length d1 l2.length d2 l3.length d3 ph co ck bo ba lb gd pr)) ?_ rfl ⟨_, rfl, ⟨_, _, _, _, rfl, ?_, ?_, ?_, ?_⟩, ?_⟩
  · simp [results, Tryz.results33, go_sem, hD]
  · refine ownsRow_base (base := w.heap.size + 2) ?_ (by omega)
    iterate 13 (refine ownsRow_setCell_below ?_ (by simp) _)
    exact HO30.out
  · refine ownsRow_base (base := w.heap.size + 2) ?_ (by omega)
    iterate 13 (refine ownsRow_setCell_below ?_ (by simp) _)
    exact HO31.out
  · refine ownsRow_base (base := w.heap.size + 2) ?_ (by omega)
    iterate 13 (refine ownsRow_setCell_below ?_ (by simp) _)
    exact HO32.out
  · refine ownsRow_base (base := w.heap.size + 2) ?_ (by omega)
    iterate 13 (refine ownsRow_setCell_below ?_ (by simp) _)
    exact HO33.out
  · iterate 13 (refine Below.setCell ?_ (by simp) _)
    exact A4.K
end Go.Proofs.YtlfppcppjbfieaaGreatDoor
