/-
  The laws' own size, copy and comparison of a state.
-/
import Derived.Test.YtlmllnbibiihhaaMZ3
/- Ud -/
set_option linter.unusedVariables false
namespace Go.Proofs.Ytlmllnbibiihhaa
open Go.RowKit

theorem szPodAtS_any (A : Option Addr) (n c : Nat) (left : Int) (w : World) (hn : n ≤ maxLen) (h0 : 0 ≤ left) (h1 : left ≤ 1048576) :
    Calls Try.prog 24 #[.slice A n c, .int .i64 left] w fun e w' => e = .returned (.int .i64 (szI left n)) ∧ w = w' := by
  unfold maxLen at hn
  go_enter Try.func24, Try.ntmps24
  go_wp2
  · go_ret
    exact ⟨by rw [szI_neg (by omega)]; rfl, rfl⟩
  · go_ret
    exact ⟨by rw [szI_pos (by omega)]; rfl, rfl⟩
theorem szMountAtS_any (A : Option Addr) (n c : Nat) (left : Int) (w : World) (hn : n ≤ maxLen) (h0 : 0 ≤ left) (h1 : left ≤ 1048576) :
    Calls Try.prog 25 #[.slice A n c, .int .i64 left] w fun e w' => e = .returned (.int .i64 (szI left n)) ∧ w = w' := by
  unfold maxLen at hn
  go_enter Try.func25, Try.ntmps25
  go_wp2
  · go_ret
    exact ⟨by rw [szI_neg (by omega)]; rfl, rfl⟩
  · go_ret
    exact ⟨by rw [szI_pos (by omega)]; rfl, rfl⟩
theorem szBoolS_any (A : Option Addr) (n c : Nat) (left : Int) (w : World) (hn : n ≤ maxLen) (h0 : 0 ≤ left) (h1 : left ≤ 1048576) :
    Calls Try.prog 26 #[.slice A n c, .int .i64 left] w fun e w' => e = .returned (.int .i64 (szI left n)) ∧ w = w' := by
  unfold maxLen at hn
  go_enter Try.func26, Try.ntmps26
  go_wp2
  · go_ret
    exact ⟨by rw [szI_neg (by omega)]; rfl, rfl⟩
  · go_ret
    exact ⟨by rw [szI_pos (by omega)]; rfl, rfl⟩

/-- What is left behind a state. -/
def szS (left : Int) (s : StD) : Int := if (s.pods.length + s.mnts.length + s.devs.length + s.lks.length : Nat) ≤ left then left - (s.pods.length + s.mnts.length + s.devs.length + s.lks.length : Nat) else -1
set_option maxHeartbeats 2000000 in
theorem szState_any (v : Value) (s : StD) (left : Int) (w : World) (h : IsSt w w.heap.size v s) (hl0 : 0 ≤ left) (hl1 : left ≤ 1048576) :
    Calls Try.prog 6 #[v, .int .i64 left] w fun e w' => e = .returned (.int .i64 (szS left s)) ∧ Below w.heap.size w w' := by
  obtain ⟨⟨A0, A1, A2, A3, c0, c1, c2, c3, rfl, -, -, -, -⟩, b0, b1, b2, b3⟩ := h
  obtain ⟨ph, co, ck, bo, ba, lb, l0, l1, l2, l3, gd, pr⟩ := s
  dsimp only at *
  have hp : (l0.length + l1.length + l2.length + l3.length : Nat) ≤ left → szS left ⟨ph, co, ck, bo, ba, lb, l0, l1, l2, l3, gd, pr⟩ = left - (l0.length + l1.length + l2.length + l3.length : Nat) := fun h => if_pos h
  have hm : ¬ (l0.length + l1.length + l2.length + l3.length : Nat) ≤ left → szS left ⟨ph, co, ck, bo, ba, lb, l0, l1, l2, l3, gd, pr⟩ = -1 := fun h => if_neg h
  generalize szS left ⟨ph, co, ck, bo, ba, lb, l0, l1, l2, l3, gd, pr⟩ = z at *
  have HP := Lib.hid hp
  have HM := Lib.hid hm
  clear hp hm
  generalize l0.length = n0 at *
  generalize l1.length = n1 at *
  generalize l2.length = n2 at *
  generalize l3.length = n3 at *
  go_enter Try.func6, Try.ntmps6
  go_wp2_with fail
  refine (szPodAtS_any _ _ _ _ _ b0 (by omega) (by omega)).mono ?_
  rintro e w2 ⟨rfl, rfl⟩
  by_cases h0 : (n0 : Int) ≤ left
  · rw [szI_pos h0]
    go_wp2_with fail
    refine (szMountAtS_any _ _ _ _ _ b1 (by omega) (by omega)).mono ?_
    rintro e w2 ⟨rfl, rfl⟩
    by_cases h1 : (n1 : Int) ≤ left - n0
    · rw [szI_pos h1]
      go_wp2_with fail
      refine (szBoolS_any _ _ _ _ _ b2 (by omega) (by omega)).mono ?_
      rintro e w2 ⟨rfl, rfl⟩
      by_cases h2 : (n2 : Int) ≤ left - n0 - n1
      · rw [szI_pos h2]
        go_wp2_with fail
        refine (szInt64S_any _ _ _ _ _ b3 (by omega) (by omega)).mono ?_
        rintro e w2 ⟨rfl, rfl⟩
        by_cases h3 : (n3 : Int) ≤ left - n0 - n1 - n2
        · rw [szI_pos h3]
          go_wp2_with fail
          go_ret
          exact ⟨ret_int (by rw [HP.out (by omega)]; push_cast; omega), (Below.refl _ _).alloc (Nat.le_refl _) _⟩
        · rw [szI_neg h3]
          go_wp2
          go_ret
          exact ⟨ret_int (by rw [HM.out (by omega)]), (Below.refl _ _).alloc (Nat.le_refl _) _⟩
      · rw [szI_neg h2]
        go_wp2
        go_ret
        exact ⟨ret_int (by rw [HM.out (by omega)]), (Below.refl _ _).alloc (Nat.le_refl _) _⟩
    · rw [szI_neg h1]
      go_wp2
      go_ret
      exact ⟨ret_int (by rw [HM.out (by omega)]), (Below.refl _ _).alloc (Nat.le_refl _) _⟩
  · rw [szI_neg h0]
    go_wp2
    go_ret
    exact ⟨ret_int (by rw [HM.out (by omega)]), (Below.refl _ _).alloc (Nat.le_refl _) _⟩

/-- A state of new memory, all lists in blocks of their own. -/
structure NewSt (w w' : World) (s : StD) (g0 g1 g2 g3 : Nat) : Prop where
  l0 : w.heap.size ≤ g0
  l1 : g0 < g1
  l2 : g1 < g2
  l3 : g2 < g3
  l4 : g3 < w'.heap.size
  R0 : RowV w' g0 (podCs s.pods)
  R1 : RowV w' g1 (mntCs s.mnts)
  R2 : RowV w' g2 (devCs s.devs)
  R3 : RowV w' g3 (lkCs s.lks)
abbrev newStV (s : StD) (g0 g1 g2 g3 : Nat) : Value := .agg (stC (some ⟨g0, 0, none⟩) (some ⟨g1, 0, none⟩) (some ⟨g2, 0, none⟩) (some ⟨g3, 0, none⟩) s.pods.length s.pods.length s.mnts.length s.mnts.length s.devs.length s.devs.length s.lks.length s.lks.length s.ph s.co s.ck s.bo s.ba s.lb s.gd s.pr)
def MadeSt (w : World) (s : StD) (e : Ending) (w' : World) : Prop :=
  ∃ g0 g1 g2 g3, e = .returned (newStV s g0 g1 g2 g3) ∧ NewSt w w' s g0 g1 g2 g3 ∧ Below w.heap.size w w'
/-- How many cells a state's lists are at most. -/
structure StFits (s : StD) (m : Nat) : Prop where
  f0 : s.pods.length ≤ m
  f1 : s.mnts.length ≤ m
  f2 : s.devs.length ≤ m
  f3 : s.lks.length ≤ m
theorem NewSt.is {w w' : World} {s : StD} {g0 g1 g2 g3 : Nat} (h : NewSt w w' s g0 g1 g2 g3) (hf : StFits s 1048576) : IsSt w' w'.heap.size (newStV s g0 g1 g2 g3) s := by
  obtain ⟨l0, l1, l2, l3, l4, R0, R1, R2, R3⟩ := h
  obtain ⟨f0, f1, f2, f3⟩ := hf
  have hm : 1048576 ≤ maxLen := by unfold maxLen; decide
  exact ⟨⟨_, _, _, _, _, _, _, _, rfl, R0.slv (podCs_len _) (by omega), R1.slv (mntCs_len _) (by omega), R2.slv (devCs_len _) (by omega), R3.slv (lkCs_len _) (by omega)⟩, by omega, by omega, by omega, by omega⟩

set_option maxHeartbeats 4000000 in
theorem toState_any (v : Value) (s : StD) (w : World) (h : IsSt w w.heap.size v s) (hf : StFits s 1048576) :
    Calls Try.prog 9 #[v] w (MadeSt w s) := by
  obtain ⟨⟨A0, A1, A2, A3, c0, c1, c2, c3, rfl, s0, s1, s2, s3⟩, -, -, -, -⟩ := h
  obtain ⟨h0, h1, h2, h3⟩ := hf
  obtain ⟨ph, co, ck, bo, ba, lb, l0, l1, l2, l3, gd, pr⟩ := s
  dsimp only at *
  have S0 := Lib.hid s0
  have S1 := Lib.hid s1
  have S2 := Lib.hid s2
  have S3 := Lib.hid s3
  have B0 := Lib.hid h0
  have B1 := Lib.hid h1
  have B2 := Lib.hid h2
  have B3 := Lib.hid h3
  clear s0 s1 s2 s3 h0 h1 h2 h3
  go_enter Try.func9, Try.ntmps9
  go_wp2_with fail
  have T1 := TP.start w (stC A0 A1 A2 A3 l0.length c0 l1.length c1 l2.length c2 l3.length c3 ph co ck bo ba lb gd pr) (stC none none none none 0 0 0 0 0 0 0 0 0 false 0 0 0 0 0 0) (stC none none none none 0 0 0 0 0 0 0 0 ph co ck bo ba lb 0 0) 32 47 47
  refine (toPodAtS_any _ _ l0 _ ((S0.out.below T1.A.K (Nat.le_refl _)).more T1.A.K.size) B0.out).mono ?_
  rintro e w2 ⟨g0, rfl, hg0, hz0, R0, hb2⟩
  have T2 := T1.step hb2
  have m0 : w.heap.size + 1 + 1 < g0 := Nat.lt_of_lt_of_le T1.O.z hg0
  clear hb2 hg0 T1
  have hC := T2.A.C
  have hD := T2.O.C
  have hF := T2.O.F
  go_wp2_with fail
  have T1 := T2.set (i := 6) (by simp) (.slice (some ⟨g0, 0, none⟩) l0.length l0.length)
  replace R0 := R0.far (p := ⟨w.heap.size + 1 + 1, 6, none⟩) (by simp; omega) (.slice (some ⟨g0, 0, none⟩) l0.length l0.length)
  refine (toMountAtS_any _ _ l1 _ ((S1.out.below T1.A.K (Nat.le_refl _)).more T1.A.K.size) B1.out).mono ?_
  rintro e w3 ⟨g1, rfl, hg1, hz1, R1, hb2⟩
  clear hC hD hF T2
  have T2 := T1.step hb2
  have m1 : g0 < g1 := by simp [World.setCell] at hg1; omega
  replace R0 := R0.below hb2 (by simp [World.setCell]; omega)
  clear hb2 hg1 T1 hz0
  have hC := T2.A.C
  have hD := T2.O.C
  have hF := T2.O.F
  go_wp2_with fail
  have T1 := T2.set (i := 7) (by simp) (.slice (some ⟨g1, 0, none⟩) l1.length l1.length)
  replace R0 := R0.far (p := ⟨w.heap.size + 1 + 1, 7, none⟩) (by simp; omega) (.slice (some ⟨g1, 0, none⟩) l1.length l1.length)
  replace R1 := R1.far (p := ⟨w.heap.size + 1 + 1, 7, none⟩) (by simp; omega) (.slice (some ⟨g1, 0, none⟩) l1.length l1.length)
  refine (toBoolS_any _ _ l2 _ ((S2.out.below T1.A.K (Nat.le_refl _)).more T1.A.K.size) B2.out).mono ?_
  rintro e w4 ⟨g2, rfl, hg2, hz2, R2, hb2⟩
  clear hC hD hF T2
  have T2 := T1.step hb2
  have m2 : g1 < g2 := by simp [World.setCell] at hg2; omega
  replace R0 := R0.below hb2 (by simp [World.setCell]; omega)
  replace R1 := R1.below hb2 (by simp [World.setCell]; omega)
  clear hb2 hg2 T1 hz1
  have hC := T2.A.C
  have hD := T2.O.C
  have hF := T2.O.F
  go_wp2_with fail
  have T1 := T2.set (i := 8) (by simp) (.slice (some ⟨g2, 0, none⟩) l2.length l2.length)
  replace R0 := R0.far (p := ⟨w.heap.size + 1 + 1, 8, none⟩) (by simp; omega) (.slice (some ⟨g2, 0, none⟩) l2.length l2.length)
  replace R1 := R1.far (p := ⟨w.heap.size + 1 + 1, 8, none⟩) (by simp; omega) (.slice (some ⟨g2, 0, none⟩) l2.length l2.length)
  replace R2 := R2.far (p := ⟨w.heap.size + 1 + 1, 8, none⟩) (by simp; omega) (.slice (some ⟨g2, 0, none⟩) l2.length l2.length)
  refine (toInts_any _ _ l3 _ ((S3.out.below T1.A.K (Nat.le_refl _)).more T1.A.K.size) B3.out).mono ?_
  rintro e w5 ⟨g3, rfl, hg3, hz3, R3, hb2⟩
  clear hC hD hF T2
  have T2 := T1.step hb2
  have m3 : g2 < g3 := by simp [World.setCell] at hg3; omega
  replace R0 := R0.below hb2 (by simp [World.setCell]; omega)
  replace R1 := R1.below hb2 (by simp [World.setCell]; omega)
  replace R2 := R2.below hb2 (by simp [World.setCell]; omega)
  clear hb2 hg3 T1 hz2
  have T2 : TP w w5 (stC A0 A1 A2 A3 l0.length c0 l1.length c1 l2.length c2 l3.length c3 ph co ck bo ba lb gd pr) (stC none none none none 0 0 0 0 0 0 0 0 0 false 0 0 0 0 0 0) (stC (some ⟨g0, 0, none⟩) (some ⟨g1, 0, none⟩) (some ⟨g2, 0, none⟩) none l0.length l0.length l1.length l1.length l2.length l2.length 0 0 ph co ck bo ba lb 0 0) := T2
  have hC := T2.A.C
  have hD := T2.O.C
  have hF := T2.O.F
  have hE := T2.Z.C
  have hG := T2.Z.F
  go_wp2_with fail
  refine bodyPost_ret (v := newStV ⟨ph, co, ck, bo, ba, lb, l0, l1, l2, l3, gd, pr⟩ g0 g1 g2 g3) ?_ rfl ⟨g0, g1, g2, g3, rfl, ⟨by omega, m1, m2, m3, by simp [World.setCell]; exact hz3, ?_, ?_, ?_, ?_⟩, ?_⟩
  · simp [results, Try.results9, go_sem, hE]
  · iterate 15 (refine RowV.far ?_ (by simp; omega) _)
    exact R0
  · iterate 15 (refine RowV.far ?_ (by simp; omega) _)
    exact R1
  · iterate 15 (refine RowV.far ?_ (by simp; omega) _)
    exact R2
  · iterate 15 (refine RowV.far ?_ (by simp; omega) _)
    exact R3
  · iterate 15 (refine Below.setCell ?_ (by simp <;> omega) _)
    exact T2.A.K

set_option maxHeartbeats 2000000 in
theorem eqState_same (v v' : Value) (s : StD) (w : World) (h : IsSt w w.heap.size v s) (h' : IsSt w w.heap.size v' s) :
    Calls Try.prog 13 #[v, v'] w fun e w' => e = .returned (.bool true) ∧ Below w.heap.size w w' := by
  obtain ⟨⟨A0, A1, A2, A3, c0, c1, c2, c3, rfl, s0, s1, s2, s3⟩, b0, b1, b2, b3⟩ := h
  obtain ⟨⟨A0', A1', A2', A3', c0', c1', c2', c3', rfl, s0', s1', s2', s3'⟩, -, -, -, -⟩ := h'
  obtain ⟨ph, co, ck, bo, ba, lb, l0, l1, l2, l3, gd, pr⟩ := s
  dsimp only at *
  have S0 := Lib.hid s0
  have S0' := Lib.hid s0'
  have B0 := Lib.hid b0
  have S1 := Lib.hid s1
  have S1' := Lib.hid s1'
  have B1 := Lib.hid b1
  have S2 := Lib.hid s2
  have S2' := Lib.hid s2'
  have B2 := Lib.hid b2
  have S3 := Lib.hid s3
  have S3' := Lib.hid s3'
  have B3 := Lib.hid b3
  clear s0 s1 s2 s3 s0' s1' s2' s3' b0 b1 b2 b3
  go_enter Try.func13, Try.ntmps13
  cases co
  · go_wp2_with fail
    have T1 := Two.start w (stC A0 A1 A2 A3 l0.length c0 l1.length c1 l2.length c2 l3.length c3 ph false ck bo ba lb gd pr) (stC A0' A1' A2' A3' l0.length c0' l1.length c1' l2.length c2' l3.length c3' ph false ck bo ba lb gd pr) 47 47
    refine (eqPodAtS_same _ _ _ _ l0 _ ((S0.out.below T1.A.K (Nat.le_refl _)).more T1.A.K.size) ((S0'.out.below T1.A.K (Nat.le_refl _)).more T1.A.K.size) B0.out).mono ?_
    rintro e w2 ⟨rfl, hb⟩
    replace T1 := T1.step hb
    clear hb
    have hC := T1.A.C
    have hD := T1.O.C
    go_wp2_with fail
    clear hC hD
    refine (eqMountAtS_same _ _ _ _ l1 _ ((S1.out.below T1.A.K (Nat.le_refl _)).more T1.A.K.size) ((S1'.out.below T1.A.K (Nat.le_refl _)).more T1.A.K.size) B1.out).mono ?_
    rintro e w3 ⟨rfl, hb⟩
    replace T1 := T1.step hb
    clear hb
    have hC := T1.A.C
    have hD := T1.O.C
    go_wp2_with fail
    clear hC hD
    refine (eqBoolS_same _ _ _ _ l2 _ ((S2.out.below T1.A.K (Nat.le_refl _)).more T1.A.K.size) ((S2'.out.below T1.A.K (Nat.le_refl _)).more T1.A.K.size) B2.out).mono ?_
    rintro e w4 ⟨rfl, hb⟩
    replace T1 := T1.step hb
    clear hb
    have hC := T1.A.C
    have hD := T1.O.C
    go_wp2_with fail
    clear hC hD
    refine (eqInts_same _ _ _ _ l3 _ ((S3.out.below T1.A.K (Nat.le_refl _)).more T1.A.K.size) ((S3'.out.below T1.A.K (Nat.le_refl _)).more T1.A.K.size) B3.out).mono ?_
    rintro e w5 ⟨rfl, hb⟩
    replace T1 := T1.step hb
    clear hb
    have hC := T1.A.C
    have hD := T1.O.C
    go_wp2_with fail
    go_ret
    exact ⟨rfl, T1.A.K⟩
  · go_wp2_with fail
    have T1 := Two.start w (stC A0 A1 A2 A3 l0.length c0 l1.length c1 l2.length c2 l3.length c3 ph true ck bo ba lb gd pr) (stC A0' A1' A2' A3' l0.length c0' l1.length c1' l2.length c2' l3.length c3' ph true ck bo ba lb gd pr) 47 47
    refine (eqPodAtS_same _ _ _ _ l0 _ ((S0.out.below T1.A.K (Nat.le_refl _)).more T1.A.K.size) ((S0'.out.below T1.A.K (Nat.le_refl _)).more T1.A.K.size) B0.out).mono ?_
    rintro e w2 ⟨rfl, hb⟩
    replace T1 := T1.step hb
    clear hb
    have hC := T1.A.C
    have hD := T1.O.C
    go_wp2_with fail
    clear hC hD
    refine (eqMountAtS_same _ _ _ _ l1 _ ((S1.out.below T1.A.K (Nat.le_refl _)).more T1.A.K.size) ((S1'.out.below T1.A.K (Nat.le_refl _)).more T1.A.K.size) B1.out).mono ?_
    rintro e w3 ⟨rfl, hb⟩
    replace T1 := T1.step hb
    clear hb
    have hC := T1.A.C
    have hD := T1.O.C
    go_wp2_with fail
    clear hC hD
    refine (eqBoolS_same _ _ _ _ l2 _ ((S2.out.below T1.A.K (Nat.le_refl _)).more T1.A.K.size) ((S2'.out.below T1.A.K (Nat.le_refl _)).more T1.A.K.size) B2.out).mono ?_
    rintro e w4 ⟨rfl, hb⟩
    replace T1 := T1.step hb
    clear hb
    have hC := T1.A.C
    have hD := T1.O.C
    go_wp2_with fail
    clear hC hD
    refine (eqInts_same _ _ _ _ l3 _ ((S3.out.below T1.A.K (Nat.le_refl _)).more T1.A.K.size) ((S3'.out.below T1.A.K (Nat.le_refl _)).more T1.A.K.size) B3.out).mono ?_
    rintro e w5 ⟨rfl, hb⟩
    replace T1 := T1.step hb
    clear hb
    have hC := T1.A.C
    have hD := T1.O.C
    go_wp2_with fail
    go_ret
    exact ⟨rfl, T1.A.K⟩
end Go.Proofs.Ytlmllnbibiihhaa
