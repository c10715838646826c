/-
  The model's l6Apply.
-/
import Derived.Test.YtmgckdmglnmnnaaGreatDoorMZ8
/- Us -/
set_option linter.unusedVariables false
namespace Go.Proofs.YtmgckdmglnmnnaaGreatDoor
open Go.RowKit

theorem three (w : World) (o o' o'' : Obj) : Below w.heap.size w (((w.alloc o).alloc o').alloc o'') := (((Below.refl _ _).alloc (Nat.le_refl _) _).alloc (by simp) _).alloc (by simp; omega) _
/-- The blocks of a state's lists. -/
def rowsOf (v : Value) (g : Nat) : Prop := ∃ (cs : Array Value) (i : Nat) (u : Value), v = .agg cs ∧ cs[i]? = some u ∧ u.ownBlock = some g
theorem OwnSt.blocks {w : World} {B : Nat} {v : Value} {s : StD} (h : OwnSt w B v s) {g : Nat} (hg : rowsOf v g) : B ≤ g ∧ g < w.heap.size := by
  obtain ⟨v0, v1, v2, v3, rfl, h0, h1, h2, h3⟩ := h.it
  obtain ⟨cs, i, u, hv, hc, hu⟩ := hg
  injection hv with hv
  subst hv
  match i, hc with
  | 0, hc => cases hc; cases hu
  | 1, hc => cases hc; cases hu
  | 2, hc => cases hc; cases hu
  | 3, hc => cases hc; cases hu
  | 4, hc => cases hc; cases hu
  | 5, hc => cases hc; cases hu
  | 6, hc => cases hc; exact h0.lt g hu
  | 7, hc => cases hc; exact h1.lt g hu
  | 8, hc => cases hc; exact h2.lt g hu
  | 9, hc => cases hc; exact h3.lt g hu
  | 10, hc => cases hc; cases hu
  | 11, hc => cases hc; cases hu
  | k + 12, hc => simp at hc
/-- What applying a record answers: it writes into the state's own lists alone. -/
def Appl (w : World) (B : Nat) (v : Value) (t : StD) (e : Ending) (w' : World) : Prop := ∃ v', e = .returned v' ∧ OwnSt w' B v' t ∧ Keeps (rowsOf v) w w'

set_option maxRecDepth 4000 in
set_option maxHeartbeats 4000000 in
theorem apply_clock (v : Value) (s : StD) (a b : Int) (w : World) (B : Nat) (hB : B ≤ w.heap.size) (h : OwnSt w B v s) :
    Calls Tryz.prog 98 #[v, recC ⟨8, a, b⟩] w (Appl w B v (applyR s ⟨8, a, b⟩)) := by
  obtain ⟨v0, v1, v2, v3, rfl, h0, h1, h2, h3⟩ := h.it
  have H0 := Lib.hid h0
  have H1 := Lib.hid h1
  have H2 := Lib.hid h2
  have H3 := Lib.hid h3
  obtain ⟨A0, c0, rfl, r0, s0⟩ := open_rowR h0
  obtain ⟨A1, c1, rfl, r1, s1⟩ := open_rowR h1
  obtain ⟨A2, c2, rfl, r2, s2⟩ := open_rowR h2
  obtain ⟨A3, c3, rfl, r3, s3⟩ := open_rowR h3
  have S3 := Lib.hid s3
  obtain ⟨ph, co, ck, bo, ba, lb, l0, l1, l2, l3, gd, pr⟩ := s
  clear h h0 h1 h2 h3 r0 r1 r2 r3 s0 s1 s2 s3
  have HB := Lib.hid hB
  clear hB
  dsimp only at *
  unfold recC
  dsimp only
  have HE : Hid (applyR ⟨ph, co, ck, bo, ba, lb, l0, l1, l2, l3, gd, pr⟩ ⟨8, a, b⟩ = ⟨ph, co, a, bo, ba, lb, l0, l1, l2, l3, gd, pr⟩) := Lib.hid (rfl)
  go_enter Tryz.func98, Tryz.ntmps98
  go_wp2
  refine bodyPost_ret (v := .agg (stC A0 A1 A2 A3 l0.length c0 l1.length c1 l2.length c2 l3.length c3 ph co a bo ba lb gd pr)) ?_ rfl ⟨_, rfl, ?_, Keeps.of_below (three _ _ _ _)⟩
  · simp [results, Tryz.results98, go_sem]
  · rw [HE.out]
    exact ⟨_, _, _, _, rfl, ownsRow_below H0.out (three _ _ _ _), ownsRow_below H1.out (three _ _ _ _), ownsRow_below H2.out (three _ _ _ _), ownsRow_below H3.out (three _ _ _ _)⟩

set_option maxRecDepth 4000 in
set_option maxHeartbeats 4000000 in
theorem apply_band (v : Value) (s : StD) (a b : Int) (w : World) (B : Nat) (hB : B ≤ w.heap.size) (h : OwnSt w B v s) :
    Calls Tryz.prog 98 #[v, recC ⟨9, a, b⟩] w (Appl w B v (applyR s ⟨9, a, b⟩)) := by
  obtain ⟨v0, v1, v2, v3, rfl, h0, h1, h2, h3⟩ := h.it
  have H0 := Lib.hid h0
  have H1 := Lib.hid h1
  have H2 := Lib.hid h2
  have H3 := Lib.hid h3
  obtain ⟨A0, c0, rfl, r0, s0⟩ := open_rowR h0
  obtain ⟨A1, c1, rfl, r1, s1⟩ := open_rowR h1
  obtain ⟨A2, c2, rfl, r2, s2⟩ := open_rowR h2
  obtain ⟨A3, c3, rfl, r3, s3⟩ := open_rowR h3
  have S3 := Lib.hid s3
  obtain ⟨ph, co, ck, bo, ba, lb, l0, l1, l2, l3, gd, pr⟩ := s
  clear h h0 h1 h2 h3 r0 r1 r2 r3 s0 s1 s2 s3
  have HB := Lib.hid hB
  clear hB
  dsimp only at *
  unfold recC
  dsimp only
  have HE : Hid (applyR ⟨ph, co, ck, bo, ba, lb, l0, l1, l2, l3, gd, pr⟩ ⟨9, a, b⟩ = ⟨ph, co, ck, bo, a, lb, l0, l1, l2, l3, gd, pr⟩) := Lib.hid (rfl)
  go_enter Tryz.func98, Tryz.ntmps98
  go_wp2
  refine bodyPost_ret (v := .agg (stC A0 A1 A2 A3 l0.length c0 l1.length c1 l2.length c2 l3.length c3 ph co ck bo a lb gd pr)) ?_ rfl ⟨_, rfl, ?_, Keeps.of_below (three _ _ _ _)⟩
  · simp [results, Tryz.results98, go_sem]
  · rw [HE.out]
    exact ⟨_, _, _, _, rfl, ownsRow_below H0.out (three _ _ _ _), ownsRow_below H1.out (three _ _ _ _), ownsRow_below H2.out (three _ _ _ _), ownsRow_below H3.out (three _ _ _ _)⟩

set_option maxRecDepth 4000 in
set_option maxHeartbeats 4000000 in
theorem apply_boot (v : Value) (s : StD) (a b : Int) (w : World) (B : Nat) (hB : B ≤ w.heap.size) (h : OwnSt w B v s) :
    Calls Tryz.prog 98 #[v, recC ⟨10, a, b⟩] w (Appl w B v (applyR s ⟨10, a, b⟩)) := by
  obtain ⟨v0, v1, v2, v3, rfl, h0, h1, h2, h3⟩ := h.it
  have H0 := Lib.hid h0
  have H1 := Lib.hid h1
  have H2 := Lib.hid h2
  have H3 := Lib.hid h3
  obtain ⟨A0, c0, rfl, r0, s0⟩ := open_rowR h0
  obtain ⟨A1, c1, rfl, r1, s1⟩ := open_rowR h1
  obtain ⟨A2, c2, rfl, r2, s2⟩ := open_rowR h2
  obtain ⟨A3, c3, rfl, r3, s3⟩ := open_rowR h3
  have S3 := Lib.hid s3
  obtain ⟨ph, co, ck, bo, ba, lb, l0, l1, l2, l3, gd, pr⟩ := s
  clear h h0 h1 h2 h3 r0 r1 r2 r3 s0 s1 s2 s3
  have HB := Lib.hid hB
  clear hB
  dsimp only at *
  unfold recC
  dsimp only
  have HE : Hid (applyR ⟨ph, co, ck, bo, ba, lb, l0, l1, l2, l3, gd, pr⟩ ⟨10, a, b⟩ = ⟨ph, co, ck, a, ba, lb, l0, l1, l2, l3, gd, pr⟩) := Lib.hid (rfl)
  go_enter Tryz.func98, Tryz.ntmps98
  go_wp2
  refine bodyPost_ret (v := .agg (stC A0 A1 A2 A3 l0.length c0 l1.length c1 l2.length c2 l3.length c3 ph co ck a ba lb gd pr)) ?_ rfl ⟨_, rfl, ?_, Keeps.of_below (three _ _ _ _)⟩
  · simp [results, Tryz.results98, go_sem]
  · rw [HE.out]
    exact ⟨_, _, _, _, rfl, ownsRow_below H0.out (three _ _ _ _), ownsRow_below H1.out (three _ _ _ _), ownsRow_below H2.out (three _ _ _ _), ownsRow_below H3.out (three _ _ _ _)⟩

set_option maxRecDepth 4000 in
set_option maxHeartbeats 4000000 in
theorem apply_lockBy (v : Value) (s : StD) (a b : Int) (w : World) (B : Nat) (hB : B ≤ w.heap.size) (h : OwnSt w B v s) :
    Calls Tryz.prog 98 #[v, recC ⟨11, a, b⟩] w (Appl w B v (applyR s ⟨11, a, b⟩)) := by
  obtain ⟨v0, v1, v2, v3, rfl, h0, h1, h2, h3⟩ := h.it
  have H0 := Lib.hid h0
  have H1 := Lib.hid h1
  have H2 := Lib.hid h2
  have H3 := Lib.hid h3
  obtain ⟨A0, c0, rfl, r0, s0⟩ := open_rowR h0
  obtain ⟨A1, c1, rfl, r1, s1⟩ := open_rowR h1
  obtain ⟨A2, c2, rfl, r2, s2⟩ := open_rowR h2
  obtain ⟨A3, c3, rfl, r3, s3⟩ := open_rowR h3
  have S3 := Lib.hid s3
  obtain ⟨ph, co, ck, bo, ba, lb, l0, l1, l2, l3, gd, pr⟩ := s
  clear h h0 h1 h2 h3 r0 r1 r2 r3 s0 s1 s2 s3
  have HB := Lib.hid hB
  clear hB
  dsimp only at *
  unfold recC
  dsimp only
  have HE : Hid (applyR ⟨ph, co, ck, bo, ba, lb, l0, l1, l2, l3, gd, pr⟩ ⟨11, a, b⟩ = ⟨ph, co, ck, bo, ba, a, l0, l1, l2, l3, gd, pr⟩) := Lib.hid (rfl)
  go_enter Tryz.func98, Tryz.ntmps98
  go_wp2
  refine bodyPost_ret (v := .agg (stC A0 A1 A2 A3 l0.length c0 l1.length c1 l2.length c2 l3.length c3 ph co ck bo ba a gd pr)) ?_ rfl ⟨_, rfl, ?_, Keeps.of_below (three _ _ _ _)⟩
  · simp [results, Tryz.results98, go_sem]
  · rw [HE.out]
    exact ⟨_, _, _, _, rfl, ownsRow_below H0.out (three _ _ _ _), ownsRow_below H1.out (three _ _ _ _), ownsRow_below H2.out (three _ _ _ _), ownsRow_below H3.out (three _ _ _ _)⟩

set_option maxRecDepth 4000 in
set_option maxHeartbeats 4000000 in
theorem apply_probe (v : Value) (s : StD) (a b : Int) (w : World) (B : Nat) (hB : B ≤ w.heap.size) (h : OwnSt w B v s) :
    Calls Tryz.prog 98 #[v, recC ⟨12, a, b⟩] w (Appl w B v (applyR s ⟨12, a, b⟩)) := by
  obtain ⟨v0, v1, v2, v3, rfl, h0, h1, h2, h3⟩ := h.it
  have H0 := Lib.hid h0
  have H1 := Lib.hid h1
  have H2 := Lib.hid h2
  have H3 := Lib.hid h3
  obtain ⟨A0, c0, rfl, r0, s0⟩ := open_rowR h0
  obtain ⟨A1, c1, rfl, r1, s1⟩ := open_rowR h1
  obtain ⟨A2, c2, rfl, r2, s2⟩ := open_rowR h2
  obtain ⟨A3, c3, rfl, r3, s3⟩ := open_rowR h3
  have S3 := Lib.hid s3
  obtain ⟨ph, co, ck, bo, ba, lb, l0, l1, l2, l3, gd, pr⟩ := s
  clear h h0 h1 h2 h3 r0 r1 r2 r3 s0 s1 s2 s3
  have HB := Lib.hid hB
  clear hB
  dsimp only at *
  unfold recC
  dsimp only
  have HE : Hid (applyR ⟨ph, co, ck, bo, ba, lb, l0, l1, l2, l3, gd, pr⟩ ⟨12, a, b⟩ = ⟨ph, co, ck, bo, ba, lb, l0, l1, l2, l3, a, b⟩) := Lib.hid (rfl)
  go_enter Tryz.func98, Tryz.ntmps98
  go_wp2
  refine bodyPost_ret (v := .agg (stC A0 A1 A2 A3 l0.length c0 l1.length c1 l2.length c2 l3.length c3 ph co ck bo ba lb a b)) ?_ rfl ⟨_, rfl, ?_, Keeps.of_below (three _ _ _ _)⟩
  · simp [results, Tryz.results98, go_sem]
  · rw [HE.out]
    exact ⟨_, _, _, _, rfl, ownsRow_below H0.out (three _ _ _ _), ownsRow_below H1.out (three _ _ _ _), ownsRow_below H2.out (three _ _ _ _), ownsRow_below H3.out (three _ _ _ _)⟩

set_option maxRecDepth 4000 in
set_option maxHeartbeats 4000000 in
theorem apply_phase (v : Value) (s : StD) (a b : Int) (w : World) (B : Nat) (hB : B ≤ w.heap.size) (h : OwnSt w B v s) (ha : a ≠ 0) :
    Calls Tryz.prog 98 #[v, recC ⟨1, a, b⟩] w (Appl w B v (applyR s ⟨1, a, b⟩)) := by
  obtain ⟨v0, v1, v2, v3, rfl, h0, h1, h2, h3⟩ := h.it
  have H0 := Lib.hid h0
  have H1 := Lib.hid h1
  have H2 := Lib.hid h2
  have H3 := Lib.hid h3
  obtain ⟨A0, c0, rfl, r0, s0⟩ := open_rowR h0
  obtain ⟨A1, c1, rfl, r1, s1⟩ := open_rowR h1
  obtain ⟨A2, c2, rfl, r2, s2⟩ := open_rowR h2
  obtain ⟨A3, c3, rfl, r3, s3⟩ := open_rowR h3
  have S3 := Lib.hid s3
  obtain ⟨ph, co, ck, bo, ba, lb, l0, l1, l2, l3, gd, pr⟩ := s
  clear h h0 h1 h2 h3 r0 r1 r2 r3 s0 s1 s2 s3
  have HB := Lib.hid hB
  clear hB
  dsimp only at *
  unfold recC
  dsimp only
  have HE : Hid (applyR ⟨ph, co, ck, bo, ba, lb, l0, l1, l2, l3, gd, pr⟩ ⟨1, a, b⟩ = ⟨a, true, ck, bo, ba, lb, l0, l1, l2, l3, gd, pr⟩) := Lib.hid (by simp [applyR, ha])
  have hab : (a != 0) = true := by simp [ha]
  have hac : (a == 0) = false := by simp [ha]
  go_enter Tryz.func98, Tryz.ntmps98
  go_wp2
  refine bodyPost_ret (v := .agg (stC A0 A1 A2 A3 l0.length c0 l1.length c1 l2.length c2 l3.length c3 a true ck bo ba lb gd pr)) ?_ rfl ⟨_, rfl, ?_, Keeps.of_below (three _ _ _ _)⟩
  · simp [results, Tryz.results98, go_sem]
  · rw [HE.out]
    exact ⟨_, _, _, _, rfl, ownsRow_below H0.out (three _ _ _ _), ownsRow_below H1.out (three _ _ _ _), ownsRow_below H2.out (three _ _ _ _), ownsRow_below H3.out (three _ _ _ _)⟩

set_option maxRecDepth 4000 in
set_option maxHeartbeats 4000000 in
theorem apply_idle (v : Value) (s : StD) (a b : Int) (w : World) (B : Nat) (hB : B ≤ w.heap.size) (h : OwnSt w B v s) (ha : a = 0) :
    Calls Tryz.prog 98 #[v, recC ⟨1, a, b⟩] w (Appl w B v (applyR s ⟨1, a, b⟩)) := by
  obtain ⟨v0, v1, v2, v3, rfl, h0, h1, h2, h3⟩ := h.it
  have H0 := Lib.hid h0
  have H1 := Lib.hid h1
  have H2 := Lib.hid h2
  have H3 := Lib.hid h3
  obtain ⟨A0, c0, rfl, r0, s0⟩ := open_rowR h0
  obtain ⟨A1, c1, rfl, r1, s1⟩ := open_rowR h1
  obtain ⟨A2, c2, rfl, r2, s2⟩ := open_rowR h2
  obtain ⟨A3, c3, rfl, r3, s3⟩ := open_rowR h3
  have S3 := Lib.hid s3
  obtain ⟨ph, co, ck, bo, ba, lb, l0, l1, l2, l3, gd, pr⟩ := s
  clear h h0 h1 h2 h3 r0 r1 r2 r3 s0 s1 s2 s3
  have HB := Lib.hid hB
  clear hB
  dsimp only at *
  unfold recC
  dsimp only
  subst ha
  have HE : Hid (applyR ⟨ph, co, ck, bo, ba, lb, l0, l1, l2, l3, gd, pr⟩ ⟨1, 0, b⟩ = ⟨0, false, ck, bo, ba, lb, l0, l1, l2, [], 0, 0⟩) := Lib.hid (rfl)
  go_enter Tryz.func98, Tryz.ntmps98
  go_wp2
  refine bodyPost_ret (v := .agg (stC A0 A1 A2 (some ⟨w.heap.size + 1 + 1 + 1, 0, none⟩) l0.length c0 l1.length c1 l2.length c2 0 0 0 false ck bo ba lb 0 0)) ?_ rfl ⟨_, rfl, ?_, Keeps.of_below ((three _ _ _ _).alloc (by simp; omega) _)⟩
  · simp [results, Tryz.results98, go_sem]
  · rw [HE.out]
    exact ⟨_, _, _, _, rfl, ownsRow_below H0.out ((three _ _ _ _).alloc (by simp; omega) _), ownsRow_below H1.out ((three _ _ _ _).alloc (by simp; omega) _), ownsRow_below H2.out ((three _ _ _ _).alloc (by simp; omega) _), made_at _ _ _ _ _ (by simp) (by have := HB.out; simp; omega)⟩

set_option maxRecDepth 4000 in
set_option maxHeartbeats 4000000 in
theorem apply_lock (v : Value) (s : StD) (a b : Int) (w : World) (B : Nat) (hB : B ≤ w.heap.size) (h : OwnSt w B v s) (hf : s.lks.length ≤ 1048576) (hr : s.lks.Pairwise (· < ·)) :
    Calls Tryz.prog 98 #[v, recC ⟨6, a, b⟩] w (Appl w B v (applyR s ⟨6, a, b⟩)) := by
  obtain ⟨v0, v1, v2, v3, rfl, h0, h1, h2, h3⟩ := h.it
  have H0 := Lib.hid h0
  have H1 := Lib.hid h1
  have H2 := Lib.hid h2
  have H3 := Lib.hid h3
  obtain ⟨A0, c0, rfl, r0, s0⟩ := open_rowR h0
  obtain ⟨A1, c1, rfl, r1, s1⟩ := open_rowR h1
  obtain ⟨A2, c2, rfl, r2, s2⟩ := open_rowR h2
  obtain ⟨A3, c3, rfl, r3, s3⟩ := open_rowR h3
  have S3 := Lib.hid s3
  obtain ⟨ph, co, ck, bo, ba, lb, l0, l1, l2, l3, gd, pr⟩ := s
  clear h h0 h1 h2 h3 r0 r1 r2 r3 s0 s1 s2 s3
  have HB := Lib.hid hB
  clear hB
  dsimp only at *
  unfold recC
  dsimp only
  have HE : Hid (applyR ⟨ph, co, ck, bo, ba, lb, l0, l1, l2, l3, gd, pr⟩ ⟨6, a, b⟩ = ⟨ph, co, ck, bo, ba, lb, l0, l1, l2, withN a l3, gd, pr⟩) := Lib.hid (rfl)
  have HR := Lib.hid hr
  clear hr
  have HF := Lib.hid hf
  clear hf
  go_enter Tryz.func98, Tryz.ntmps98
  go_wp2_with fail
  have X1 := Own.box w (stC A0 A1 A2 A3 l0.length c0 l1.length c1 l2.length c2 l3.length c3 ph co ck bo ba lb gd pr) 34
  have X2 := X1.alloc (.cells #[.int .i64 6, .int .i64 a, .int .i64 b] 56)
  have X3 := X2.alloc (.cells (stC none none none none 0 0 0 0 0 0 0 0 0 false 0 0 0 0 0 0) 34)
  have O3 := Own.box2 X2.K (stC none none none none 0 0 0 0 0 0 0 0 0 false 0 0 0 0 0 0) 34
  refine (l6With_any _ _ _ l3 a _ ((S3.out.below X3.K (Nat.le_refl _)).more X3.K.size) rfl HF.out HR.out).mono ?_
  rintro e w2 ⟨v3, rfl, hown, hb⟩
  obtain ⟨B3, d3, rfl, -⟩ := open_rowR hown
  have X := X3.step hb
  have O := O3.step hb
  have HO := Lib.hid (ownsRow_base (base' := w.heap.size + 3) hown (by simp))
  simp only [heap_size_alloc_] at O
  have hC := X.C
  have hF := X.F
  have hD := O.C
  have hG := O.F
  clear X1 X2 X3 O3 hb hown
  go_wp2
  refine bodyPost_ret (v := .agg (stC A0 A1 A2 B3 l0.length c0 l1.length c1 l2.length c2 (withN a l3).length d3 ph co ck bo ba lb gd pr)) ?_ rfl ⟨_, rfl, ?_, Keeps.of_below ?_⟩
  · simp [results, Tryz.results98, go_sem, hD]
  · rw [HE.out]
    refine ⟨_, _, _, _, rfl, ownsRow_below H0.out ?_, ownsRow_below H1.out ?_, ownsRow_below H2.out ?_, ownsRow_base (base := w.heap.size + 3) ?_ (by have := HB.out; omega)⟩
    iterate 3
      · iterate 13 (refine Below.setCell ?_ (by simp <;> omega) _)
        exact X.K
    · iterate 13 (refine ownsRow_setCell_below ?_ (by simp <;> omega) _)
      exact HO.out
  · iterate 13 (refine Below.setCell ?_ (by simp <;> omega) _)
    exact X.K

set_option maxRecDepth 4000 in
set_option maxHeartbeats 4000000 in
theorem apply_unlock (v : Value) (s : StD) (a b : Int) (w : World) (B : Nat) (hB : B ≤ w.heap.size) (h : OwnSt w B v s) (hf : s.lks.length ≤ 1048576) :
    Calls Tryz.prog 98 #[v, recC ⟨7, a, b⟩] w (Appl w B v (applyR s ⟨7, a, b⟩)) := by
  obtain ⟨v0, v1, v2, v3, rfl, h0, h1, h2, h3⟩ := h.it
  have H0 := Lib.hid h0
  have H1 := Lib.hid h1
  have H2 := Lib.hid h2
  have H3 := Lib.hid h3
  obtain ⟨A0, c0, rfl, r0, s0⟩ := open_rowR h0
  obtain ⟨A1, c1, rfl, r1, s1⟩ := open_rowR h1
  obtain ⟨A2, c2, rfl, r2, s2⟩ := open_rowR h2
  obtain ⟨A3, c3, rfl, r3, s3⟩ := open_rowR h3
  have S3 := Lib.hid s3
  obtain ⟨ph, co, ck, bo, ba, lb, l0, l1, l2, l3, gd, pr⟩ := s
  clear h h0 h1 h2 h3 r0 r1 r2 r3 s0 s1 s2 s3
  have HB := Lib.hid hB
  clear hB
  dsimp only at *
  unfold recC
  dsimp only
  have HE : Hid (applyR ⟨ph, co, ck, bo, ba, lb, l0, l1, l2, l3, gd, pr⟩ ⟨7, a, b⟩ = ⟨ph, co, ck, bo, ba, lb, l0, l1, l2, withoutN l3 a, gd, pr⟩) := Lib.hid (rfl)
  have HF := Lib.hid hf
  clear hf
  go_enter Tryz.func98, Tryz.ntmps98
  go_wp2_with fail
  have X1 := Own.box w (stC A0 A1 A2 A3 l0.length c0 l1.length c1 l2.length c2 l3.length c3 ph co ck bo ba lb gd pr) 34
  have X2 := X1.alloc (.cells #[.int .i64 7, .int .i64 a, .int .i64 b] 56)
  have X3 := X2.alloc (.cells (stC none none none none 0 0 0 0 0 0 0 0 0 false 0 0 0 0 0 0) 34)
  have O3 := Own.box2 X2.K (stC none none none none 0 0 0 0 0 0 0 0 0 false 0 0 0 0 0 0) 34
  refine (l6Without_any _ _ _ l3 a _ ((S3.out.below X3.K (Nat.le_refl _)).more X3.K.size) rfl HF.out).mono ?_
  rintro e w2 ⟨v3, rfl, hown, hb⟩
  obtain ⟨B3, d3, rfl, -⟩ := open_rowR hown
  have X := X3.step hb
  have O := O3.step hb
  have HO := Lib.hid (ownsRow_base (base' := w.heap.size + 3) hown (by simp))
  simp only [heap_size_alloc_] at O
  have hC := X.C
  have hF := X.F
  have hD := O.C
  have hG := O.F
  clear X1 X2 X3 O3 hb hown
  go_wp2
  refine bodyPost_ret (v := .agg (stC A0 A1 A2 B3 l0.length c0 l1.length c1 l2.length c2 (withoutN l3 a).length d3 ph co ck bo ba lb gd pr)) ?_ rfl ⟨_, rfl, ?_, Keeps.of_below ?_⟩
  · simp [results, Tryz.results98, go_sem, hD]
  · rw [HE.out]
    refine ⟨_, _, _, _, rfl, ownsRow_below H0.out ?_, ownsRow_below H1.out ?_, ownsRow_below H2.out ?_, ownsRow_base (base := w.heap.size + 3) ?_ (by have := HB.out; omega)⟩
    iterate 3
      · iterate 13 (refine Below.setCell ?_ (by simp <;> omega) _)
        exact X.K
    · iterate 13 (refine ownsRow_setCell_below ?_ (by simp <;> omega) _)
      exact HO.out
  · iterate 13 (refine Below.setCell ?_ (by simp <;> omega) _)
    exact X.K
end Go.Proofs.YtmgckdmglnmnnaaGreatDoor
