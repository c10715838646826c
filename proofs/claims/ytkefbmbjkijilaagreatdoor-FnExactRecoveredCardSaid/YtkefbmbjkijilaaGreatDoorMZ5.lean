/-
  The model's l6Apply, whatever the record.
-/
import Derived.Test.YtkefbmbjkijilaaGreatDoorMZ4
/- Us -/
set_option linter.unusedVariables false
namespace Go.Proofs.YtkefbmbjkijilaaGreatDoor
open Go.RowKit

theorem three (w : World) (o o' o'' : Obj) : Below w.heap.size w (((w.alloc o).alloc o').alloc o'') := (((Below.refl _ _).alloc (Nat.le_refl _) _).alloc (by simp) _).alloc (by simp; omega) _
/-- The blocks of a state's lists. -/
def rowsOf (v : Value) (g : Nat) : Prop := ∃ (cs : Array Value) (i : Nat) (u : Value), v = .agg cs ∧ cs[i]? = some u ∧ u.ownBlock = some g
theorem OwnSt.blocks {w : World} {B : Nat} {v : Value} {s : StD} (h : OwnSt w B v s) {g : Nat} (hg : rowsOf v g) : B ≤ g ∧ g < w.heap.size := by
  obtain ⟨v0, v1, v2, v3, rfl, h0, h1, h2, h3⟩ := h.it
  obtain ⟨cs, i, u, hv, hc, hu⟩ := hg
  injection hv with hv
  subst hv
  match i, hc with
  | 0, hc => cases hc; cases hu
  | 1, hc => cases hc; cases hu
  | 2, hc => cases hc; cases hu
  | 3, hc => cases hc; cases hu
  | 4, hc => cases hc; cases hu
  | 5, hc => cases hc; cases hu
  | 6, hc => cases hc; exact h0.lt g hu
  | 7, hc => cases hc; exact h1.lt g hu
  | 8, hc => cases hc; exact h2.lt g hu
  | 9, hc => cases hc; exact h3.lt g hu
  | 10, hc => cases hc; cases hu
  | 11, hc => cases hc; cases hu
  | k + 12, hc => simp at hc
/-- What applying a record answers: it writes into the state's own lists alone. -/
def Appl (w : World) (B : Nat) (v : Value) (t : StD) (e : Ending) (w' : World) : Prop := ∃ v', e = .returned v' ∧ OwnSt w' B v' t ∧ Keeps (rowsOf v) w w'

set_option maxRecDepth 4000 in
set_option maxHeartbeats 4000000 in
theorem apply_clock (v : Value) (s : StD) (a b : Int) (w : World) (B : Nat) (hB : B ≤ w.heap.size) (h : OwnSt w B v s) :
    Calls Tryz.prog 110 #[v, recC ⟨8, a, b⟩] w (Appl w B v (applyR s ⟨8, a, b⟩)) := by
  obtain ⟨v0, v1, v2, v3, rfl, h0, h1, h2, h3⟩ := h.it
  have H0 := Lib.hid h0
  have H1 := Lib.hid h1
  have H2 := Lib.hid h2
  have H3 := Lib.hid h3
  obtain ⟨A0, c0, rfl, r0, s0⟩ := open_rowR h0
  obtain ⟨A1, c1, rfl, r1, s1⟩ := open_rowR h1
  obtain ⟨A2, c2, rfl, r2, s2⟩ := open_rowR h2
  obtain ⟨A3, c3, rfl, r3, s3⟩ := open_rowR h3
  have S3 := Lib.hid s3
  obtain ⟨ph, co, ck, bo, ba, lb, l0, l1, l2, l3, gd, pr⟩ := s
  clear h h0 h1 h2 h3 r0 r1 r2 r3 s0 s1 s2 s3
  have HB := Lib.hid hB
  clear hB
  dsimp only at *
  unfold recC
  dsimp only
  have HE : Hid (applyR ⟨ph, co, ck, bo, ba, lb, l0, l1, l2, l3, gd, pr⟩ ⟨8, a, b⟩ = ⟨ph, co, a, bo, ba, lb, l0, l1, l2, l3, gd, pr⟩) := Lib.hid (rfl)
  go_enter Tryz.func110, Tryz.ntmps110
  go_wp2
  refine bodyPost_ret (v := .agg (stC A0 A1 A2 A3 l0.length c0 l1.length c1 l2.length c2 l3.length c3 ph co a bo ba lb gd pr)) ?_ rfl ⟨_, rfl, ?_, Keeps.of_below (three _ _ _ _)⟩
  · simp [results, Tryz.results110, go_sem]
  · rw [HE.out]
    exact ⟨_, _, _, _, rfl, ownsRow_below H0.out (three _ _ _ _), ownsRow_below H1.out (three _ _ _ _), ownsRow_below H2.out (three _ _ _ _), ownsRow_below H3.out (three _ _ _ _)⟩

set_option maxRecDepth 4000 in
set_option maxHeartbeats 4000000 in
theorem apply_band (v : Value) (s : StD) (a b : Int) (w : World) (B : Nat) (hB : B ≤ w.heap.size) (h : OwnSt w B v s) :
    Calls Tryz.prog 110 #[v, recC ⟨9, a, b⟩] w (Appl w B v (applyR s ⟨9, a, b⟩)) := by
  obtain ⟨v0, v1, v2, v3, rfl, h0, h1, h2, h3⟩ := h.it
  have H0 := Lib.hid h0
  have H1 := Lib.hid h1
  have H2 := Lib.hid h2
  have H3 := Lib.hid h3
  obtain ⟨A0, c0, rfl, r0, s0⟩ := open_rowR h0
  obtain ⟨A1, c1, rfl, r1, s1⟩ := open_rowR h1
  obtain ⟨A2, c2, rfl, r2, s2⟩ := open_rowR h2
  obtain ⟨A3, c3, rfl, r3, s3⟩ := open_rowR h3
  have S3 := Lib.hid s3
  obtain ⟨ph, co, ck, bo, ba, lb, l0, l1, l2, l3, gd, pr⟩ := s
  clear h h0 h1 h2 h3 r0 r1 r2 r3 s0 s1 s2 s3
  have HB := Lib.hid hB
  clear hB
  dsimp only at *
  unfold recC
  dsimp only
  have HE : Hid (applyR ⟨ph, co, ck, bo, ba, lb, l0, l1, l2, l3, gd, pr⟩ ⟨9, a, b⟩ = ⟨ph, co, ck, bo, a, lb, l0, l1, l2, l3, gd, pr⟩) := Lib.hid (rfl)
  go_enter Tryz.func110, Tryz.ntmps110
  go_wp2
  refine bodyPost_ret (v := .agg (stC A0 A1 A2 A3 l0.length c0 l1.length c1 l2.length c2 l3.length c3 ph co ck bo a lb gd pr)) ?_ rfl ⟨_, rfl, ?_, Keeps.of_below (three _ _ _ _)⟩
  · simp [results, Tryz.results110, go_sem]
  · rw [HE.out]
    exact ⟨_, _, _, _, rfl, ownsRow_below H0.out (three _ _ _ _), ownsRow_below H1.out (three _ _ _ _), ownsRow_below H2.out (three _ _ _ _), ownsRow_below H3.out (three _ _ _ _)⟩

set_option maxRecDepth 4000 in
set_option maxHeartbeats 4000000 in
theorem apply_boot (v : Value) (s : StD) (a b : Int) (w : World) (B : Nat) (hB : B ≤ w.heap.size) (h : OwnSt w B v s) :
    Calls Tryz.prog 110 #[v, recC ⟨10, a, b⟩] w (Appl w B v (applyR s ⟨10, a, b⟩)) := by
  obtain ⟨v0, v1, v2, v3, rfl, h0, h1, h2, h3⟩ := h.it
  have H0 := Lib.hid h0
  have H1 := Lib.hid h1
  have H2 := Lib.hid h2
  have H3 := Lib.hid h3
  obtain ⟨A0, c0, rfl, r0, s0⟩ := open_rowR h0
  obtain ⟨A1, c1, rfl, r1, s1⟩ := open_rowR h1
  obtain ⟨A2, c2, rfl, r2, s2⟩ := open_rowR h2
  obtain ⟨A3, c3, rfl, r3, s3⟩ := open_rowR h3
  have S3 := Lib.hid s3
  obtain ⟨ph, co, ck, bo, ba, lb, l0, l1, l2, l3, gd, pr⟩ := s
  clear h h0 h1 h2 h3 r0 r1 r2 r3 s0 s1 s2 s3
  have HB := Lib.hid hB
  clear hB
  dsimp only at *
  unfold recC
  dsimp only
  have HE : Hid (applyR ⟨ph, co, ck, bo, ba, lb, l0, l1, l2, l3, gd, pr⟩ ⟨10, a, b⟩ = ⟨ph, co, ck, a, ba, lb, l0, l1, l2, l3, gd, pr⟩) := Lib.hid (rfl)
  go_enter Tryz.func110, Tryz.ntmps110
  go_wp2
  refine bodyPost_ret (v := .agg (stC A0 A1 A2 A3 l0.length c0 l1.length c1 l2.length c2 l3.length c3 ph co ck a ba lb gd pr)) ?_ rfl ⟨_, rfl, ?_, Keeps.of_below (three _ _ _ _)⟩
  · simp [results, Tryz.results110, go_sem]
  · rw [HE.out]
    exact ⟨_, _, _, _, rfl, ownsRow_below H0.out (three _ _ _ _), ownsRow_below H1.out (three _ _ _ _), ownsRow_below H2.out (three _ _ _ _), ownsRow_below H3.out (three _ _ _ _)⟩

set_option maxRecDepth 4000 in
set_option maxHeartbeats 4000000 in
theorem apply_lockBy (v : Value) (s : StD) (a b : Int) (w : World) (B : Nat) (hB : B ≤ w.heap.size) (h : OwnSt w B v s) :
    Calls Tryz.prog 110 #[v, recC ⟨11, a, b⟩] w (Appl w B v (applyR s ⟨11, a, b⟩)) := by
  obtain ⟨v0, v1, v2, v3, rfl, h0, h1, h2, h3⟩ := h.it
  have H0 := Lib.hid h0
  have H1 := Lib.hid h1
  have H2 := Lib.hid h2
  have H3 := Lib.hid h3
  obtain ⟨A0, c0, rfl, r0, s0⟩ := open_rowR h0
  obtain ⟨A1, c1, rfl, r1, s1⟩ := open_rowR h1
  obtain ⟨A2, c2, rfl, r2, s2⟩ := open_rowR h2
  obtain ⟨A3, c3, rfl, r3, s3⟩ := open_rowR h3
  have S3 := Lib.hid s3
  obtain ⟨ph, co, ck, bo, ba, lb, l0, l1, l2, l3, gd, pr⟩ := s
  clear h h0 h1 h2 h3 r0 r1 r2 r3 s0 s1 s2 s3
  have HB := Lib.hid hB
  clear hB
  dsimp only at *
  unfold recC
  dsimp only
  have HE : Hid (applyR ⟨ph, co, ck, bo, ba, lb, l0, l1, l2, l3, gd, pr⟩ ⟨11, a, b⟩ = ⟨ph, co, ck, bo, ba, a, l0, l1, l2, l3, gd, pr⟩) := Lib.hid (rfl)
  go_enter Tryz.func110, Tryz.ntmps110
  go_wp2
  refine bodyPost_ret (v := .agg (stC A0 A1 A2 A3 l0.length c0 l1.length c1 l2.length c2 l3.length c3 ph co ck bo ba a gd pr)) ?_ rfl ⟨_, rfl, ?_, Keeps.of_below (three _ _ _ _)⟩
  · simp [results, Tryz.results110, go_sem]
  · rw [HE.out]
    exact ⟨_, _, _, _, rfl, ownsRow_below H0.out (three _ _ _ _), ownsRow_below H1.out (three _ _ _ _), ownsRow_below H2.out (three _ _ _ _), ownsRow_below H3.out (three _ _ _ _)⟩

set_option maxRecDepth 4000 in
set_option maxHeartbeats 4000000 in
theorem apply_probe (v : Value) (s : StD) (a b : Int) (w : World) (B : Nat) (hB : B ≤ w.heap.size) (h : OwnSt w B v s) :
    Calls Tryz.prog 110 #[v, recC ⟨12, a, b⟩] w (Appl w B v (applyR s ⟨12, a, b⟩)) := by
  obtain ⟨v0, v1, v2, v3, rfl, h0, h1, h2, h3⟩ := h.it
  have H0 := Lib.hid h0
  have H1 := Lib.hid h1
  have H2 := Lib.hid h2
  have H3 := Lib.hid h3
  obtain ⟨A0, c0, rfl, r0, s0⟩ := open_rowR h0
  obtain ⟨A1, c1, rfl, r1, s1⟩ := open_rowR h1
  obtain ⟨A2, c2, rfl, r2, s2⟩ := open_rowR h2
  obtain ⟨A3, c3, rfl, r3, s3⟩ := open_rowR h3
  have S3 := Lib.hid s3
  obtain ⟨ph, co, ck, bo, ba, lb, l0, l1, l2, l3, gd, pr⟩ := s
  clear h h0 h1 h2 h3 r0 r1 r2 r3 s0 s1 s2 s3
  have HB := Lib.hid hB
  clear hB
  dsimp only at *
  unfold recC
  dsimp only
  have HE : Hid (applyR ⟨ph, co, ck, bo, ba, lb, l0, l1, l2, l3, gd, pr⟩ ⟨12, a, b⟩ = ⟨ph, co, ck, bo, ba, lb, l0, l1, l2, l3, a, b⟩) := Lib.hid (rfl)
  go_enter Tryz.func110, Tryz.ntmps110
  go_wp2
  refine bodyPost_ret (v := .agg (stC A0 A1 A2 A3 l0.length c0 l1.length c1 l2.length c2 l3.length c3 ph co ck bo ba lb a b)) ?_ rfl ⟨_, rfl, ?_, Keeps.of_below (three _ _ _ _)⟩
  · simp [results, Tryz.results110, go_sem]
  · rw [HE.out]
    exact ⟨_, _, _, _, rfl, ownsRow_below H0.out (three _ _ _ _), ownsRow_below H1.out (three _ _ _ _), ownsRow_below H2.out (three _ _ _ _), ownsRow_below H3.out (three _ _ _ _)⟩

set_option maxRecDepth 4000 in
set_option maxHeartbeats 4000000 in
theorem apply_phase (v : Value) (s : StD) (a b : Int) (w : World) (B : Nat) (hB : B ≤ w.heap.size) (h : OwnSt w B v s) (ha : a ≠ 0) :
    Calls Tryz.prog 110 #[v, recC ⟨1, a, b⟩] w (Appl w B v (applyR s ⟨1, a, b⟩)) := by
  obtain ⟨v0, v1, v2, v3, rfl, h0, h1, h2, h3⟩ := h.it
  have H0 := Lib.hid h0
  have H1 := Lib.hid h1
  have H2 := Lib.hid h2
  have H3 := Lib.hid h3
  obtain ⟨A0, c0, rfl, r0, s0⟩ := open_rowR h0
  obtain ⟨A1, c1, rfl, r1, s1⟩ := open_rowR h1
  obtain ⟨A2, c2, rfl, r2, s2⟩ := open_rowR h2
  obtain ⟨A3, c3, rfl, r3, s3⟩ := open_rowR h3
  have S3 := Lib.hid s3
  obtain ⟨ph, co, ck, bo, ba, lb, l0, l1, l2, l3, gd, pr⟩ := s
  clear h h0 h1 h2 h3 r0 r1 r2 r3 s0 s1 s2 s3
  have HB := Lib.hid hB
  clear hB
  dsimp only at *
  unfold recC
  dsimp only
  have HE : Hid (applyR ⟨ph, co, ck, bo, ba, lb, l0, l1, l2, l3, gd, pr⟩ ⟨1, a, b⟩ = ⟨a, true, ck, bo, ba, lb, l0, l1, l2, l3, gd, pr⟩) := Lib.hid (by simp [applyR, ha])
  have hab : (a != 0) = true := by simp [ha]
  have hac : (a == 0) = false := by simp [ha]
  go_enter Tryz.func110, Tryz.ntmps110
  go_wp2
  refine bodyPost_ret (v := .agg (stC A0 A1 A2 A3 l0.length c0 l1.length c1 l2.length c2 l3.length c3 a true ck bo ba lb gd pr)) ?_ rfl ⟨_, rfl, ?_, Keeps.of_below (three _ _ _ _)⟩
  · simp [results, Tryz.results110, go_sem]
  · rw [HE.out]
    exact ⟨_, _, _, _, rfl, ownsRow_below H0.out (three _ _ _ _), ownsRow_below H1.out (three _ _ _ _), ownsRow_below H2.out (three _ _ _ _), ownsRow_below H3.out (three _ _ _ _)⟩

set_option maxRecDepth 4000 in
set_option maxHeartbeats 4000000 in
theorem apply_idle (v : Value) (s : StD) (a b : Int) (w : World) (B : Nat) (hB : B ≤ w.heap.size) (h : OwnSt w B v s) (ha : a = 0) :
    Calls Tryz.prog 110 #[v, recC ⟨1, a, b⟩] w (Appl w B v (applyR s ⟨1, a, b⟩)) := by
  obtain ⟨v0, v1, v2, v3, rfl, h0, h1, h2, h3⟩ := h.it
  have H0 := Lib.hid h0
  have H1 := Lib.hid h1
  have H2 := Lib.hid h2
  have H3 := Lib.hid h3
  obtain ⟨A0, c0, rfl, r0, s0⟩ := open_rowR h0
  obtain ⟨A1, c1, rfl, r1, s1⟩ := open_rowR h1
  obtain ⟨A2, c2, rfl, r2, s2⟩ := open_rowR h2
  obtain ⟨A3, c3, rfl, r3, s3⟩ := open_rowR h3
  have S3 := Lib.hid s3
  obtain ⟨ph, co, ck, bo, ba, lb, l0, l1, l2, l3, gd, pr⟩ := s
  clear h h0 h1 h2 h3 r0 r1 r2 r3 s0 s1 s2 s3
  have HB := Lib.hid hB
  clear hB
  dsimp only at *
  unfold recC
  dsimp only
  subst ha
  have HE : Hid (applyR ⟨ph, co, ck, bo, ba, lb, l0, l1, l2, l3, gd, pr⟩ ⟨1, 0, b⟩ = ⟨0, false, ck, bo, ba, lb, l0, l1, l2, [], 0, 0⟩) := Lib.hid (rfl)
  go_enter Tryz.func110, Tryz.ntmps110
  go_wp2
  refine bodyPost_ret (v := .agg (stC A0 A1 A2 (some ⟨w.heap.size + 1 + 1 + 1, 0, none⟩) l0.length c0 l1.length c1 l2.length c2 0 0 0 false ck bo ba lb 0 0)) ?_ rfl ⟨_, rfl, ?_, Keeps.of_below ((three _ _ _ _).alloc (by simp; omega) _)⟩
  · simp [results, Tryz.results110, go_sem]
  · rw [HE.out]
    exact ⟨_, _, _, _, rfl, ownsRow_below H0.out ((three _ _ _ _).alloc (by simp; omega) _), ownsRow_below H1.out ((three _ _ _ _).alloc (by simp; omega) _), ownsRow_below H2.out ((three _ _ _ _).alloc (by simp; omega) _), made_at _ _ _ _ _ (by simp) (by have := HB.out; simp; omega)⟩

set_option maxRecDepth 4000 in
set_option maxHeartbeats 4000000 in
theorem apply_lock (v : Value) (s : StD) (a b : Int) (w : World) (B : Nat) (hB : B ≤ w.heap.size) (h : OwnSt w B v s) (hf : s.lks.length ≤ 1048576) (hr : s.lks.Pairwise (· < ·)) :
    Calls Tryz.prog 110 #[v, recC ⟨6, a, b⟩] w (Appl w B v (applyR s ⟨6, a, b⟩)) := by
  obtain ⟨v0, v1, v2, v3, rfl, h0, h1, h2, h3⟩ := h.it
  have H0 := Lib.hid h0
  have H1 := Lib.hid h1
  have H2 := Lib.hid h2
  have H3 := Lib.hid h3
  obtain ⟨A0, c0, rfl, r0, s0⟩ := open_rowR h0
  obtain ⟨A1, c1, rfl, r1, s1⟩ := open_rowR h1
  obtain ⟨A2, c2, rfl, r2, s2⟩ := open_rowR h2
  obtain ⟨A3, c3, rfl, r3, s3⟩ := open_rowR h3
  have S3 := Lib.hid s3
  obtain ⟨ph, co, ck, bo, ba, lb, l0, l1, l2, l3, gd, pr⟩ := s
  clear h h0 h1 h2 h3 r0 r1 r2 r3 s0 s1 s2 s3
  have HB := Lib.hid hB
  clear hB
  dsimp only at *
  unfold recC
  dsimp only
  have HE : Hid (applyR ⟨ph, co, ck, bo, ba, lb, l0, l1, l2, l3, gd, pr⟩ ⟨6, a, b⟩ = ⟨ph, co, ck, bo, ba, lb, l0, l1, l2, withN a l3, gd, pr⟩) := Lib.hid (rfl)
  have HR := Lib.hid hr
  clear hr
  have HF := Lib.hid hf
  clear hf
  go_enter Tryz.func110, Tryz.ntmps110
  go_wp2_with fail
  have X1 := Own.box w (stC A0 A1 A2 A3 l0.length c0 l1.length c1 l2.length c2 l3.length c3 ph co ck bo ba lb gd pr) 46
  have X2 := X1.alloc (.cells #[.int .i64 6, .int .i64 a, .int .i64 b] 96)
  have X3 := X2.alloc (.cells (stC none none none none 0 0 0 0 0 0 0 0 0 false 0 0 0 0 0 0) 46)
  have O3 := Own.box2 X2.K (stC none none none none 0 0 0 0 0 0 0 0 0 false 0 0 0 0 0 0) 46
  refine (l6With_any _ _ _ l3 a _ ((S3.out.below X3.K (Nat.le_refl _)).more X3.K.size) rfl HF.out HR.out).mono ?_
  rintro e w2 ⟨v3, rfl, hown, hb⟩
  obtain ⟨B3, d3, rfl, -⟩ := open_rowR hown
  have X := X3.step hb
  have O := O3.step hb
  have HO := Lib.hid (ownsRow_base (base' := w.heap.size + 3) hown (by simp))
  simp only [heap_size_alloc_] at O
  have hC := X.C
  have hF := X.F
  have hD := O.C
  have hG := O.F
  clear X1 X2 X3 O3 hb hown
  go_wp2
  refine bodyPost_ret (v := .agg (stC A0 A1 A2 B3 l0.length c0 l1.length c1 l2.length c2 (withN a l3).length d3 ph co ck bo ba lb gd pr)) ?_ rfl ⟨_, rfl, ?_, Keeps.of_below ?_⟩
  · simp [results, Tryz.results110, go_sem, hD]
  · rw [HE.out]
    refine ⟨_, _, _, _, rfl, ownsRow_below H0.out ?_, ownsRow_below H1.out ?_, ownsRow_below H2.out ?_, ownsRow_base (base := w.heap.size + 3) ?_ (by have := HB.out; omega)⟩
    iterate 3
      · iterate 13 (refine Below.setCell ?_ (by simp <;> omega) _)
        exact X.K
    · iterate 13 (refine ownsRow_setCell_below ?_ (by simp <;> omega) _)
      exact HO.out
  · iterate 13 (refine Below.setCell ?_ (by simp <;> omega) _)
    exact X.K

set_option maxRecDepth 4000 in
set_option maxHeartbeats 4000000 in
theorem apply_unlock (v : Value) (s : StD) (a b : Int) (w : World) (B : Nat) (hB : B ≤ w.heap.size) (h : OwnSt w B v s) (hf : s.lks.length ≤ 1048576) :
    Calls Tryz.prog 110 #[v, recC ⟨7, a, b⟩] w (Appl w B v (applyR s ⟨7, a, b⟩)) := by
  obtain ⟨v0, v1, v2, v3, rfl, h0, h1, h2, h3⟩ := h.it
  have H0 := Lib.hid h0
  have H1 := Lib.hid h1
  have H2 := Lib.hid h2
  have H3 := Lib.hid h3
  obtain ⟨A0, c0, rfl, r0, s0⟩ := open_rowR h0
  obtain ⟨A1, c1, rfl, r1, s1⟩ := open_rowR h1
  obtain ⟨A2, c2, rfl, r2, s2⟩ := open_rowR h2
  obtain ⟨A3, c3, rfl, r3, s3⟩ := open_rowR h3
  have S3 := Lib.hid s3
  obtain ⟨ph, co, ck, bo, ba, lb, l0, l1, l2, l3, gd, pr⟩ := s
  clear h h0 h1 h2 h3 r0 r1 r2 r3 s0 s1 s2 s3
  have HB := Lib.hid hB
  clear hB
  dsimp only at *
  unfold recC
  dsimp only
  have HE : Hid (applyR ⟨ph, co, ck, bo, ba, lb, l0, l1, l2, l3, gd, pr⟩ ⟨7, a, b⟩ = ⟨ph, co, ck, bo, ba, lb, l0, l1, l2, withoutN l3 a, gd, pr⟩) := Lib.hid (rfl)
  have HF := Lib.hid hf
  clear hf
  go_enter Tryz.func110, Tryz.ntmps110
  go_wp2_with fail
  have X1 := Own.box w (stC A0 A1 A2 A3 l0.length c0 l1.length c1 l2.length c2 l3.length c3 ph co ck bo ba lb gd pr) 46
  have X2 := X1.alloc (.cells #[.int .i64 7, .int .i64 a, .int .i64 b] 96)
  have X3 := X2.alloc (.cells (stC none none none none 0 0 0 0 0 0 0 0 0 false 0 0 0 0 0 0) 46)
  have O3 := Own.box2 X2.K (stC none none none none 0 0 0 0 0 0 0 0 0 false 0 0 0 0 0 0) 46
  refine (l6Without_any _ _ _ l3 a _ ((S3.out.below X3.K (Nat.le_refl _)).more X3.K.size) rfl HF.out).mono ?_
  rintro e w2 ⟨v3, rfl, hown, hb⟩
  obtain ⟨B3, d3, rfl, -⟩ := open_rowR hown
  have X := X3.step hb
  have O := O3.step hb
  have HO := Lib.hid (ownsRow_base (base' := w.heap.size + 3) hown (by simp))
  simp only [heap_size_alloc_] at O
  have hC := X.C
  have hF := X.F
  have hD := O.C
  have hG := O.F
  clear X1 X2 X3 O3 hb hown
  go_wp2
  refine bodyPost_ret (v := .agg (stC A0 A1 A2 B3 l0.length c0 l1.length c1 l2.length c2 (withoutN l3 a).length d3 ph co ck bo ba lb gd pr)) ?_ rfl ⟨_, rfl, ?_, Keeps.of_below ?_⟩
  · simp [results, Tryz.results110, go_sem, hD]
  · rw [HE.out]
    refine ⟨_, _, _, _, rfl, ownsRow_below H0.out ?_, ownsRow_below H1.out ?_, ownsRow_below H2.out ?_, ownsRow_base (base := w.heap.size + 3) ?_ (by have := HB.out; omega)⟩
    iterate 3
      · iterate 13 (refine Below.setCell ?_ (by simp <;> omega) _)
        exact X.K
    · iterate 13 (refine ownsRow_setCell_below ?_ (by simp <;> omega) _)
      exact HO.out
  · iterate 13 (refine Below.setCell ?_ (by simp <;> omega) _)
    exact X.K
end Go.Proofs.YtkefbmbjkijilaaGreatDoor
/- Ut -/
set_option linter.unusedVariables false
namespace Go.Proofs.YtkefbmbjkijilaaGreatDoor
open Go.RowKit

theorem kept_other {w w' : World} {B B' e e' k k' n n' g : Nat} {v v' : Value} {xs xs' : List Value} (h : w.ownsRow B e k v n xs) (h' : w.ownsRow B' e' k' v' n' xs') (hv' : v'.ownBlock = some g) (hne : e ≠ e') (hg : w.grownBy w' (some g)) : w'.ownsRow B e k v n xs := by
  refine h.kept hg ?_
  by_cases hv : v.ownBlock = some g
  · exact absurd (row_type h h' hv hv') hne
  · exact .inr hv
theorem mntCs_busy (l : List (Bool × Int)) {i : Nat} (hi : i < l.length) (b : Int) : mntCs (l.set i ((mntA l i).1, b)) = (mntCs l).set (i * 2 + 1) (.int .i64 b) := by
  rw [mntCs_set l hi]
  have h := (mntCs_at l hi).1
  have hl : i * 2 < (mntCs l).length := by rw [mntCs_len]; omega
  apply List.ext_getElem?
  intro k
  by_cases e : k = i * 2 + 1
  · subst e
    rw [List.getElem?_set_self (by rw [List.length_set, mntCs_len]; omega), List.getElem?_set_self (by rw [mntCs_len]; omega)]
  · rw [List.getElem?_set_ne (i := i * 2 + 1) (by omega), List.getElem?_set_ne (i := i * 2 + 1) (by omega)]
    by_cases e2 : k = i * 2
    · subst e2
      rw [List.getElem?_set_self hl, h]
    · rw [List.getElem?_set_ne (by omega)]

set_option maxRecDepth 4000 in
set_option maxHeartbeats 4000000 in
theorem apply_give (v : Value) (s : StD) (a b : Int) (w : World) (B : Nat) (hB : B ≤ w.heap.size) (h : OwnSt w B v s) (ha0 : 0 ≤ a) (ha1 : a < s.devs.length) :
    Calls Tryz.prog 110 #[v, recC ⟨5, a, b⟩] w (Appl w B v (applyR s ⟨5, a, b⟩)) := by
  obtain ⟨v0, v1, v2, v3, rfl, h0, h1, h2, h3⟩ := h.it
  have H0 := Lib.hid h0
  have H1 := Lib.hid h1
  have H2 := Lib.hid h2
  have H3 := Lib.hid h3
  obtain ⟨A0, c0, rfl, r0, s0⟩ := open_rowR h0
  obtain ⟨A1, c1, rfl, r1, s1⟩ := open_rowR h1
  obtain ⟨A2, c2, g, rfl, hA, hnc, hBg, hgz, R, s2, hx⟩ := open_row h2
  obtain ⟨A3, c3, rfl, r3, s3⟩ := open_rowR h3
  obtain ⟨ph, co, ck, bo, ba, lb, l0, l1, l2, l3, gd, pr⟩ := s
  clear h h0 h1 h2 h3
  have HB := Lib.hid hB
  dsimp only at *
  obtain ⟨i, rfl⟩ := Int.eq_ofNat_of_zero_le ha0
  have hi : i < l2.length := by omega
  obtain rfl := hA (by omega)
  have hz := hgz (by omega)
  have hz1 : g < w.heap.size + 1 := by omega
  have hz2 : g < w.heap.size + 1 + 1 := by omega
  have HR := Lib.hid R
  have HBg := Lib.hid hBg
  unfold maxLen at hx
  have HX := Lib.hid hx
  clear hA hgz R hBg hx hB hnc s0 s1 s2 s3
  unfold recC
  dsimp only
  have HE : Hid (applyR ⟨ph, co, ck, bo, ba, lb, l0, l1, l2, l3, gd, pr⟩ ⟨5, i, b⟩ = ⟨ph, co, ck, bo, ba, lb, l0, l1, l2.set i false, l3, gd, pr⟩) := Lib.hid (rfl)
  have q := (HR.out i (by rw [devCs_len]; omega)).1.trans (devCs_at l2 hi)
  have hf := (HR.out i (by rw [devCs_len]; omega)).2
  go_enter Tryz.func110, Tryz.ntmps110
  go_wp2
  obtain ⟨t0, u0⟩ := H2.out.stored (i) (.bool false)
  refine bodyPost_ret (v := .agg (stC A0 A1 (some ⟨g, 0, none⟩) A3 l0.length c0 l1.length c1 l2.length c2 l3.length c3 ph co ck bo ba lb gd pr)) ?_ rfl ⟨_, rfl, ?_, ?_⟩
  · simp [results, Tryz.results110, go_sem]
  · rw [HE.out]
    refine ⟨_, _, _, _, rfl, ownsRow_below (kept_other H0.out H2.out rfl (by decide) u0) (three _ _ _ _), ownsRow_below (kept_other H1.out H2.out rfl (by decide) u0) (three _ _ _ _), ?_, ownsRow_below (kept_other H3.out H2.out rfl (by decide) u0) (three _ _ _ _)⟩
    rw [List.length_set, devCs_set]
    exact ownsRow_below t0 (three _ _ _ _)
  · have hrow : rowsOf (.agg (stC A0 A1 (some ⟨g, 0, none⟩) A3 l0.length c0 l1.length c1 l2.length c2 l3.length c3 ph co ck bo ba lb gd pr)) g := ⟨_, 8, _, rfl, rfl, rfl⟩
    exact ((Keeps.refl _ _).set (p := ⟨g, i, none⟩) hrow _).trans (Keeps.of_below (three _ _ _ _))

set_option maxRecDepth 4000 in
set_option maxHeartbeats 4000000 in
theorem apply_pod (v : Value) (s : StD) (a b : Int) (w : World) (B : Nat) (hB : B ≤ w.heap.size) (h : OwnSt w B v s) (ha0 : 0 ≤ a) (ha1 : a < s.pods.length) :
    Calls Tryz.prog 110 #[v, recC ⟨2, a, b⟩] w (Appl w B v (applyR s ⟨2, a, b⟩)) := by
  obtain ⟨v0, v1, v2, v3, rfl, h0, h1, h2, h3⟩ := h.it
  have H0 := Lib.hid h0
  have H1 := Lib.hid h1
  have H2 := Lib.hid h2
  have H3 := Lib.hid h3
  obtain ⟨A0, c0, g, rfl, hA, hnc, hBg, hgz, R, s0, hx⟩ := open_row h0
  obtain ⟨A1, c1, rfl, r1, s1⟩ := open_rowR h1
  obtain ⟨A2, c2, rfl, r2, s2⟩ := open_rowR h2
  obtain ⟨A3, c3, rfl, r3, s3⟩ := open_rowR h3
  obtain ⟨ph, co, ck, bo, ba, lb, l0, l1, l2, l3, gd, pr⟩ := s
  clear h h0 h1 h2 h3
  have HB := Lib.hid hB
  dsimp only at *
  obtain ⟨i, rfl⟩ := Int.eq_ofNat_of_zero_le ha0
  have hi : i < l0.length := by omega
  obtain rfl := hA (by omega)
  have hz := hgz (by omega)
  have hz1 : g < w.heap.size + 1 := by omega
  have hz2 : g < w.heap.size + 1 + 1 := by omega
  have HR := Lib.hid R
  have HBg := Lib.hid hBg
  unfold maxLen at hx
  have HX := Lib.hid hx
  clear hA hgz R hBg hx hB hnc s0 s1 s2 s3
  unfold recC
  dsimp only
  have HE : Hid (applyR ⟨ph, co, ck, bo, ba, lb, l0, l1, l2, l3, gd, pr⟩ ⟨2, i, b⟩ = ⟨ph, co, ck, bo, ba, lb, l0.set i (b, ck), l1, l2, l3, gd, pr⟩) := Lib.hid (rfl)
  have q0 := (HR.out (i * 2) (by rw [podCs_len]; omega)).1.trans (podCs_at l0 hi).1
  have hf0 := (HR.out (i * 2) (by rw [podCs_len]; omega)).2
  have q1 := (HR.out (i * 2 + 1) (by rw [podCs_len]; omega)).1.trans (podCs_at l0 hi).2
  have hf1 := (HR.out (i * 2 + 1) (by rw [podCs_len]; omega)).2
  go_enter Tryz.func110, Tryz.ntmps110
  go_wp2
  obtain ⟨t0, u0⟩ := H0.out.stored (i * 2) (.int .i64 b)
  obtain ⟨t1, u1⟩ := t0.stored (i * 2 + 1) (.int .i64 ck)
  refine bodyPost_ret (v := .agg (stC (some ⟨g, 0, none⟩) A1 A2 A3 l0.length c0 l1.length c1 l2.length c2 l3.length c3 ph co ck bo ba lb gd pr)) ?_ rfl ⟨_, rfl, ?_, ?_⟩
  · simp [results, Tryz.results110, go_sem]
  · rw [HE.out]
    refine ⟨_, _, _, _, rfl, ?_, ownsRow_below (kept_other (kept_other H1.out H0.out rfl (by decide) u0) t0 rfl (by decide) u1) (three _ _ _ _), ownsRow_below (kept_other (kept_other H2.out H0.out rfl (by decide) u0) t0 rfl (by decide) u1) (three _ _ _ _), ownsRow_below (kept_other (kept_other H3.out H0.out rfl (by decide) u0) t0 rfl (by decide) u1) (three _ _ _ _)⟩
    rw [List.length_set, podCs_set l0 hi]
    exact ownsRow_below t1 (three _ _ _ _)
  · have hrow : rowsOf (.agg (stC (some ⟨g, 0, none⟩) A1 A2 A3 l0.length c0 l1.length c1 l2.length c2 l3.length c3 ph co ck bo ba lb gd pr)) g := ⟨_, 6, _, rfl, rfl, rfl⟩
    exact (((Keeps.refl _ _).set (p := ⟨g, i * 2, none⟩) hrow _).set (p := ⟨g, i * 2 + 1, none⟩) hrow _).trans (Keeps.of_below (three _ _ _ _))

set_option maxRecDepth 4000 in
set_option maxHeartbeats 4000000 in
theorem apply_busy (v : Value) (s : StD) (a b : Int) (w : World) (B : Nat) (hB : B ≤ w.heap.size) (h : OwnSt w B v s) (ha0 : 0 ≤ a) (ha1 : a < s.mnts.length) :
    Calls Tryz.prog 110 #[v, recC ⟨3, a, b⟩] w (Appl w B v (applyR s ⟨3, a, b⟩)) := by
  obtain ⟨v0, v1, v2, v3, rfl, h0, h1, h2, h3⟩ := h.it
  have H0 := Lib.hid h0
  have H1 := Lib.hid h1
  have H2 := Lib.hid h2
  have H3 := Lib.hid h3
  obtain ⟨A0, c0, rfl, r0, s0⟩ := open_rowR h0
  obtain ⟨A1, c1, g, rfl, hA, hnc, hBg, hgz, R, s1, hx⟩ := open_row h1
  obtain ⟨A2, c2, rfl, r2, s2⟩ := open_rowR h2
  obtain ⟨A3, c3, rfl, r3, s3⟩ := open_rowR h3
  obtain ⟨ph, co, ck, bo, ba, lb, l0, l1, l2, l3, gd, pr⟩ := s
  clear h h0 h1 h2 h3
  have HB := Lib.hid hB
  dsimp only at *
  obtain ⟨i, rfl⟩ := Int.eq_ofNat_of_zero_le ha0
  have hi : i < l1.length := by omega
  obtain rfl := hA (by omega)
  have hz := hgz (by omega)
  have hz1 : g < w.heap.size + 1 := by omega
  have hz2 : g < w.heap.size + 1 + 1 := by omega
  have HR := Lib.hid R
  have HBg := Lib.hid hBg
  unfold maxLen at hx
  have HX := Lib.hid hx
  clear hA hgz R hBg hx hB hnc s0 s1 s2 s3
  unfold recC
  dsimp only
  have HE : Hid (applyR ⟨ph, co, ck, bo, ba, lb, l0, l1, l2, l3, gd, pr⟩ ⟨3, i, b⟩ = ⟨ph, co, ck, bo, ba, lb, l0, l1.set i ((mntA l1 i).1, b), l2, l3, gd, pr⟩) := Lib.hid (rfl)
  have q0 := (HR.out (i * 2) (by rw [mntCs_len]; omega)).1.trans (mntCs_at l1 hi).1
  have hf0 := (HR.out (i * 2) (by rw [mntCs_len]; omega)).2
  have q1 := (HR.out (i * 2 + 1) (by rw [mntCs_len]; omega)).1.trans (mntCs_at l1 hi).2
  have hf1 := (HR.out (i * 2 + 1) (by rw [mntCs_len]; omega)).2
  go_enter Tryz.func110, Tryz.ntmps110
  go_wp2
  obtain ⟨t0, u0⟩ := H1.out.stored (i * 2 + 1) (.int .i64 b)
  refine bodyPost_ret (v := .agg (stC A0 (some ⟨g, 0, none⟩) A2 A3 l0.length c0 l1.length c1 l2.length c2 l3.length c3 ph co ck bo ba lb gd pr)) ?_ rfl ⟨_, rfl, ?_, ?_⟩
  · simp [results, Tryz.results110, go_sem]
  · rw [HE.out]
    refine ⟨_, _, _, _, rfl, ownsRow_below (kept_other H0.out H1.out rfl (by decide) u0) (three _ _ _ _), ?_, ownsRow_below (kept_other H2.out H1.out rfl (by decide) u0) (three _ _ _ _), ownsRow_below (kept_other H3.out H1.out rfl (by decide) u0) (three _ _ _ _)⟩
    rw [List.length_set, mntCs_busy l1 hi]
    exact ownsRow_below t0 (three _ _ _ _)
  · have hrow : rowsOf (.agg (stC A0 (some ⟨g, 0, none⟩) A2 A3 l0.length c0 l1.length c1 l2.length c2 l3.length c3 ph co ck bo ba lb gd pr)) g := ⟨_, 7, _, rfl, rfl, rfl⟩
    exact ((Keeps.refl _ _).set (p := ⟨g, i * 2 + 1, none⟩) hrow _).trans (Keeps.of_below (three _ _ _ _))

set_option maxRecDepth 4000 in
set_option maxHeartbeats 4000000 in
theorem apply_free (v : Value) (s : StD) (a b : Int) (w : World) (B : Nat) (hB : B ≤ w.heap.size) (h : OwnSt w B v s) (ha0 : 0 ≤ a) (ha1 : a < s.mnts.length) :
    Calls Tryz.prog 110 #[v, recC ⟨4, a, b⟩] w (Appl w B v (applyR s ⟨4, a, b⟩)) := by
  obtain ⟨v0, v1, v2, v3, rfl, h0, h1, h2, h3⟩ := h.it
  have H0 := Lib.hid h0
  have H1 := Lib.hid h1
  have H2 := Lib.hid h2
  have H3 := Lib.hid h3
  obtain ⟨A0, c0, rfl, r0, s0⟩ := open_rowR h0
  obtain ⟨A1, c1, g, rfl, hA, hnc, hBg, hgz, R, s1, hx⟩ := open_row h1
  obtain ⟨A2, c2, rfl, r2, s2⟩ := open_rowR h2
  obtain ⟨A3, c3, rfl, r3, s3⟩ := open_rowR h3
  obtain ⟨ph, co, ck, bo, ba, lb, l0, l1, l2, l3, gd, pr⟩ := s
  clear h h0 h1 h2 h3
  have HB := Lib.hid hB
  dsimp only at *
  obtain ⟨i, rfl⟩ := Int.eq_ofNat_of_zero_le ha0
  have hi : i < l1.length := by omega
  obtain rfl := hA (by omega)
  have hz := hgz (by omega)
  have hz1 : g < w.heap.size + 1 := by omega
  have hz2 : g < w.heap.size + 1 + 1 := by omega
  have HR := Lib.hid R
  have HBg := Lib.hid hBg
  unfold maxLen at hx
  have HX := Lib.hid hx
  clear hA hgz R hBg hx hB hnc s0 s1 s2 s3
  unfold recC
  dsimp only
  have HE : Hid (applyR ⟨ph, co, ck, bo, ba, lb, l0, l1, l2, l3, gd, pr⟩ ⟨4, i, b⟩ = ⟨ph, co, ck, bo, ba, lb, l0, l1.set i (false, 0), l2, l3, gd, pr⟩) := Lib.hid (rfl)
  have q0 := (HR.out (i * 2) (by rw [mntCs_len]; omega)).1.trans (mntCs_at l1 hi).1
  have hf0 := (HR.out (i * 2) (by rw [mntCs_len]; omega)).2
  have q1 := (HR.out (i * 2 + 1) (by rw [mntCs_len]; omega)).1.trans (mntCs_at l1 hi).2
  have hf1 := (HR.out (i * 2 + 1) (by rw [mntCs_len]; omega)).2
  go_enter Tryz.func110, Tryz.ntmps110
  go_wp2
  obtain ⟨t0, u0⟩ := H1.out.stored (i * 2) (.bool false)
  obtain ⟨t1, u1⟩ := t0.stored (i * 2 + 1) (.int .i64 0)
  refine bodyPost_ret (v := .agg (stC A0 (some ⟨g, 0, none⟩) A2 A3 l0.length c0 l1.length c1 l2.length c2 l3.length c3 ph co ck bo ba lb gd pr)) ?_ rfl ⟨_, rfl, ?_, ?_⟩
  · simp [results, Tryz.results110, go_sem]
  · rw [HE.out]
    refine ⟨_, _, _, _, rfl, ownsRow_below (kept_other (kept_other H0.out H1.out rfl (by decide) u0) t0 rfl (by decide) u1) (three _ _ _ _), ?_, ownsRow_below (kept_other (kept_other H2.out H1.out rfl (by decide) u0) t0 rfl (by decide) u1) (three _ _ _ _), ownsRow_below (kept_other (kept_other H3.out H1.out rfl (by decide) u0) t0 rfl (by decide) u1) (three _ _ _ _)⟩
    rw [List.length_set, mntCs_set l1 hi]
    exact ownsRow_below t1 (three _ _ _ _)
  · have hrow : rowsOf (.agg (stC A0 (some ⟨g, 0, none⟩) A2 A3 l0.length c0 l1.length c1 l2.length c2 l3.length c3 ph co ck bo ba lb gd pr)) g := ⟨_, 7, _, rfl, rfl, rfl⟩
    exact (((Keeps.refl _ _).set (p := ⟨g, i * 2, none⟩) hrow _).set (p := ⟨g, i * 2 + 1, none⟩) hrow _).trans (Keeps.of_below (three _ _ _ _))
end Go.Proofs.YtkefbmbjkijilaaGreatDoor
/- Uu -/
set_option linter.unusedVariables false
namespace Go.Proofs.YtkefbmbjkijilaaGreatDoor
open Go.RowKit

theorem l6Apply_any (v : Value) (s : StD) (r : RecD) (w : World) (B : Nat) (hB : B ≤ w.heap.size) (h : OwnSt w B v s) (hk : recOkB r = true) (ht : thereB s r = true) (hf : s.lks.length ≤ 1048576) (hr : s.lks.Pairwise (· < ·)) :
    Calls Tryz.prog 110 #[v, recC r] w (Appl w B v (applyR s r)) := by
  obtain ⟨k, a, b⟩ := r
  simp only [recOkB, Bool.and_eq_true, inB_true] at hk
  obtain ⟨⟨⟨k1, k2⟩, ha0, -⟩, -⟩ := hk
  have : k = 1 ∨ k = 2 ∨ k = 3 ∨ k = 4 ∨ k = 5 ∨ k = 6 ∨ k = 7 ∨ k = 8 ∨ k = 9 ∨ k = 10 ∨ k = 11 ∨ k = 12 := by omega
  rcases this with rfl | rfl | rfl | rfl | rfl | rfl | rfl | rfl | rfl | rfl | rfl | rfl
  · by_cases ha : a = 0
    · exact apply_idle v s a b w B hB h ha
    · exact apply_phase v s a b w B hB h ha
  · exact apply_pod v s a b w B hB h ha0 (of_decide_eq_true ht)
  · exact apply_busy v s a b w B hB h ha0 (of_decide_eq_true ht)
  · exact apply_free v s a b w B hB h ha0 (of_decide_eq_true ht)
  · exact apply_give v s a b w B hB h ha0 (of_decide_eq_true ht)
  · exact apply_lock v s a b w B hB h hf hr
  · exact apply_unlock v s a b w B hB h hf
  · exact apply_clock v s a b w B hB h
  · exact apply_band v s a b w B hB h
  · exact apply_boot v s a b w B hB h
  · exact apply_lockBy v s a b w B hB h
  · exact apply_probe v s a b w B hB h
end Go.Proofs.YtkefbmbjkijilaaGreatDoor
