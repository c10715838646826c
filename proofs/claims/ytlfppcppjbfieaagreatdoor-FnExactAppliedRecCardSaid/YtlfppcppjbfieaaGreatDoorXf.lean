/-
  What the program's changes do to a state in a box: phases, pods, mounts, devices.
-/
import Derived.Test.YtlfppcppjbfieaaGreatDoorXe
set_option linter.unusedVariables false
namespace Go.Proofs.YtlfppcppjbfieaaGreatDoor
open Go.RowKit

set_option maxRecDepth 4000 in
set_option maxHeartbeats 2000000 in
theorem chg_phase (v : Value) (s : StD) (a b : Int) (w : World) (B g : Nat) (h : BxS w B g v s) (ha : a ≠ 0) :
    Calls Tryz.prog 87 #[.pointer (some ⟨g, 0, none⟩), .int .i64 a, .int .i64 b] w (Chg w B g v (applyR s ⟨1, a, b⟩)) := by
  obtain ⟨O, cs, hv, X⟩ := h
  obtain ⟨v0, v1, v2, v3, rfl, h0, h1, h2, h3⟩ := O.it
  injection hv with hv
  subst hv
  have H0 := Lib.hid h0
  have H1 := Lib.hid h1
  have H2 := Lib.hid h2
  have H3 := Lib.hid h3
  have HX := Lib.hid X
  have hC := X.C
  have hF := X.frozen
  obtain ⟨ph, co, ck, bo, ba, lb, l0, l1, l2, l3, gd, pr⟩ := s
  have he : applyR ⟨ph, co, ck, bo, ba, lb, l0, l1, l2, l3, gd, pr⟩ ⟨1, a, b⟩ = ⟨a, true, ck, bo, ba, lb, l0, l1, l2, l3, gd, pr⟩ := by simp [applyR, ha]
  have HE := Lib.hid he
  dsimp only at *
  clear X O h0 h1 h2 h3 he
  have hn : (a == 0) = false := by simp [ha]
  have hm : (a != 0) = true := by simp [ha]
  go_enter Tryz.func87, Tryz.ntmps87
  go_wp2
  refine bodyPost_ret (v := .tuple #[]) (by simp [results, Tryz.results87, go_sem]) rfl ?_
  rw [HE.out]
  have X0 := HX.out
  have k0 := Keeps.refl (· = g) w
  have X1 := (World.ownsRow.stored X0 0 (.int .i64 a)).1
  have k1 := k0.set (p := ⟨g, 0, none⟩) rfl (.int .i64 a)
  have X2 := (World.ownsRow.stored X1 1 (.bool true)).1
  have k2 := k1.set (p := ⟨g, 1, none⟩) rfl (.bool true)
  refine ⟨rfl, ⟨_, ⟨v0, v1, v2, v3, rfl, keep_other H0.out HX.out rfl (by decide) k2, keep_other H1.out HX.out rfl (by decide) k2, keep_other H2.out HX.out rfl (by decide) k2, keep_other H3.out HX.out rfl (by decide) k2⟩, _, rfl, X2⟩, k2.mono fun b hb => Or.inl hb⟩

set_option maxRecDepth 4000 in
set_option maxHeartbeats 2000000 in
theorem chg_idle (v : Value) (s : StD) (b : Int) (w : World) (B g : Nat) (hB : B ≤ w.heap.size) (h : BxS w B g v s) :
    Calls Tryz.prog 87 #[.pointer (some ⟨g, 0, none⟩), .int .i64 0, .int .i64 b] w (Chg w B g v (applyR s ⟨1, 0, b⟩)) := by
  obtain ⟨O, cs, hv, X⟩ := h
  obtain ⟨v0, v1, v2, v3, rfl, h0, h1, h2, h3⟩ := O.it
  injection hv with hv
  subst hv
  have H0 := Lib.hid h0
  have H1 := Lib.hid h1
  have H2 := Lib.hid h2
  have H3 := Lib.hid h3
  have HX := Lib.hid X
  have hC := X.C
  have hF := X.frozen
  obtain ⟨ph, co, ck, bo, ba, lb, l0, l1, l2, l3, gd, pr⟩ := s
  dsimp only at *
  have hg := (X.lt).2
  clear X O h0 h1 h2 h3
  have HB := Lib.hid hB
  clear hB
  go_enter Tryz.func87, Tryz.ntmps87
  go_wp2
  refine bodyPost_ret (v := .tuple #[]) (by simp [results, Tryz.results87, go_sem]) rfl ?_
  have X0 := HX.out
  have k0 := Keeps.refl (· = g) w
  have X1 := (World.ownsRow.stored X0 0 (.int .i64 0)).1
  have k1 := k0.set (p := ⟨g, 0, none⟩) rfl (.int .i64 0)
  have X2 := (World.ownsRow.stored X1 1 (.bool false)).1
  have k2 := k1.set (p := ⟨g, 1, none⟩) rfl (.bool false)
  have X3 := (World.ownsRow.stored X2 10 (.int .i64 0)).1
  have k3 := k2.set (p := ⟨g, 10, none⟩) rfl (.int .i64 0)
  have X4 := (World.ownsRow.stored X3 11 (.int .i64 0)).1
  have k4 := k3.set (p := ⟨g, 11, none⟩) rfl (.int .i64 0)
  have X5 := (World.ownsRow.stored X4 9 (.slice (some ⟨w.heap.size, 0, none⟩) 0 0)).1
  have k5 := k4.set (p := ⟨g, 9, none⟩) rfl (.slice (some ⟨w.heap.size, 0, none⟩) 0 0)
  have k6 := k5.trans (Keeps.of_below ((Below.refl _ _).alloc (Nat.le_refl _) (.cells #[] 2)))
  have X6 := ownsRow_below X5 ((Below.refl _ _).alloc (Nat.le_refl _) (.cells #[] 2))
  exact ⟨rfl, ⟨_, ⟨v0, v1, v2, .slice (some ⟨w.heap.size, 0, none⟩) 0 0, rfl, keep_other H0.out HX.out rfl (by decide) k6, keep_other H1.out HX.out rfl (by decide) k6, keep_other H2.out HX.out rfl (by decide) k6, made_at _ _ _ _ _ (by simp) (by have := HB.out; simpa using this)⟩, _, rfl, X6⟩, k6.mono fun b hb => Or.inl hb⟩

set_option maxRecDepth 4000 in
set_option maxHeartbeats 2000000 in
theorem chg_pod (v : Value) (s : StD) (a b : Int) (w : World) (B g : Nat) (h : BxS w B g v s) (ha0 : 0 ≤ a) (ha1 : a < s.pods.length) :
    Calls Tryz.prog 88 #[.pointer (some ⟨g, 0, none⟩), .int .i64 a, .int .i64 b] w (Chg w B g v (applyR s ⟨2, a, b⟩)) := by
  obtain ⟨O, cs, hv, X⟩ := h
  obtain ⟨v0, v1, v2, v3, rfl, h0, h1, h2, h3⟩ := O.it
  injection hv with hv
  subst hv
  have H0 := Lib.hid h0
  have H1 := Lib.hid h1
  have H2 := Lib.hid h2
  have H3 := Lib.hid h3
  have HX := Lib.hid X
  obtain ⟨A, c, m, rfl, hA, hnc, hBg, hgz, R, sl, hx⟩ := open_row h0
  have hC := X.C
  have hF := X.frozen
  obtain ⟨ph, co, ck, bo, ba, lb, l0, l1, l2, l3, gd, pr⟩ := s
  dsimp only at *
  obtain ⟨i, rfl⟩ := Int.eq_ofNat_of_zero_le ha0
  have hi : i < l0.length := by omega
  obtain rfl := hA (by omega)
  have hmg : m ≠ g := fun e => box_apart h0 X (by decide) (by rw [← e]; rfl)
  have HR := Lib.hid R
  unfold maxLen at hx
  have HXX := Lib.hid hx
  clear hA hgz R hBg hx hnc sl X O h0 h1 h2 h3
  have q0 := (HR.out (i * 2) (by rw [podCs_len]; omega)).1.trans (podCs_at l0 hi).1
  have hf0 := (HR.out (i * 2) (by rw [podCs_len]; omega)).2
  have q1 := (HR.out (i * 2 + 1) (by rw [podCs_len]; omega)).1.trans (podCs_at l0 hi).2
  have hf1 := (HR.out (i * 2 + 1) (by rw [podCs_len]; omega)).2
  have HE : Hid (applyR ⟨ph, co, ck, bo, ba, lb, l0, l1, l2, l3, gd, pr⟩ ⟨2, i, b⟩ = ⟨ph, co, ck, bo, ba, lb, l0.set i (b, ck), l1, l2, l3, gd, pr⟩) := Lib.hid rfl
  go_enter Tryz.func88, Tryz.ntmps88
  go_region
  all_goals try go_wp2
  all_goals
    refine bodyPost_ret (v := .tuple #[]) (by simp [results, Tryz.results88, go_sem]) rfl ?_
    rw [HE.out]
    have X0 := HX.out
    have k0 := Keeps.refl (· = m) w
    have s0 := H0.out
    have s1 := (World.ownsRow.stored s0 (i * 2) (.int .i64 b)).1
    have k1 := k0.set (p := ⟨m, i * 2, none⟩) rfl (.int .i64 b)
    have s2 := (World.ownsRow.stored s1 (i * 2 + 1) (.int .i64 ck)).1
    have k2 := k1.set (p := ⟨m, i * 2 + 1, none⟩) rfl (.int .i64 ck)
    have s3 := ownsRow_below s2 (Below.refl _ _).drew
    have k3 := k2.drew
    have hX := X0.keeps k3 (fun e => hmg e.symm)
    refine ⟨rfl, ⟨_, ⟨.slice (some ⟨m, 0, none⟩) l0.length c, v1, v2, v3, rfl, ?_, keep_other H1.out H0.out rfl (by decide) k3, keep_other H2.out H0.out rfl (by decide) k3, keep_other H3.out H0.out rfl (by decide) k3⟩, _, rfl, hX⟩, k3.mono fun b hb => Or.inr ⟨_, 6, _, rfl, rfl, by rw [hb]; rfl⟩⟩
    rw [List.length_set, podCs_set l0 hi]
    exact s3

set_option maxRecDepth 4000 in
set_option maxHeartbeats 2000000 in
theorem chg_busy (v : Value) (s : StD) (a b : Int) (w : World) (B g : Nat) (h : BxS w B g v s) (ha0 : 0 ≤ a) (ha1 : a < s.mnts.length) :
    Calls Tryz.prog 89 #[.pointer (some ⟨g, 0, none⟩), .int .i64 a, .int .i64 b] w (Chg w B g v (applyR s ⟨3, a, b⟩)) := by
  obtain ⟨O, cs, hv, X⟩ := h
  obtain ⟨v0, v1, v2, v3, rfl, h0, h1, h2, h3⟩ := O.it
  injection hv with hv
  subst hv
  have H0 := Lib.hid h0
  have H1 := Lib.hid h1
  have H2 := Lib.hid h2
  have H3 := Lib.hid h3
  have HX := Lib.hid X
  obtain ⟨A, c, m, rfl, hA, hnc, hBg, hgz, R, sl, hx⟩ := open_row h1
  have hC := X.C
  have hF := X.frozen
  obtain ⟨ph, co, ck, bo, ba, lb, l0, l1, l2, l3, gd, pr⟩ := s
  dsimp only at *
  obtain ⟨i, rfl⟩ := Int.eq_ofNat_of_zero_le ha0
  have hi : i < l1.length := by omega
  obtain rfl := hA (by omega)
  have hmg : m ≠ g := fun e => box_apart h1 X (by decide) (by rw [← e]; rfl)
  have HR := Lib.hid R
  unfold maxLen at hx
  have HXX := Lib.hid hx
  clear hA hgz R hBg hx hnc sl X O h0 h1 h2 h3
  have q0 := (HR.out (i * 2) (by rw [mntCs_len]; omega)).1.trans (mntCs_at l1 hi).1
  have hf0 := (HR.out (i * 2) (by rw [mntCs_len]; omega)).2
  have q1 := (HR.out (i * 2 + 1) (by rw [mntCs_len]; omega)).1.trans (mntCs_at l1 hi).2
  have hf1 := (HR.out (i * 2 + 1) (by rw [mntCs_len]; omega)).2
  have HE : Hid (applyR ⟨ph, co, ck, bo, ba, lb, l0, l1, l2, l3, gd, pr⟩ ⟨3, i, b⟩ = ⟨ph, co, ck, bo, ba, lb, l0, l1.set i ((mntA l1 i).1, b), l2, l3, gd, pr⟩) := Lib.hid rfl
  go_enter Tryz.func89, Tryz.ntmps89
  go_wp2
  all_goals
    refine bodyPost_ret (v := .tuple #[]) (by simp [results, Tryz.results89, go_sem]) rfl ?_
    rw [HE.out]
    have X0 := HX.out
    have k0 := Keeps.refl (· = m) w
    have s0 := H1.out
    have s1 := (World.ownsRow.stored s0 (i * 2 + 1) (.int .i64 b)).1
    have k1 := k0.set (p := ⟨m, i * 2 + 1, none⟩) rfl (.int .i64 b)
    have hX := X0.keeps k1 (fun e => hmg e.symm)
    refine ⟨rfl, ⟨_, ⟨v0, .slice (some ⟨m, 0, none⟩) l1.length c, v2, v3, rfl, keep_other H0.out H1.out rfl (by decide) k1, ?_, keep_other H2.out H1.out rfl (by decide) k1, keep_other H3.out H1.out rfl (by decide) k1⟩, _, rfl, hX⟩, k1.mono fun b hb => Or.inr ⟨_, 7, _, rfl, rfl, by rw [hb]; rfl⟩⟩
    rw [List.length_set, mntCs_busy l1 hi]
    exact s1

set_option maxRecDepth 4000 in
set_option maxHeartbeats 2000000 in
theorem chg_free (v : Value) (s : StD) (a b : Int) (w : World) (B g : Nat) (h : BxS w B g v s) (ha0 : 0 ≤ a) (ha1 : a < s.mnts.length) :
    Calls Tryz.prog 90 #[.pointer (some ⟨g, 0, none⟩), .int .i64 a, .int .i64 b] w (Chg w B g v (applyR s ⟨4, a, b⟩)) := by
  obtain ⟨O, cs, hv, X⟩ := h
  obtain ⟨v0, v1, v2, v3, rfl, h0, h1, h2, h3⟩ := O.it
  injection hv with hv
  subst hv
  have H0 := Lib.hid h0
  have H1 := Lib.hid h1
  have H2 := Lib.hid h2
  have H3 := Lib.hid h3
  have HX := Lib.hid X
  obtain ⟨A, c, m, rfl, hA, hnc, hBg, hgz, R, sl, hx⟩ := open_row h1
  have hC := X.C
  have hF := X.frozen
  obtain ⟨ph, co, ck, bo, ba, lb, l0, l1, l2, l3, gd, pr⟩ := s
  dsimp only at *
  obtain ⟨i, rfl⟩ := Int.eq_ofNat_of_zero_le ha0
  have hi : i < l1.length := by omega
  obtain rfl := hA (by omega)
  have hmg : m ≠ g := fun e => box_apart h1 X (by decide) (by rw [← e]; rfl)
  have HR := Lib.hid R
  unfold maxLen at hx
  have HXX := Lib.hid hx
  clear hA hgz R hBg hx hnc sl X O h0 h1 h2 h3
  have q0 := (HR.out (i * 2) (by rw [mntCs_len]; omega)).1.trans (mntCs_at l1 hi).1
  have hf0 := (HR.out (i * 2) (by rw [mntCs_len]; omega)).2
  have q1 := (HR.out (i * 2 + 1) (by rw [mntCs_len]; omega)).1.trans (mntCs_at l1 hi).2
  have hf1 := (HR.out (i * 2 + 1) (by rw [mntCs_len]; omega)).2
  have HE : Hid (applyR ⟨ph, co, ck, bo, ba, lb, l0, l1, l2, l3, gd, pr⟩ ⟨4, i, b⟩ = ⟨ph, co, ck, bo, ba, lb, l0, l1.set i (false, 0), l2, l3, gd, pr⟩) := Lib.hid rfl
  go_enter Tryz.func90, Tryz.ntmps90
  go_wp2
  all_goals
    refine bodyPost_ret (v := .tuple #[]) (by simp [results, Tryz.results90, go_sem]) rfl ?_
    rw [HE.out]
    have X0 := HX.out
    have k0 := Keeps.refl (· = m) w
    have s0 := H1.out
    have s1 := (World.ownsRow.stored s0 (i * 2) (.bool false)).1
    have k1 := k0.set (p := ⟨m, i * 2, none⟩) rfl (.bool false)
    have s2 := (World.ownsRow.stored s1 (i * 2 + 1) (.int .i64 0)).1
    have k2 := k1.set (p := ⟨m, i * 2 + 1, none⟩) rfl (.int .i64 0)
    have hX := X0.keeps k2 (fun e => hmg e.symm)
    refine ⟨rfl, ⟨_, ⟨v0, .slice (some ⟨m, 0, none⟩) l1.length c, v2, v3, rfl, keep_other H0.out H1.out rfl (by decide) k2, ?_, keep_other H2.out H1.out rfl (by decide) k2, keep_other H3.out H1.out rfl (by decide) k2⟩, _, rfl, hX⟩, k2.mono fun b hb => Or.inr ⟨_, 7, _, rfl, rfl, by rw [hb]; rfl⟩⟩
    rw [List.length_set, mntCs_set l1 hi]
    exact s2

set_option maxRecDepth 4000 in
set_option maxHeartbeats 2000000 in
theorem chg_give (v : Value) (s : StD) (a b : Int) (w : World) (B g : Nat) (h : BxS w B g v s) (ha0 : 0 ≤ a) (ha1 : a < s.devs.length) :
    Calls Tryz.prog 91 #[.pointer (some ⟨g, 0, none⟩), .int .i64 a, .int .i64 b] w (Chg w B g v (applyR s ⟨5, a, b⟩)) := by
  obtain ⟨O, cs, hv, X⟩ := h
  obtain ⟨v0, v1, v2, v3, rfl, h0, h1, h2, h3⟩ := O.it
  injection hv with hv
  subst hv
  have H0 := Lib.hid h0
  have H1 := Lib.hid h1
  have H2 := Lib.hid h2
  have H3 := Lib.hid h3
  have HX := Lib.hid X
  obtain ⟨A, c, m, rfl, hA, hnc, hBg, hgz, R, sl, hx⟩ := open_row h2
  have hC := X.C
  have hF := X.frozen
  obtain ⟨ph, co, ck, bo, ba, lb, l0, l1, l2, l3, gd, pr⟩ := s
  dsimp only at *
  obtain ⟨i, rfl⟩ := Int.eq_ofNat_of_zero_le ha0
  have hi : i < l2.length := by omega
  obtain rfl := hA (by omega)
  have hmg : m ≠ g := fun e => box_apart h2 X (by decide) (by rw [← e]; rfl)
  have HR := Lib.hid R
  unfold maxLen at hx
  have HXX := Lib.hid hx
  clear hA hgz R hBg hx hnc sl X O h0 h1 h2 h3
  have q0 := (HR.out i (by rw [devCs_len]; omega)).1.trans (devCs_at l2 hi)
  have hf0 := (HR.out i (by rw [devCs_len]; omega)).2
  have HE : Hid (applyR ⟨ph, co, ck, bo, ba, lb, l0, l1, l2, l3, gd, pr⟩ ⟨5, i, b⟩ = ⟨ph, co, ck, bo, ba, lb, l0, l1, l2.set i false, l3, gd, pr⟩) := Lib.hid rfl
  go_enter Tryz.func91, Tryz.ntmps91
  go_wp2
  all_goals
    refine bodyPost_ret (v := .tuple #[]) (by simp [results, Tryz.results91, go_sem]) rfl ?_
    rw [HE.out]
    have X0 := HX.out
    have k0 := Keeps.refl (· = m) w
    have s0 := H2.out
    have s1 := (World.ownsRow.stored s0 (i) (.bool false)).1
    have k1 := k0.set (p := ⟨m, i, none⟩) rfl (.bool false)
    have hX := X0.keeps k1 (fun e => hmg e.symm)
    refine ⟨rfl, ⟨_, ⟨v0, v1, .slice (some ⟨m, 0, none⟩) l2.length c, v3, rfl, keep_other H0.out H2.out rfl (by decide) k1, keep_other H1.out H2.out rfl (by decide) k1, ?_, keep_other H3.out H2.out rfl (by decide) k1⟩, _, rfl, hX⟩, k1.mono fun b hb => Or.inr ⟨_, 8, _, rfl, rfl, by rw [hb]; rfl⟩⟩
    rw [List.length_set, devCs_set]
    exact s1
end Go.Proofs.YtlfppcppjbfieaaGreatDoor
