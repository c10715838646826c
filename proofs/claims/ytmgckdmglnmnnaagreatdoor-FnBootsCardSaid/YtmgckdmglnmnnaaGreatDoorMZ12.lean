/-
  The program's table of changes.
-/
import Derived.Test.YtmgckdmglnmnnaaGreatDoorMZ11
import Derived.Test.YtmgckdmglnmnnaaGreatDoorMZ8
import Derived.Laws.EntriesVeiled
/- Xf -/
set_option linter.unusedVariables false
namespace Go.Proofs.YtmgckdmglnmnnaaGreatDoor
open Go.RowKit

set_option maxRecDepth 4000 in
set_option maxHeartbeats 2000000 in
theorem chg_phase (v : Value) (s : StD) (a b : Int) (w : World) (B g : Nat) (h : BxS w B g v s) (ha : a ≠ 0) :
    Calls Tryz.prog 43 #[.pointer (some ⟨g, 0, none⟩), .int .i64 a, .int .i64 b] w (Chg w B g v (applyR s ⟨1, a, b⟩)) := by
  obtain ⟨O, cs, hv, X⟩ := h
  obtain ⟨v0, v1, v2, v3, rfl, h0, h1, h2, h3⟩ := O.it
  injection hv with hv
  subst hv
  have H0 := Lib.hid h0
  have H1 := Lib.hid h1
  have H2 := Lib.hid h2
  have H3 := Lib.hid h3
  have HX := Lib.hid X
  have hC := X.C
  have hF := X.frozen
  obtain ⟨ph, co, ck, bo, ba, lb, l0, l1, l2, l3, gd, pr⟩ := s
  have he : applyR ⟨ph, co, ck, bo, ba, lb, l0, l1, l2, l3, gd, pr⟩ ⟨1, a, b⟩ = ⟨a, true, ck, bo, ba, lb, l0, l1, l2, l3, gd, pr⟩ := by simp [applyR, ha]
  have HE := Lib.hid he
  dsimp only at *
  clear X O h0 h1 h2 h3 he
  have hn : (a == 0) = false := by simp [ha]
  have hm : (a != 0) = true := by simp [ha]
  go_enter Tryz.func43, Tryz.ntmps43
  go_wp2
  refine bodyPost_ret (v := .tuple #[]) (by simp [results, Tryz.results43, go_sem]) rfl ?_
  rw [HE.out]
  have X0 := HX.out
  have k0 := Keeps.refl (· = g) w
  have X1 := (World.ownsRow.stored X0 0 (.int .i64 a)).1
  have k1 := k0.set (p := ⟨g, 0, none⟩) rfl (.int .i64 a)
  have X2 := (World.ownsRow.stored X1 1 (.bool true)).1
  have k2 := k1.set (p := ⟨g, 1, none⟩) rfl (.bool true)
  refine ⟨rfl, ⟨_, ⟨v0, v1, v2, v3, rfl, keep_other H0.out HX.out rfl (by decide) k2, keep_other H1.out HX.out rfl (by decide) k2, keep_other H2.out HX.out rfl (by decide) k2, keep_other H3.out HX.out rfl (by decide) k2⟩, _, rfl, X2⟩, k2.mono fun b hb => Or.inl hb⟩

set_option maxRecDepth 4000 in
set_option maxHeartbeats 2000000 in
theorem chg_idle (v : Value) (s : StD) (b : Int) (w : World) (B g : Nat) (hB : B ≤ w.heap.size) (h : BxS w B g v s) :
    Calls Tryz.prog 43 #[.pointer (some ⟨g, 0, none⟩), .int .i64 0, .int .i64 b] w (Chg w B g v (applyR s ⟨1, 0, b⟩)) := by
  obtain ⟨O, cs, hv, X⟩ := h
  obtain ⟨v0, v1, v2, v3, rfl, h0, h1, h2, h3⟩ := O.it
  injection hv with hv
  subst hv
  have H0 := Lib.hid h0
  have H1 := Lib.hid h1
  have H2 := Lib.hid h2
  have H3 := Lib.hid h3
  have HX := Lib.hid X
  have hC := X.C
  have hF := X.frozen
  obtain ⟨ph, co, ck, bo, ba, lb, l0, l1, l2, l3, gd, pr⟩ := s
  dsimp only at *
  have hg := (X.lt).2
  clear X O h0 h1 h2 h3
  have HB := Lib.hid hB
  clear hB
  go_enter Tryz.func43, Tryz.ntmps43
  go_wp2
  refine bodyPost_ret (v := .tuple #[]) (by simp [results, Tryz.results43, go_sem]) rfl ?_
  have X0 := HX.out
  have k0 := Keeps.refl (· = g) w
  have X1 := (World.ownsRow.stored X0 0 (.int .i64 0)).1
  have k1 := k0.set (p := ⟨g, 0, none⟩) rfl (.int .i64 0)
  have X2 := (World.ownsRow.stored X1 1 (.bool false)).1
  have k2 := k1.set (p := ⟨g, 1, none⟩) rfl (.bool false)
  have X3 := (World.ownsRow.stored X2 10 (.int .i64 0)).1
  have k3 := k2.set (p := ⟨g, 10, none⟩) rfl (.int .i64 0)
  have X4 := (World.ownsRow.stored X3 11 (.int .i64 0)).1
  have k4 := k3.set (p := ⟨g, 11, none⟩) rfl (.int .i64 0)
  have X5 := (World.ownsRow.stored X4 9 (.slice (some ⟨w.heap.size, 0, none⟩) 0 0)).1
  have k5 := k4.set (p := ⟨g, 9, none⟩) rfl (.slice (some ⟨w.heap.size, 0, none⟩) 0 0)
  have k6 := k5.trans (Keeps.of_below ((Below.refl _ _).alloc (Nat.le_refl _) (.cells #[] 2)))
  have X6 := ownsRow_below X5 ((Below.refl _ _).alloc (Nat.le_refl _) (.cells #[] 2))
  exact ⟨rfl, ⟨_, ⟨v0, v1, v2, .slice (some ⟨w.heap.size, 0, none⟩) 0 0, rfl, keep_other H0.out HX.out rfl (by decide) k6, keep_other H1.out HX.out rfl (by decide) k6, keep_other H2.out HX.out rfl (by decide) k6, made_at _ _ _ _ _ (by simp) (by have := HB.out; simpa using this)⟩, _, rfl, X6⟩, k6.mono fun b hb => Or.inl hb⟩

set_option maxRecDepth 4000 in
set_option maxHeartbeats 2000000 in
theorem chg_pod (v : Value) (s : StD) (a b : Int) (w : World) (B g : Nat) (h : BxS w B g v s) (ha0 : 0 ≤ a) (ha1 : a < s.pods.length) :
    Calls Tryz.prog 44 #[.pointer (some ⟨g, 0, none⟩), .int .i64 a, .int .i64 b] w (Chg w B g v (applyR s ⟨2, a, b⟩)) := by
  obtain ⟨O, cs, hv, X⟩ := h
  obtain ⟨v0, v1, v2, v3, rfl, h0, h1, h2, h3⟩ := O.it
  injection hv with hv
  subst hv
  have H0 := Lib.hid h0
  have H1 := Lib.hid h1
  have H2 := Lib.hid h2
  have H3 := Lib.hid h3
  have HX := Lib.hid X
  obtain ⟨A, c, m, rfl, hA, hnc, hBg, hgz, R, sl, hx⟩ := open_row h0
  have hC := X.C
  have hF := X.frozen
  obtain ⟨ph, co, ck, bo, ba, lb, l0, l1, l2, l3, gd, pr⟩ := s
  dsimp only at *
  obtain ⟨i, rfl⟩ := Int.eq_ofNat_of_zero_le ha0
  have hi : i < l0.length := by omega
  obtain rfl := hA (by omega)
  have hmg : m ≠ g := fun e => box_apart h0 X (by decide) (by rw [← e]; rfl)
  have HR := Lib.hid R
  unfold maxLen at hx
  have HXX := Lib.hid hx
  clear hA hgz R hBg hx hnc sl X O h0 h1 h2 h3
  have q0 := (HR.out (i * 2) (by rw [podCs_len]; omega)).1.trans (podCs_at l0 hi).1
  have hf0 := (HR.out (i * 2) (by rw [podCs_len]; omega)).2
  have q1 := (HR.out (i * 2 + 1) (by rw [podCs_len]; omega)).1.trans (podCs_at l0 hi).2
  have hf1 := (HR.out (i * 2 + 1) (by rw [podCs_len]; omega)).2
  have HE : Hid (applyR ⟨ph, co, ck, bo, ba, lb, l0, l1, l2, l3, gd, pr⟩ ⟨2, i, b⟩ = ⟨ph, co, ck, bo, ba, lb, l0.set i (b, ck), l1, l2, l3, gd, pr⟩) := Lib.hid rfl
  go_enter Tryz.func44, Tryz.ntmps44
  go_region
  all_goals try go_wp2
  all_goals
    refine bodyPost_ret (v := .tuple #[]) (by simp [results, Tryz.results44, go_sem]) rfl ?_
    rw [HE.out]
    have X0 := HX.out
    have k0 := Keeps.refl (· = m) w
    have s0 := H0.out
    have s1 := (World.ownsRow.stored s0 (i * 2) (.int .i64 b)).1
    have k1 := k0.set (p := ⟨m, i * 2, none⟩) rfl (.int .i64 b)
    have s2 := (World.ownsRow.stored s1 (i * 2 + 1) (.int .i64 ck)).1
    have k2 := k1.set (p := ⟨m, i * 2 + 1, none⟩) rfl (.int .i64 ck)
    have s3 := ownsRow_below s2 (Below.refl _ _).drew
    have k3 := k2.drew
    have hX := X0.keeps k3 (fun e => hmg e.symm)
    refine ⟨rfl, ⟨_, ⟨.slice (some ⟨m, 0, none⟩) l0.length c, v1, v2, v3, rfl, ?_, keep_other H1.out H0.out rfl (by decide) k3, keep_other H2.out H0.out rfl (by decide) k3, keep_other H3.out H0.out rfl (by decide) k3⟩, _, rfl, hX⟩, k3.mono fun b hb => Or.inr ⟨_, 6, _, rfl, rfl, by rw [hb]; rfl⟩⟩
    rw [List.length_set, podCs_set l0 hi]
    exact s3

set_option maxRecDepth 4000 in
set_option maxHeartbeats 2000000 in
theorem chg_busy (v : Value) (s : StD) (a b : Int) (w : World) (B g : Nat) (h : BxS w B g v s) (ha0 : 0 ≤ a) (ha1 : a < s.mnts.length) :
    Calls Tryz.prog 45 #[.pointer (some ⟨g, 0, none⟩), .int .i64 a, .int .i64 b] w (Chg w B g v (applyR s ⟨3, a, b⟩)) := by
  obtain ⟨O, cs, hv, X⟩ := h
  obtain ⟨v0, v1, v2, v3, rfl, h0, h1, h2, h3⟩ := O.it
  injection hv with hv
  subst hv
  have H0 := Lib.hid h0
  have H1 := Lib.hid h1
  have H2 := Lib.hid h2
  have H3 := Lib.hid h3
  have HX := Lib.hid X
  obtain ⟨A, c, m, rfl, hA, hnc, hBg, hgz, R, sl, hx⟩ := open_row h1
  have hC := X.C
  have hF := X.frozen
  obtain ⟨ph, co, ck, bo, ba, lb, l0, l1, l2, l3, gd, pr⟩ := s
  dsimp only at *
  obtain ⟨i, rfl⟩ := Int.eq_ofNat_of_zero_le ha0
  have hi : i < l1.length := by omega
  obtain rfl := hA (by omega)
  have hmg : m ≠ g := fun e => box_apart h1 X (by decide) (by rw [← e]; rfl)
  have HR := Lib.hid R
  unfold maxLen at hx
  have HXX := Lib.hid hx
  clear hA hgz R hBg hx hnc sl X O h0 h1 h2 h3
  have q0 := (HR.out (i * 2) (by rw [mntCs_len]; omega)).1.trans (mntCs_at l1 hi).1
  have hf0 := (HR.out (i * 2) (by rw [mntCs_len]; omega)).2
  have q1 := (HR.out (i * 2 + 1) (by rw [mntCs_len]; omega)).1.trans (mntCs_at l1 hi).2
  have hf1 := (HR.out (i * 2 + 1) (by rw [mntCs_len]; omega)).2
  have HE : Hid (applyR ⟨ph, co, ck, bo, ba, lb, l0, l1, l2, l3, gd, pr⟩ ⟨3, i, b⟩ = ⟨ph, co, ck, bo, ba, lb, l0, l1.set i ((mntA l1 i).1, b), l2, l3, gd, pr⟩) := Lib.hid rfl
  go_enter Tryz.func45, Tryz.ntmps45
  go_wp2
  all_goals
    refine bodyPost_ret (v := .tuple #[]) (by simp [results, Tryz.results45, go_sem]) rfl ?_
    rw [HE.out]
    have X0 := HX.out
    have k0 := Keeps.refl (· = m) w
    have s0 := H1.out
    have s1 := (World.ownsRow.stored s0 (i * 2 + 1) (.int .i64 b)).1
    have k1 := k0.set (p := ⟨m, i * 2 + 1, none⟩) rfl (.int .i64 b)
    have hX := X0.keeps k1 (fun e => hmg e.symm)
    refine ⟨rfl, ⟨_, ⟨v0, .slice (some ⟨m, 0, none⟩) l1.length c, v2, v3, rfl, keep_other H0.out H1.out rfl (by decide) k1, ?_, keep_other H2.out H1.out rfl (by decide) k1, keep_other H3.out H1.out rfl (by decide) k1⟩, _, rfl, hX⟩, k1.mono fun b hb => Or.inr ⟨_, 7, _, rfl, rfl, by rw [hb]; rfl⟩⟩
    rw [List.length_set, mntCs_busy l1 hi]
    exact s1

set_option maxRecDepth 4000 in
set_option maxHeartbeats 2000000 in
theorem chg_free (v : Value) (s : StD) (a b : Int) (w : World) (B g : Nat) (h : BxS w B g v s) (ha0 : 0 ≤ a) (ha1 : a < s.mnts.length) :
    Calls Tryz.prog 46 #[.pointer (some ⟨g, 0, none⟩), .int .i64 a, .int .i64 b] w (Chg w B g v (applyR s ⟨4, a, b⟩)) := by
  obtain ⟨O, cs, hv, X⟩ := h
  obtain ⟨v0, v1, v2, v3, rfl, h0, h1, h2, h3⟩ := O.it
  injection hv with hv
  subst hv
  have H0 := Lib.hid h0
  have H1 := Lib.hid h1
  have H2 := Lib.hid h2
  have H3 := Lib.hid h3
  have HX := Lib.hid X
  obtain ⟨A, c, m, rfl, hA, hnc, hBg, hgz, R, sl, hx⟩ := open_row h1
  have hC := X.C
  have hF := X.frozen
  obtain ⟨ph, co, ck, bo, ba, lb, l0, l1, l2, l3, gd, pr⟩ := s
  dsimp only at *
  obtain ⟨i, rfl⟩ := Int.eq_ofNat_of_zero_le ha0
  have hi : i < l1.length := by omega
  obtain rfl := hA (by omega)
  have hmg : m ≠ g := fun e => box_apart h1 X (by decide) (by rw [← e]; rfl)
  have HR := Lib.hid R
  unfold maxLen at hx
  have HXX := Lib.hid hx
  clear hA hgz R hBg hx hnc sl X O h0 h1 h2 h3
  have q0 := (HR.out (i * 2) (by rw [mntCs_len]; omega)).1.trans (mntCs_at l1 hi).1
  have hf0 := (HR.out (i * 2) (by rw [mntCs_len]; omega)).2
  have q1 := (HR.out (i * 2 + 1) (by rw [mntCs_len]; omega)).1.trans (mntCs_at l1 hi).2
  have hf1 := (HR.out (i * 2 + 1) (by rw [mntCs_len]; omega)).2
  have HE : Hid (applyR ⟨ph, co, ck, bo, ba, lb, l0, l1, l2, l3, gd, pr⟩ ⟨4, i, b⟩ = ⟨ph, co, ck, bo, ba, lb, l0, l1.set i (false, 0), l2, l3, gd, pr⟩) := Lib.hid rfl
  go_enter Tryz.func46, Tryz.ntmps46
  go_wp2
  all_goals
    refine bodyPost_ret (v := .tuple #[]) (by simp [results, Tryz.results46, go_sem]) rfl ?_
    rw [HE.out]
    have X0 := HX.out
    have k0 := Keeps.refl (· = m) w
    have s0 := H1.out
    have s1 := (World.ownsRow.stored s0 (i * 2) (.bool false)).1
    have k1 := k0.set (p := ⟨m, i * 2, none⟩) rfl (.bool false)
    have s2 := (World.ownsRow.stored s1 (i * 2 + 1) (.int .i64 0)).1
    have k2 := k1.set (p := ⟨m, i * 2 + 1, none⟩) rfl (.int .i64 0)
    have hX := X0.keeps k2 (fun e => hmg e.symm)
    refine ⟨rfl, ⟨_, ⟨v0, .slice (some ⟨m, 0, none⟩) l1.length c, v2, v3, rfl, keep_other H0.out H1.out rfl (by decide) k2, ?_, keep_other H2.out H1.out rfl (by decide) k2, keep_other H3.out H1.out rfl (by decide) k2⟩, _, rfl, hX⟩, k2.mono fun b hb => Or.inr ⟨_, 7, _, rfl, rfl, by rw [hb]; rfl⟩⟩
    rw [List.length_set, mntCs_set l1 hi]
    exact s2

set_option maxRecDepth 4000 in
set_option maxHeartbeats 2000000 in
theorem chg_give (v : Value) (s : StD) (a b : Int) (w : World) (B g : Nat) (h : BxS w B g v s) (ha0 : 0 ≤ a) (ha1 : a < s.devs.length) :
    Calls Tryz.prog 47 #[.pointer (some ⟨g, 0, none⟩), .int .i64 a, .int .i64 b] w (Chg w B g v (applyR s ⟨5, a, b⟩)) := by
  obtain ⟨O, cs, hv, X⟩ := h
  obtain ⟨v0, v1, v2, v3, rfl, h0, h1, h2, h3⟩ := O.it
  injection hv with hv
  subst hv
  have H0 := Lib.hid h0
  have H1 := Lib.hid h1
  have H2 := Lib.hid h2
  have H3 := Lib.hid h3
  have HX := Lib.hid X
  obtain ⟨A, c, m, rfl, hA, hnc, hBg, hgz, R, sl, hx⟩ := open_row h2
  have hC := X.C
  have hF := X.frozen
  obtain ⟨ph, co, ck, bo, ba, lb, l0, l1, l2, l3, gd, pr⟩ := s
  dsimp only at *
  obtain ⟨i, rfl⟩ := Int.eq_ofNat_of_zero_le ha0
  have hi : i < l2.length := by omega
  obtain rfl := hA (by omega)
  have hmg : m ≠ g := fun e => box_apart h2 X (by decide) (by rw [← e]; rfl)
  have HR := Lib.hid R
  unfold maxLen at hx
  have HXX := Lib.hid hx
  clear hA hgz R hBg hx hnc sl X O h0 h1 h2 h3
  have q0 := (HR.out i (by rw [devCs_len]; omega)).1.trans (devCs_at l2 hi)
  have hf0 := (HR.out i (by rw [devCs_len]; omega)).2
  have HE : Hid (applyR ⟨ph, co, ck, bo, ba, lb, l0, l1, l2, l3, gd, pr⟩ ⟨5, i, b⟩ = ⟨ph, co, ck, bo, ba, lb, l0, l1, l2.set i false, l3, gd, pr⟩) := Lib.hid rfl
  go_enter Tryz.func47, Tryz.ntmps47
  go_wp2
  all_goals
    refine bodyPost_ret (v := .tuple #[]) (by simp [results, Tryz.results47, go_sem]) rfl ?_
    rw [HE.out]
    have X0 := HX.out
    have k0 := Keeps.refl (· = m) w
    have s0 := H2.out
    have s1 := (World.ownsRow.stored s0 (i) (.bool false)).1
    have k1 := k0.set (p := ⟨m, i, none⟩) rfl (.bool false)
    have hX := X0.keeps k1 (fun e => hmg e.symm)
    refine ⟨rfl, ⟨_, ⟨v0, v1, .slice (some ⟨m, 0, none⟩) l2.length c, v3, rfl, keep_other H0.out H2.out rfl (by decide) k1, keep_other H1.out H2.out rfl (by decide) k1, ?_, keep_other H3.out H2.out rfl (by decide) k1⟩, _, rfl, hX⟩, k1.mono fun b hb => Or.inr ⟨_, 8, _, rfl, rfl, by rw [hb]; rfl⟩⟩
    rw [List.length_set, devCs_set]
    exact s1
end Go.Proofs.YtmgckdmglnmnnaaGreatDoor
/- Xg -/
set_option linter.unusedVariables false
namespace Go.Proofs.YtmgckdmglnmnnaaGreatDoor
open Go.RowKit

theorem insert_any (l : List Int) (x : Int) (i : Nat) (w : World) (B vb : Nat) (v : Value) (hB : B ≤ w.heap.size) (h : LkR w B v l) (hi : i ≤ l.length) (hl : l.length ≤ 1048576) (hne : v.ownBlock ≠ some vb) (hv : w.heap[vb]? = some (.cells #[.int .i64 x] 2)) :
    Calls Tryz.prog 78 #[v, .int .i64 i, .slice (some ⟨vb, 0, none⟩) 1 1] w (Puts w B v (l.take i ++ x :: l.drop i)) := by
  by_cases e : i = l.length
  · subst e
    rw [List.take_length, List.drop_length]
    exact insert_end l x w B vb v hB h hl hv
  · rcases h.2 with ⟨rfl, hn⟩ | ⟨g, cap, cur, rfl, hb, hh, hnc, hcm, hsz, ht⟩
    · omega
    · have hg : vb ≠ g := fun e => hne (by rw [e]; rfl)
      by_cases hc : l.length < cap
      · exact insert_room l x w B vb g cap i hB h (by omega) hc hg hv
      · exact insert_grow l x w B vb g cap i hB h (by omega) hnc (by omega) hl hv

set_option maxRecDepth 4000 in
set_option maxHeartbeats 2000000 in
theorem chg_lock (v : Value) (s : StD) (a b : Int) (w : World) (B g : Nat) (hB : B ≤ w.heap.size) (h : BxS w B g v s) (hr : s.lks.Pairwise (· < ·)) (hf : s.lks.length ≤ 1048576) :
    Calls Tryz.prog 48 #[.pointer (some ⟨g, 0, none⟩), .int .i64 a, .int .i64 b] w (Chg w B g v (applyR s ⟨6, a, b⟩)) := by
  obtain ⟨O, cs, hv, X⟩ := h
  obtain ⟨v0, v1, v2, v3, rfl, h0, h1, h2, h3⟩ := O.it
  injection hv with hv
  subst hv
  obtain ⟨ph, co, ck, bo, ba, lb, l0, l1, l2, l3, gd, pr⟩ := s
  dsimp only at *
  have he : applyR ⟨ph, co, ck, bo, ba, lb, l0, l1, l2, l3, gd, pr⟩ ⟨6, a, b⟩ = ⟨ph, co, ck, bo, ba, lb, l0, l1, l2, if l3.contains a then l3 else l3.take (placeN l3 a) ++ a :: l3.drop (placeN l3 a), gd, pr⟩ := by rw [← with_place a hr]; rfl
  have HE := Lib.hid he
  have HP := Lib.hid (place_le l3 a)
  have HR := Lib.hid hr
  have HF := Lib.hid hf
  have HB := Lib.hid hB
  have H0 := Lib.hid h0
  have H1 := Lib.hid h1
  have H2 := Lib.hid h2
  have H3 := Lib.hid h3
  have HX := Lib.hid X
  have hC := X.C
  have hF := X.frozen
  obtain ⟨A, c, rfl, -⟩ := open_rowR h3
  clear he hr hf hB X O h0 h1 h2 h3
  go_enter Tryz.func48, Tryz.ntmps48
  go_wp2_with fail
  refine (search_any _ l3 a _ B H3.out HR.out HF.out).mono ?_
  rintro e w1 ⟨rfl, q, hq⟩
  have K : Below w.heap.size w w1 := by rw [hq]; exact below_drewN (Below.refl _ _) q
  clear hq
  generalize hp : placeN l3 a = p at *
  cases hc : l3.contains a
  · obtain ⟨L, hL⟩ : ∃ L, l3.take p ++ a :: l3.drop p = L := ⟨_, rfl⟩
    replace HE : Hid (applyR ⟨ph, co, ck, bo, ba, lb, l0, l1, l2, l3, gd, pr⟩ ⟨6, a, b⟩ = ⟨ph, co, ck, bo, ba, lb, l0, l1, l2, L, gd, pr⟩) := Lib.hid (by rw [HE.out, hc, ← hL]; rfl)
    have X1 := HX.out.go K
    have G3 := Lib.hid (ownsRow_below H3.out K)
    have hbox : w1.heap.size ≠ g := by have := X1.lt.2; omega
    clear hC hF
    have hC := X1.C
    have hF := X1.frozen
    go_wp2_with fail
    have K2 : Below w1.heap.size w1 (w1.alloc (.cells #[.int .i64 a] 2)) := (Below.refl _ _).alloc (Nat.le_refl _) _
    have hnew : (w1.alloc (.cells #[.int .i64 a] 2)).heap[w1.heap.size]? = some (.cells #[.int .i64 a] 2) := heap_alloc_new w1 _
    have hB1 : B ≤ (w1.alloc (.cells #[.int .i64 a] 2)).heap.size := Nat.le_trans (Nat.le_trans HB.out K.size) K2.size
    refine (insert_any l3 a p _ B w1.heap.size _ hB1 (ownsRow_below G3.out K2) HP.out HF.out (fun hv => by have := (G3.out.lt _ hv).2; omega) hnew).mono ?_
    rintro e w3 ⟨v', rfl, R', kp⟩
    have KK := K.trans (K2.mono K.size)
    have X2 := (X1.go K2).keeps kp (box_apart (ownsRow_below G3.out K2) (X1.go K2) (by decide))
    have Q0 := Lib.hid (ownsRow_keeps (ownsRow_below H0.out KK) kp fun r hr e => absurd (row_type H0.out H3.out hr e) (by decide))
    have Q1 := Lib.hid (ownsRow_keeps (ownsRow_below H1.out KK) kp fun r hr e => absurd (row_type H1.out H3.out hr e) (by decide))
    have Q2 := Lib.hid (ownsRow_keeps (ownsRow_below H2.out KK) kp fun r hr e => absurd (row_type H2.out H3.out hr e) (by decide))
    have HK : Hid (Keeps (fun b => b = g ∨ (Value.slice A l3.length c).ownBlock = some b) w w3) := Lib.hid ((Keeps.of_below KK).trans (kp.mono fun b hb => Or.inr hb))
    rw [hL] at R'
    clear hL
    obtain ⟨D, d, rfl, -⟩ := open_rowR R'
    have Q3 := Lib.hid R'
    have HX2 := Lib.hid X2
    clear kp K K2 KK hnew hB1 X1 G3 hC hF R' hbox
    have hC := X2.C
    have hF := X2.frozen
    clear X2
    go_wp2
    refine bodyPost_ret (v := .tuple #[]) (by simp [results, Tryz.results48, go_sem]) rfl ?_
    rw [HE.out]
    have k2 := keeps_set w3 g 9 (.slice D L.length d)
    refine ⟨rfl, ⟨_, ⟨v0, v1, v2, .slice D L.length d, rfl, keep_other Q0.out HX2.out rfl (by decide) k2, keep_other Q1.out HX2.out rfl (by decide) k2, keep_other Q2.out HX2.out rfl (by decide) k2, keep_other Q3.out HX2.out rfl (by decide) k2⟩, _, rfl, (World.ownsRow.stored HX2.out 9 (.slice D L.length d)).1⟩, ?_⟩
    exact (HK.out.trans (k2.mono fun b hb => Or.inl hb)).mono fun b hb => hb.imp id fun h => ⟨_, 9, _, rfl, rfl, h⟩
  · replace HE : Hid (applyR ⟨ph, co, ck, bo, ba, lb, l0, l1, l2, l3, gd, pr⟩ ⟨6, a, b⟩ = ⟨ph, co, ck, bo, ba, lb, l0, l1, l2, l3, gd, pr⟩) := Lib.hid (by rw [HE.out, hc]; rfl)
    have X1 := HX.out.go K
    clear hC hF
    go_wp2
    refine bodyPost_ret (v := .tuple #[]) (by simp [results, Tryz.results48, go_sem]) rfl ?_
    rw [HE.out]
    exact ⟨rfl, ⟨_, ⟨v0, v1, v2, _, rfl, ownsRow_below H0.out K, ownsRow_below H1.out K, ownsRow_below H2.out K, ownsRow_below H3.out K⟩, _, rfl, X1⟩, Keeps.of_below K⟩

set_option maxRecDepth 4000 in
set_option maxHeartbeats 2000000 in
theorem chg_unlock (v : Value) (s : StD) (a b : Int) (w : World) (B g : Nat) (hB : B ≤ w.heap.size) (h : BxS w B g v s) (hr : s.lks.Pairwise (· < ·)) (hf : s.lks.length ≤ 1048576) :
    Calls Tryz.prog 49 #[.pointer (some ⟨g, 0, none⟩), .int .i64 a, .int .i64 b] w (Chg w B g v (applyR s ⟨7, a, b⟩)) := by
  obtain ⟨O, cs, hv, X⟩ := h
  obtain ⟨v0, v1, v2, v3, rfl, h0, h1, h2, h3⟩ := O.it
  injection hv with hv
  subst hv
  obtain ⟨ph, co, ck, bo, ba, lb, l0, l1, l2, l3, gd, pr⟩ := s
  dsimp only at *
  have he : applyR ⟨ph, co, ck, bo, ba, lb, l0, l1, l2, l3, gd, pr⟩ ⟨7, a, b⟩ = ⟨ph, co, ck, bo, ba, lb, l0, l1, l2, if l3.contains a then l3.take (placeN l3 a) ++ l3.drop (placeN l3 a + 1) else l3, gd, pr⟩ := by rw [← without_place a hr]; rfl
  have HE := Lib.hid he
  have HP := Lib.hid (fun h => place_lt (x := a) h hr)
  have HR := Lib.hid hr
  have HF := Lib.hid hf
  have HB := Lib.hid hB
  have H0 := Lib.hid h0
  have H1 := Lib.hid h1
  have H2 := Lib.hid h2
  have H3 := Lib.hid h3
  have HX := Lib.hid X
  have hC := X.C
  have hF := X.frozen
  obtain ⟨A, c, rfl, -⟩ := open_rowR h3
  clear he hr hf hB X O h0 h1 h2 h3
  go_enter Tryz.func49, Tryz.ntmps49
  go_wp2_with fail
  refine (search_any _ l3 a _ B H3.out HR.out HF.out).mono ?_
  rintro e w1 ⟨rfl, q, hq⟩
  have K : Below w.heap.size w w1 := by rw [hq]; exact below_drewN (Below.refl _ _) q
  clear hq
  generalize hp : placeN l3 a = p at *
  cases hc : l3.contains a
  · replace HE : Hid (applyR ⟨ph, co, ck, bo, ba, lb, l0, l1, l2, l3, gd, pr⟩ ⟨7, a, b⟩ = ⟨ph, co, ck, bo, ba, lb, l0, l1, l2, l3, gd, pr⟩) := Lib.hid (by rw [HE.out, hc]; rfl)
    have X1 := HX.out.go K
    clear hC hF
    go_wp2
    refine bodyPost_ret (v := .tuple #[]) (by simp [results, Tryz.results49, go_sem]) rfl ?_
    rw [HE.out]
    exact ⟨rfl, ⟨_, ⟨v0, v1, v2, _, rfl, ownsRow_below H0.out K, ownsRow_below H1.out K, ownsRow_below H2.out K, ownsRow_below H3.out K⟩, _, rfl, X1⟩, Keeps.of_below K⟩
  · obtain ⟨L, hL⟩ : ∃ L, l3.take p ++ l3.drop (p + 1) = L := ⟨_, rfl⟩
    replace HE : Hid (applyR ⟨ph, co, ck, bo, ba, lb, l0, l1, l2, l3, gd, pr⟩ ⟨7, a, b⟩ = ⟨ph, co, ck, bo, ba, lb, l0, l1, l2, L, gd, pr⟩) := Lib.hid (by rw [HE.out, hc, ← hL]; rfl)
    have X1 := HX.out.go K
    have G3 := Lib.hid (ownsRow_below H3.out K)
    have hbox : w1.heap.size ≠ g := by have := X1.lt.2; omega
    clear hC hF
    have hC := X1.C
    have hF := X1.frozen
    have hp1 : p < 1048576 := Nat.lt_of_lt_of_le (HP.out hc) HF.out
    have hw : IntKind.i64.wrap ((p : Int) + 1) = (p : Int) + 1 := by rw [IntKind.wrap_i64]; omega
    go_wp2_with fail
    refine (delete_any _ l3 p _ B G3.out (HP.out hc) HF.out).mono ?_
    rintro e w3 ⟨v', rfl, R', kp⟩
    have X2 := X1.keeps kp (box_apart G3.out X1 (by decide))
    have Q0 := Lib.hid (ownsRow_keeps (ownsRow_below H0.out K) kp fun r hr e => absurd (row_type H0.out H3.out hr e) (by decide))
    have Q1 := Lib.hid (ownsRow_keeps (ownsRow_below H1.out K) kp fun r hr e => absurd (row_type H1.out H3.out hr e) (by decide))
    have Q2 := Lib.hid (ownsRow_keeps (ownsRow_below H2.out K) kp fun r hr e => absurd (row_type H2.out H3.out hr e) (by decide))
    have HK : Hid (Keeps (fun b => b = g ∨ (Value.slice A l3.length c).ownBlock = some b) w w3) := Lib.hid ((Keeps.of_below K).trans (kp.mono fun b hb => Or.inr hb))
    rw [hL] at R'
    clear hL
    obtain ⟨D, d, rfl, -⟩ := open_rowR R'
    have Q3 := Lib.hid R'
    have HX2 := Lib.hid X2
    clear kp K X1 G3 hC hF R' hbox
    have hC := X2.C
    have hF := X2.frozen
    clear X2
    go_wp2
    refine bodyPost_ret (v := .tuple #[]) (by simp [results, Tryz.results49, go_sem]) rfl ?_
    rw [HE.out]
    have k2 := keeps_set w3 g 9 (.slice D L.length d)
    refine ⟨rfl, ⟨_, ⟨v0, v1, v2, .slice D L.length d, rfl, keep_other Q0.out HX2.out rfl (by decide) k2, keep_other Q1.out HX2.out rfl (by decide) k2, keep_other Q2.out HX2.out rfl (by decide) k2, keep_other Q3.out HX2.out rfl (by decide) k2⟩, _, rfl, (World.ownsRow.stored HX2.out 9 (.slice D L.length d)).1⟩, ?_⟩
    exact (HK.out.trans (k2.mono fun b hb => Or.inl hb)).mono fun b hb => hb.imp id fun h => ⟨_, 9, _, rfl, rfl, h⟩
end Go.Proofs.YtmgckdmglnmnnaaGreatDoor
/- Xi -/
set_option linter.unusedVariables false
namespace Go.Proofs.YtmgckdmglnmnnaaGreatDoor
open Go.RowKit

/-- The table. -/
abbrev chgT : Array Value := #[.nilFunc, .func (.func 43) #[] #[], .func (.func 44) #[] #[], .func (.func 45) #[] #[], .func (.func 46) #[] #[], .func (.func 47) #[] #[], .func (.func 48) #[] #[], .func (.func 49) #[] #[], .func (.func 50) #[] #[], .func (.func 51) #[] #[], .func (.func 52) #[] #[], .func (.func 53) #[] #[], .func (.func 54) #[] #[]]
set_option maxRecDepth 4000 in
set_option maxHeartbeats 2000000 in
theorem kindChanges_any (w : World) : Calls Tryz.prog 24 #[] w fun e w' => e = .returned (.agg chgT) ∧ Below w.heap.size w w' := by
  go_enter Tryz.func24, Tryz.ntmps24
  go_wp2
  refine bodyPost_ret (v := .agg chgT) (by simp [results, Tryz.results24, go_sem]) rfl ?_
  exact ⟨rfl, (Below.refl _ _).alloc (Nat.le_refl _) _⟩
theorem enter_chg1 (args : Array Value) (w : World) : (callFunc 43 args).run Tryz.prog w = .ok (.enter 43 args) w := by simp [go_sem]
theorem enter_chg2 (args : Array Value) (w : World) : (callFunc 44 args).run Tryz.prog w = .ok (.enter 44 args) w := by simp [go_sem]
theorem enter_chg3 (args : Array Value) (w : World) : (callFunc 45 args).run Tryz.prog w = .ok (.enter 45 args) w := by simp [go_sem]
theorem enter_chg4 (args : Array Value) (w : World) : (callFunc 46 args).run Tryz.prog w = .ok (.enter 46 args) w := by simp [go_sem]
theorem enter_chg5 (args : Array Value) (w : World) : (callFunc 47 args).run Tryz.prog w = .ok (.enter 47 args) w := by simp [go_sem]
theorem enter_chg6 (args : Array Value) (w : World) : (callFunc 48 args).run Tryz.prog w = .ok (.enter 48 args) w := by simp [go_sem]
theorem enter_chg7 (args : Array Value) (w : World) : (callFunc 49 args).run Tryz.prog w = .ok (.enter 49 args) w := by simp [go_sem]
theorem enter_chg8 (args : Array Value) (w : World) : (callFunc 50 args).run Tryz.prog w = .ok (.enter 50 args) w := by simp [go_sem]
theorem enter_chg9 (args : Array Value) (w : World) : (callFunc 51 args).run Tryz.prog w = .ok (.enter 51 args) w := by simp [go_sem]
theorem enter_chg10 (args : Array Value) (w : World) : (callFunc 52 args).run Tryz.prog w = .ok (.enter 52 args) w := by simp [go_sem]
theorem enter_chg11 (args : Array Value) (w : World) : (callFunc 53 args).run Tryz.prog w = .ok (.enter 53 args) w := by simp [go_sem]
theorem enter_chg12 (args : Array Value) (w : World) : (callFunc 54 args).run Tryz.prog w = .ok (.enter 54 args) w := by simp [go_sem]
/-- What a record's change does, by the table. -/
theorem change_at (s : StD) (r : RecD) (hk : recOkB r = true) (ht : thereB s r = true) (hr : s.lks.Pairwise (· < ·)) (hf : s.lks.length ≤ 1048576) :
    ∃ f, chgT[r.k.toNat]? = some (.func (.func f) #[] #[]) ∧ (∀ args w, (callFunc f args).run Tryz.prog w = .ok (.enter f args) w) ∧
      ∀ (v : Value) (w : World) (B g : Nat), B ≤ w.heap.size → BxS w B g v s → Calls Tryz.prog f #[.pointer (some ⟨g, 0, none⟩), .int .i64 r.a, .int .i64 r.b] w (Chg w B g v (applyR s r)) := by
  obtain ⟨k, a, b⟩ := r
  rw [recOkB_true] at hk
  simp only [] at hk
  have ha0 : 0 ≤ a := by omega
  have h12 : k = 1 ∨ k = 2 ∨ k = 3 ∨ k = 4 ∨ k = 5 ∨ k = 6 ∨ k = 7 ∨ k = 8 ∨ k = 9 ∨ k = 10 ∨ k = 11 ∨ k = 12 := by omega
  clear hk
  rcases h12 with rfl | rfl | rfl | rfl | rfl | rfl | rfl | rfl | rfl | rfl | rfl | rfl
  · by_cases ha : a = 0
    · subst ha
      exact ⟨_, rfl, enter_chg1, fun v w B g hB h => chg_idle v s b w B g hB h⟩
    · exact ⟨_, rfl, enter_chg1, fun v w B g hB h => chg_phase v s a b w B g h ha⟩
  · exact ⟨_, rfl, enter_chg2, fun v w B g hB h => chg_pod v s a b w B g h ha0 (by simpa [thereB] using ht)⟩
  · exact ⟨_, rfl, enter_chg3, fun v w B g hB h => chg_busy v s a b w B g h ha0 (by simpa [thereB] using ht)⟩
  · exact ⟨_, rfl, enter_chg4, fun v w B g hB h => chg_free v s a b w B g h ha0 (by simpa [thereB] using ht)⟩
  · exact ⟨_, rfl, enter_chg5, fun v w B g hB h => chg_give v s a b w B g h ha0 (by simpa [thereB] using ht)⟩
  · exact ⟨_, rfl, enter_chg6, fun v w B g hB h => chg_lock v s a b w B g hB h hr hf⟩
  · exact ⟨_, rfl, enter_chg7, fun v w B g hB h => chg_unlock v s a b w B g hB h hr hf⟩
  · exact ⟨_, rfl, enter_chg8, fun v w B g hB h => chg_clock v s a b w B g h⟩
  · exact ⟨_, rfl, enter_chg9, fun v w B g hB h => chg_band v s a b w B g h⟩
  · exact ⟨_, rfl, enter_chg10, fun v w B g hB h => chg_boot v s a b w B g h⟩
  · exact ⟨_, rfl, enter_chg11, fun v w B g hB h => chg_lockBy v s a b w B g h⟩
  · exact ⟨_, rfl, enter_chg12, fun v w B g hB h => chg_probe v s a b w B g h⟩
end Go.Proofs.YtmgckdmglnmnnaaGreatDoor
