/-
  The model's l6Apply where it writes into a list.
-/
import Derived.Test.YtmgckdmglnmnnaaGreatDoorMZxUs
/- Ut -/
set_option linter.unusedVariables false
namespace Go.Proofs.YtmgckdmglnmnnaaGreatDoor
open Go.RowKit

theorem kept_other {w w' : World} {B B' e e' k k' n n' g : Nat} {v v' : Value} {xs xs' : List Value} (h : w.ownsRow B e k v n xs) (h' : w.ownsRow B' e' k' v' n' xs') (hv' : v'.ownBlock = some g) (hne : e ≠ e') (hg : w.grownBy w' (some g)) : w'.ownsRow B e k v n xs := by
  refine h.kept hg ?_
  by_cases hv : v.ownBlock = some g
  · exact absurd (row_type h h' hv hv') hne
  · exact .inr hv
theorem mntCs_busy (l : List (Bool × Int)) {i : Nat} (hi : i < l.length) (b : Int) : mntCs (l.set i ((mntA l i).1, b)) = (mntCs l).set (i * 2 + 1) (.int .i64 b) := by
  rw [mntCs_set l hi]
  have h := (mntCs_at l hi).1
  have hl : i * 2 < (mntCs l).length := by rw [mntCs_len]; omega
  apply List.ext_getElem?
  intro k
  by_cases e : k = i * 2 + 1
  · subst e
    rw [List.getElem?_set_self (by rw [List.length_set, mntCs_len]; omega), List.getElem?_set_self (by rw [mntCs_len]; omega)]
  · rw [List.getElem?_set_ne (i := i * 2 + 1) (by omega), List.getElem?_set_ne (i := i * 2 + 1) (by omega)]
    by_cases e2 : k = i * 2
    · subst e2
      rw [List.getElem?_set_self hl, h]
    · rw [List.getElem?_set_ne (by omega)]

set_option maxRecDepth 4000 in
set_option maxHeartbeats 4000000 in
theorem apply_give (v : Value) (s : StD) (a b : Int) (w : World) (B : Nat) (hB : B ≤ w.heap.size) (h : OwnSt w B v s) (ha0 : 0 ≤ a) (ha1 : a < s.devs.length) :
    Calls Tryz.prog 98 #[v, recC ⟨5, a, b⟩] w (Appl w B v (applyR s ⟨5, a, b⟩)) := by
  obtain ⟨v0, v1, v2, v3, rfl, h0, h1, h2, h3⟩ := h.it
  have H0 := Lib.hid h0
  have H1 := Lib.hid h1
  have H2 := Lib.hid h2
  have H3 := Lib.hid h3
  obtain ⟨A0, c0, rfl, r0, s0⟩ := open_rowR h0
  obtain ⟨A1, c1, rfl, r1, s1⟩ := open_rowR h1
  obtain ⟨A2, c2, g, rfl, hA, hnc, hBg, hgz, R, s2, hx⟩ := open_row h2
  obtain ⟨A3, c3, rfl, r3, s3⟩ := open_rowR h3
  obtain ⟨ph, co, ck, bo, ba, lb, l0, l1, l2, l3, gd, pr⟩ := s
  clear h h0 h1 h2 h3
  have HB := Lib.hid hB
  dsimp only at *
  obtain ⟨i, rfl⟩ := Int.eq_ofNat_of_zero_le ha0
  have hi : i < l2.length := by omega
  obtain rfl := hA (by omega)
  have hz := hgz (by omega)
  have hz1 : g < w.heap.size + 1 := by omega
  have hz2 : g < w.heap.size + 1 + 1 := by omega
  have HR := Lib.hid R
  have HBg := Lib.hid hBg
  unfold maxLen at hx
  have HX := Lib.hid hx
  clear hA hgz R hBg hx hB hnc s0 s1 s2 s3
  unfold recC
  dsimp only
  have HE : Hid (applyR ⟨ph, co, ck, bo, ba, lb, l0, l1, l2, l3, gd, pr⟩ ⟨5, i, b⟩ = ⟨ph, co, ck, bo, ba, lb, l0, l1, l2.set i false, l3, gd, pr⟩) := Lib.hid (rfl)
  have q := (HR.out i (by rw [devCs_len]; omega)).1.trans (devCs_at l2 hi)
  have hf := (HR.out i (by rw [devCs_len]; omega)).2
  go_enter Tryz.func98, Tryz.ntmps98
  go_wp2
  obtain ⟨t0, u0⟩ := H2.out.stored (i) (.bool false)
  refine bodyPost_ret (v := .agg (stC A0 A1 (some ⟨g, 0, none⟩) A3 l0.length c0 l1.length c1 l2.length c2 l3.length c3 ph co ck bo ba lb gd pr)) ?_ rfl ⟨_, rfl, ?_, ?_⟩
  · simp [results, Tryz.results98, go_sem]
  · rw [HE.out]
    refine ⟨_, _, _, _, rfl, ownsRow_below (kept_other H0.out H2.out rfl (by decide) u0) (three _ _ _ _), ownsRow_below (kept_other H1.out H2.out rfl (by decide) u0) (three _ _ _ _), ?_, ownsRow_below (kept_other H3.out H2.out rfl (by decide) u0) (three _ _ _ _)⟩
    rw [List.length_set, devCs_set]
    exact ownsRow_below t0 (three _ _ _ _)
  · have hrow : rowsOf (.agg (stC A0 A1 (some ⟨g, 0, none⟩) A3 l0.length c0 l1.length c1 l2.length c2 l3.length c3 ph co ck bo ba lb gd pr)) g := ⟨_, 8, _, rfl, rfl, rfl⟩
    exact ((Keeps.refl _ _).set (p := ⟨g, i, none⟩) hrow _).trans (Keeps.of_below (three _ _ _ _))

set_option maxRecDepth 4000 in
set_option maxHeartbeats 4000000 in
theorem apply_pod (v : Value) (s : StD) (a b : Int) (w : World) (B : Nat) (hB : B ≤ w.heap.size) (h : OwnSt w B v s) (ha0 : 0 ≤ a) (ha1 : a < s.pods.length) :
    Calls Tryz.prog 98 #[v, recC ⟨2, a, b⟩] w (Appl w B v (applyR s ⟨2, a, b⟩)) := by
  obtain ⟨v0, v1, v2, v3, rfl, h0, h1, h2, h3⟩ := h.it
  have H0 := Lib.hid h0
  have H1 := Lib.hid h1
  have H2 := Lib.hid h2
  have H3 := Lib.hid h3
  obtain ⟨A0, c0, g, rfl, hA, hnc, hBg, hgz, R, s0, hx⟩ := open_row h0
  obtain ⟨A1, c1, rfl, r1, s1⟩ := open_rowR h1
  obtain ⟨A2, c2, rfl, r2, s2⟩ := open_rowR h2
  obtain ⟨A3, c3, rfl, r3, s3⟩ := open_rowR h3
  obtain ⟨ph, co, ck, bo, ba, lb, l0, l1, l2, l3, gd, pr⟩ := s
  clear h h0 h1 h2 h3
  have HB := Lib.hid hB
  dsimp only at *
  obtain ⟨i, rfl⟩ := Int.eq_ofNat_of_zero_le ha0
  have hi : i < l0.length := by omega
  obtain rfl := hA (by omega)
  have hz := hgz (by omega)
  have hz1 : g < w.heap.size + 1 := by omega
  have hz2 : g < w.heap.size + 1 + 1 := by omega
  have HR := Lib.hid R
  have HBg := Lib.hid hBg
  unfold maxLen at hx
  have HX := Lib.hid hx
  clear hA hgz R hBg hx hB hnc s0 s1 s2 s3
  unfold recC
  dsimp only
  have HE : Hid (applyR ⟨ph, co, ck, bo, ba, lb, l0, l1, l2, l3, gd, pr⟩ ⟨2, i, b⟩ = ⟨ph, co, ck, bo, ba, lb, l0.set i (b, ck), l1, l2, l3, gd, pr⟩) := Lib.hid (rfl)
  have q0 := (HR.out (i * 2) (by rw [podCs_len]; omega)).1.trans (podCs_at l0 hi).1
  have hf0 := (HR.out (i * 2) (by rw [podCs_len]; omega)).2
  have q1 := (HR.out (i * 2 + 1) (by rw [podCs_len]; omega)).1.trans (podCs_at l0 hi).2
  have hf1 := (HR.out (i * 2 + 1) (by rw [podCs_len]; omega)).2
  go_enter Tryz.func98, Tryz.ntmps98
  go_wp2
  obtain ⟨t0, u0⟩ := H0.out.stored (i * 2) (.int .i64 b)
  obtain ⟨t1, u1⟩ := t0.stored (i * 2 + 1) (.int .i64 ck)
  refine bodyPost_ret (v := .agg (stC (some ⟨g, 0, none⟩) A1 A2 A3 l0.length c0 l1.length c1 l2.length c2 l3.length c3 ph co ck bo ba lb gd pr)) ?_ rfl ⟨_, rfl, ?_, ?_⟩
  · simp [results, Tryz.results98, go_sem]
  · rw [HE.out]
    refine ⟨_, _, _, _, rfl, ?_, ownsRow_below (kept_other (kept_other H1.out H0.out rfl (by decide) u0) t0 rfl (by decide) u1) (three _ _ _ _), ownsRow_below (kept_other (kept_other H2.out H0.out rfl (by decide) u0) t0 rfl (by decide) u1) (three _ _ _ _), ownsRow_below (kept_other (kept_other H3.out H0.out rfl (by decide) u0) t0 rfl (by decide) u1) (three _ _ _ _)⟩
    rw [List.length_set, podCs_set l0 hi]
    exact ownsRow_below t1 (three _ _ _ _)
  · have hrow : rowsOf (.agg (stC (some ⟨g, 0, none⟩) A1 A2 A3 l0.length c0 l1.length c1 l2.length c2 l3.length c3 ph co ck bo ba lb gd pr)) g := ⟨_, 6, _, rfl, rfl, rfl⟩
    exact (((Keeps.refl _ _).set (p := ⟨g, i * 2, none⟩) hrow _).set (p := ⟨g, i * 2 + 1, none⟩) hrow _).trans (Keeps.of_below (three _ _ _ _))

set_option maxRecDepth 4000 in
set_option maxHeartbeats 4000000 in
theorem apply_busy (v : Value) (s : StD) (a b : Int) (w : World) (B : Nat) (hB : B ≤ w.heap.size) (h : OwnSt w B v s) (ha0 : 0 ≤ a) (ha1 : a < s.mnts.length) :
    Calls Tryz.prog 98 #[v, recC ⟨3, a, b⟩] w (Appl w B v (applyR s ⟨3, a, b⟩)) := by
  obtain ⟨v0, v1, v2, v3, rfl, h0, h1, h2, h3⟩ := h.it
  have H0 := Lib.hid h0
  have H1 := Lib.hid h1
  have H2 := Lib.hid h2
  have H3 := Lib.hid h3
  obtain ⟨A0, c0, rfl, r0, s0⟩ := open_rowR h0
  obtain ⟨A1, c1, g, rfl, hA, hnc, hBg, hgz, R, s1, hx⟩ := open_row h1
  obtain ⟨A2, c2, rfl, r2, s2⟩ := open_rowR h2
  obtain ⟨A3, c3, rfl, r3, s3⟩ := open_rowR h3
  obtain ⟨ph, co, ck, bo, ba, lb, l0, l1, l2, l3, gd, pr⟩ := s
  clear h h0 h1 h2 h3
  have HB := Lib.hid hB
  dsimp only at *
  obtain ⟨i, rfl⟩ := Int.eq_ofNat_of_zero_le ha0
  have hi : i < l1.length := by omega
  obtain rfl := hA (by omega)
  have hz := hgz (by omega)
  have hz1 : g < w.heap.size + 1 := by omega
  have hz2 : g < w.heap.size + 1 + 1 := by omega
  have HR := Lib.hid R
  have HBg := Lib.hid hBg
  unfold maxLen at hx
  have HX := Lib.hid hx
  clear hA hgz R hBg hx hB hnc s0 s1 s2 s3
  unfold recC
  dsimp only
  have HE : Hid (applyR ⟨ph, co, ck, bo, ba, lb, l0, l1, l2, l3, gd, pr⟩ ⟨3, i, b⟩ = ⟨ph, co, ck, bo, ba, lb, l0, l1.set i ((mntA l1 i).1, b), l2, l3, gd, pr⟩) := Lib.hid (rfl)
  have q0 := (HR.out (i * 2) (by rw [mntCs_len]; omega)).1.trans (mntCs_at l1 hi).1
  have hf0 := (HR.out (i * 2) (by rw [mntCs_len]; omega)).2
  have q1 := (HR.out (i * 2 + 1) (by rw [mntCs_len]; omega)).1.trans (mntCs_at l1 hi).2
  have hf1 := (HR.out (i * 2 + 1) (by rw [mntCs_len]; omega)).2
  go_enter Tryz.func98, Tryz.ntmps98
  go_wp2
  obtain ⟨t0, u0⟩ := H1.out.stored (i * 2 + 1) (.int .i64 b)
  refine bodyPost_ret (v := .agg (stC A0 (some ⟨g, 0, none⟩) A2 A3 l0.length c0 l1.length c1 l2.length c2 l3.length c3 ph co ck bo ba lb gd pr)) ?_ rfl ⟨_, rfl, ?_, ?_⟩
  · simp [results, Tryz.results98, go_sem]
  · rw [HE.out]
    refine ⟨_, _, _, _, rfl, ownsRow_below (kept_other H0.out H1.out rfl (by decide) u0) (three _ _ _ _), ?_, ownsRow_below (kept_other H2.out H1.out rfl (by decide) u0) (three _ _ _ _), ownsRow_below (kept_other H3.out H1.out rfl (by decide) u0) (three _ _ _ _)⟩
    rw [List.length_set, mntCs_busy l1 hi]
    exact ownsRow_below t0 (three _ _ _ _)
  · have hrow : rowsOf (.agg (stC A0 (some ⟨g, 0, none⟩) A2 A3 l0.length c0 l1.length c1 l2.length c2 l3.length c3 ph co ck bo ba lb gd pr)) g := ⟨_, 7, _, rfl, rfl, rfl⟩
    exact ((Keeps.refl _ _).set (p := ⟨g, i * 2 + 1, none⟩) hrow _).trans (Keeps.of_below (three _ _ _ _))

set_option maxRecDepth 4000 in
set_option maxHeartbeats 4000000 in
theorem apply_free (v : Value) (s : StD) (a b : Int) (w : World) (B : Nat) (hB : B ≤ w.heap.size) (h : OwnSt w B v s) (ha0 : 0 ≤ a) (ha1 : a < s.mnts.length) :
    Calls Tryz.prog 98 #[v, recC ⟨4, a, b⟩] w (Appl w B v (applyR s ⟨4, a, b⟩)) := by
  obtain ⟨v0, v1, v2, v3, rfl, h0, h1, h2, h3⟩ := h.it
  have H0 := Lib.hid h0
  have H1 := Lib.hid h1
  have H2 := Lib.hid h2
  have H3 := Lib.hid h3
  obtain ⟨A0, c0, rfl, r0, s0⟩ := open_rowR h0
  obtain ⟨A1, c1, g, rfl, hA, hnc, hBg, hgz, R, s1, hx⟩ := open_row h1
  obtain ⟨A2, c2, rfl, r2, s2⟩ := open_rowR h2
  obtain ⟨A3, c3, rfl, r3, s3⟩ := open_rowR h3
  obtain ⟨ph, co, ck, bo, ba, lb, l0, l1, l2, l3, gd, pr⟩ := s
  clear h h0 h1 h2 h3
  have HB := Lib.hid hB
  dsimp only at *
  obtain ⟨i, rfl⟩ := Int.eq_ofNat_of_zero_le ha0
  have hi : i < l1.length := by omega
  obtain rfl := hA (by omega)
  have hz := hgz (by omega)
  have hz1 : g < w.heap.size + 1 := by omega
  have hz2 : g < w.heap.size + 1 + 1 := by omega
  have HR := Lib.hid R
  have HBg := Lib.hid hBg
  unfold maxLen at hx
  have HX := Lib.hid hx
  clear hA hgz R hBg hx hB hnc s0 s1 s2 s3
  unfold recC
  dsimp only
  have HE : Hid (applyR ⟨ph, co, ck, bo, ba, lb, l0, l1, l2, l3, gd, pr⟩ ⟨4, i, b⟩ = ⟨ph, co, ck, bo, ba, lb, l0, l1.set i (false, 0), l2, l3, gd, pr⟩) := Lib.hid (rfl)
  have q0 := (HR.out (i * 2) (by rw [mntCs_len]; omega)).1.trans (mntCs_at l1 hi).1
  have hf0 := (HR.out (i * 2) (by rw [mntCs_len]; omega)).2
  have q1 := (HR.out (i * 2 + 1) (by rw [mntCs_len]; omega)).1.trans (mntCs_at l1 hi).2
  have hf1 := (HR.out (i * 2 + 1) (by rw [mntCs_len]; omega)).2
  go_enter Tryz.func98, Tryz.ntmps98
  go_wp2
  obtain ⟨t0, u0⟩ := H1.out.stored (i * 2) (.bool false)
  obtain ⟨t1, u1⟩ := t0.stored (i * 2 + 1) (.int .i64 0)
  refine bodyPost_ret (v := .agg (stC A0 (some ⟨g, 0, none⟩) A2 A3 l0.length c0 l1.length c1 l2.length c2 l3.length c3 ph co ck bo ba lb gd pr)) ?_ rfl ⟨_, rfl, ?_, ?_⟩
  · simp [results, Tryz.results98, go_sem]
  · rw [HE.out]
    refine ⟨_, _, _, _, rfl, ownsRow_below (kept_other (kept_other H0.out H1.out rfl (by decide) u0) t0 rfl (by decide) u1) (three _ _ _ _), ?_, ownsRow_below (kept_other (kept_other H2.out H1.out rfl (by decide) u0) t0 rfl (by decide) u1) (three _ _ _ _), ownsRow_below (kept_other (kept_other H3.out H1.out rfl (by decide) u0) t0 rfl (by decide) u1) (three _ _ _ _)⟩
    rw [List.length_set, mntCs_set l1 hi]
    exact ownsRow_below t1 (three _ _ _ _)
  · have hrow : rowsOf (.agg (stC A0 (some ⟨g, 0, none⟩) A2 A3 l0.length c0 l1.length c1 l2.length c2 l3.length c3 ph co ck bo ba lb gd pr)) g := ⟨_, 7, _, rfl, rfl, rfl⟩
    exact (((Keeps.refl _ _).set (p := ⟨g, i * 2, none⟩) hrow _).set (p := ⟨g, i * 2 + 1, none⟩) hrow _).trans (Keeps.of_below (three _ _ _ _))
end Go.Proofs.YtmgckdmglnmnnaaGreatDoor
