/-
  The model's StateOk.
-/
import Derived.Test.YtdkmhaghnfhajaaGreatMZ4
/- Ut -/
set_option linter.unusedVariables false
namespace Go.Proofs.YtdkmhaghnfhajaaGreat
open Go.RowKit

theorem kept_other {w w' : World} {B B' e e' k k' n n' g : Nat} {v v' : Value} {xs xs' : List Value} (h : w.ownsRow B e k v n xs) (h' : w.ownsRow B' e' k' v' n' xs') (hv' : v'.ownBlock = some g) (hne : e ≠ e') (hg : w.grownBy w' (some g)) : w'.ownsRow B e k v n xs := by
  refine h.kept hg ?_
  by_cases hv : v.ownBlock = some g
  · exact absurd (row_type h h' hv hv') hne
  · exact .inr hv
theorem mntCs_busy (l : List (Bool × Int)) {i : Nat} (hi : i < l.length) (b : Int) : mntCs (l.set i ((mntA l i).1, b)) = (mntCs l).set (i * 2 + 1) (.int .i64 b) := by
  rw [mntCs_set l hi]
  have h := (mntCs_at l hi).1
  have hl : i * 2 < (mntCs l).length := by rw [mntCs_len]; omega
  apply List.ext_getElem?
  intro k
  by_cases e : k = i * 2 + 1
  · subst e
    rw [List.getElem?_set_self (by rw [List.length_set, mntCs_len]; omega), List.getElem?_set_self (by rw [mntCs_len]; omega)]
  · rw [List.getElem?_set_ne (i := i * 2 + 1) (by omega), List.getElem?_set_ne (i := i * 2 + 1) (by omega)]
    by_cases e2 : k = i * 2
    · subst e2
      rw [List.getElem?_set_self hl, h]
    · rw [List.getElem?_set_ne (by omega)]

set_option maxRecDepth 4000 in
set_option maxHeartbeats 4000000 in
theorem apply_give (v : Value) (s : StD) (a b : Int) (w : World) (B : Nat) (hB : B ≤ w.heap.size) (h : OwnSt w B v s) (ha0 : 0 ≤ a) (ha1 : a < s.devs.length) :
    Calls Tryz.prog 59 #[v, recC ⟨5, a, b⟩] w (Appl w B v (applyR s ⟨5, a, b⟩)) := by
  obtain ⟨v0, v1, v2, v3, rfl, h0, h1, h2, h3⟩ := h.it
  have H0 := Lib.hid h0
  have H1 := Lib.hid h1
  have H2 := Lib.hid h2
  have H3 := Lib.hid h3
  obtain ⟨A0, c0, rfl, r0, s0⟩ := open_rowR h0
  obtain ⟨A1, c1, rfl, r1, s1⟩ := open_rowR h1
  obtain ⟨A2, c2, g, rfl, hA, hnc, hBg, hgz, R, s2, hx⟩ := open_row h2
  obtain ⟨A3, c3, rfl, r3, s3⟩ := open_rowR h3
  obtain ⟨ph, co, ck, bo, ba, lb, l0, l1, l2, l3, gd, pr⟩ := s
  clear h h0 h1 h2 h3
  have HB := Lib.hid hB
  dsimp only at *
  obtain ⟨i, rfl⟩ := Int.eq_ofNat_of_zero_le ha0
  have hi : i < l2.length := by omega
  obtain rfl := hA (by omega)
  have hz := hgz (by omega)
  have hz1 : g < w.heap.size + 1 := by omega
  have hz2 : g < w.heap.size + 1 + 1 := by omega
  have HR := Lib.hid R
  have HBg := Lib.hid hBg
  unfold maxLen at hx
  have HX := Lib.hid hx
  clear hA hgz R hBg hx hB hnc s0 s1 s2 s3
  unfold recC
  dsimp only
  have HE : Hid (applyR ⟨ph, co, ck, bo, ba, lb, l0, l1, l2, l3, gd, pr⟩ ⟨5, i, b⟩ = ⟨ph, co, ck, bo, ba, lb, l0, l1, l2.set i false, l3, gd, pr⟩) := Lib.hid (rfl)
  have q := (HR.out i (by rw [devCs_len]; omega)).1.trans (devCs_at l2 hi)
  have hf := (HR.out i (by rw [devCs_len]; omega)).2
  go_enter Tryz.func59, Tryz.ntmps59
  go_wp2
  obtain ⟨t0, u0⟩ := H2.out.stored (i) (.bool false)
  refine bodyPost_ret (v := .agg (stC A0 A1 (some ⟨g, 0, none⟩) A3 l0.length c0 l1.length c1 l2.length c2 l3.length c3 ph co ck bo ba lb gd pr)) ?_ rfl ⟨_, rfl, ?_, ?_⟩
  · simp [results, Tryz.results59, go_sem]
  · rw [HE.out]
    refine ⟨_, _, _, _, rfl, ownsRow_below (kept_other H0.out H2.out rfl (by decide) u0) (three _ _ _ _), ownsRow_below (kept_other H1.out H2.out rfl (by decide) u0) (three _ _ _ _), ?_, ownsRow_below (kept_other H3.out H2.out rfl (by decide) u0) (three _ _ _ _)⟩
    rw [List.length_set, devCs_set]
    exact ownsRow_below t0 (three _ _ _ _)
  · have hrow : rowsOf (.agg (stC A0 A1 (some ⟨g, 0, none⟩) A3 l0.length c0 l1.length c1 l2.length c2 l3.length c3 ph co ck bo ba lb gd pr)) g := ⟨_, 8, _, rfl, rfl, rfl⟩
    exact ((Keeps.refl _ _).set (p := ⟨g, i, none⟩) hrow _).trans (Keeps.of_below (three _ _ _ _))

set_option maxRecDepth 4000 in
set_option maxHeartbeats 4000000 in
theorem apply_pod (v : Value) (s : StD) (a b : Int) (w : World) (B : Nat) (hB : B ≤ w.heap.size) (h : OwnSt w B v s) (ha0 : 0 ≤ a) (ha1 : a < s.pods.length) :
    Calls Tryz.prog 59 #[v, recC ⟨2, a, b⟩] w (Appl w B v (applyR s ⟨2, a, b⟩)) := by
  obtain ⟨v0, v1, v2, v3, rfl, h0, h1, h2, h3⟩ := h.it
  have H0 := Lib.hid h0
  have H1 := Lib.hid h1
  have H2 := Lib.hid h2
  have H3 := Lib.hid h3
  obtain ⟨A0, c0, g, rfl, hA, hnc, hBg, hgz, R, s0, hx⟩ := open_row h0
  obtain ⟨A1, c1, rfl, r1, s1⟩ := open_rowR h1
  obtain ⟨A2, c2, rfl, r2, s2⟩ := open_rowR h2
  obtain ⟨A3, c3, rfl, r3, s3⟩ := open_rowR h3
  obtain ⟨ph, co, ck, bo, ba, lb, l0, l1, l2, l3, gd, pr⟩ := s
  clear h h0 h1 h2 h3
  have HB := Lib.hid hB
  dsimp only at *
  obtain ⟨i, rfl⟩ := Int.eq_ofNat_of_zero_le ha0
  have hi : i < l0.length := by omega
  obtain rfl := hA (by omega)
  have hz := hgz (by omega)
  have hz1 : g < w.heap.size + 1 := by omega
  have hz2 : g < w.heap.size + 1 + 1 := by omega
  have HR := Lib.hid R
  have HBg := Lib.hid hBg
  unfold maxLen at hx
  have HX := Lib.hid hx
  clear hA hgz R hBg hx hB hnc s0 s1 s2 s3
  unfold recC
  dsimp only
  have HE : Hid (applyR ⟨ph, co, ck, bo, ba, lb, l0, l1, l2, l3, gd, pr⟩ ⟨2, i, b⟩ = ⟨ph, co, ck, bo, ba, lb, l0.set i (b, ck), l1, l2, l3, gd, pr⟩) := Lib.hid (rfl)
  have q0 := (HR.out (i * 2) (by rw [podCs_len]; omega)).1.trans (podCs_at l0 hi).1
  have hf0 := (HR.out (i * 2) (by rw [podCs_len]; omega)).2
  have q1 := (HR.out (i * 2 + 1) (by rw [podCs_len]; omega)).1.trans (podCs_at l0 hi).2
  have hf1 := (HR.out (i * 2 + 1) (by rw [podCs_len]; omega)).2
  go_enter Tryz.func59, Tryz.ntmps59
  go_wp2
  obtain ⟨t0, u0⟩ := H0.out.stored (i * 2) (.int .i64 b)
  obtain ⟨t1, u1⟩ := t0.stored (i * 2 + 1) (.int .i64 ck)
  refine bodyPost_ret (v := .agg (stC (some ⟨g, 0, none⟩) A1 A2 A3 l0.length c0 l1.length c1 l2.length c2 l3.length c3 ph co ck bo ba lb gd pr)) ?_ rfl ⟨_, rfl, ?_, ?_⟩
  · simp [results, Tryz.results59, go_sem]
  · rw [HE.out]
    refine ⟨_, _, _, _, rfl, ?_, ownsRow_below (kept_other (kept_other H1.out H0.out rfl (by decide) u0) t0 rfl (by decide) u1) (three _ _ _ _), ownsRow_below (kept_other (kept_other H2.out H0.out rfl (by decide) u0) t0 rfl (by decide) u1) (three _ _ _ _), ownsRow_below (kept_other (kept_other H3.out H0.out rfl (by decide) u0) t0 rfl (by decide) u1) (three _ _ _ _)⟩
    rw [List.length_set, podCs_set l0 hi]
    exact ownsRow_below t1 (three _ _ _ _)
  · have hrow : rowsOf (.agg (stC (some ⟨g, 0, none⟩) A1 A2 A3 l0.length c0 l1.length c1 l2.length c2 l3.length c3 ph co ck bo ba lb gd pr)) g := ⟨_, 6, _, rfl, rfl, rfl⟩
    exact (((Keeps.refl _ _).set (p := ⟨g, i * 2, none⟩) hrow _).set (p := ⟨g, i * 2 + 1, none⟩) hrow _).trans (Keeps.of_below (three _ _ _ _))

set_option maxRecDepth 4000 in
set_option maxHeartbeats 4000000 in
theorem apply_busy (v : Value) (s : StD) (a b : Int) (w : World) (B : Nat) (hB : B ≤ w.heap.size) (h : OwnSt w B v s) (ha0 : 0 ≤ a) (ha1 : a < s.mnts.length) :
    Calls Tryz.prog 59 #[v, recC ⟨3, a, b⟩] w (Appl w B v (applyR s ⟨3, a, b⟩)) := by
  obtain ⟨v0, v1, v2, v3, rfl, h0, h1, h2, h3⟩ := h.it
  have H0 := Lib.hid h0
  have H1 := Lib.hid h1
  have H2 := Lib.hid h2
  have H3 := Lib.hid h3
  obtain ⟨A0, c0, rfl, r0, s0⟩ := open_rowR h0
  obtain ⟨A1, c1, g, rfl, hA, hnc, hBg, hgz, R, s1, hx⟩ := open_row h1
  obtain ⟨A2, c2, rfl, r2, s2⟩ := open_rowR h2
  obtain ⟨A3, c3, rfl, r3, s3⟩ := open_rowR h3
  obtain ⟨ph, co, ck, bo, ba, lb, l0, l1, l2, l3, gd, pr⟩ := s
  clear h h0 h1 h2 h3
  have HB := Lib.hid hB
  dsimp only at *
  obtain ⟨i, rfl⟩ := Int.eq_ofNat_of_zero_le ha0
  have hi : i < l1.length := by omega
  obtain rfl := hA (by omega)
  have hz := hgz (by omega)
  have hz1 : g < w.heap.size + 1 := by omega
  have hz2 : g < w.heap.size + 1 + 1 := by omega
  have HR := Lib.hid R
  have HBg := Lib.hid hBg
  unfold maxLen at hx
  have HX := Lib.hid hx
  clear hA hgz R hBg hx hB hnc s0 s1 s2 s3
  unfold recC
  dsimp only
  have HE : Hid (applyR ⟨ph, co, ck, bo, ba, lb, l0, l1, l2, l3, gd, pr⟩ ⟨3, i, b⟩ = ⟨ph, co, ck, bo, ba, lb, l0, l1.set i ((mntA l1 i).1, b), l2, l3, gd, pr⟩) := Lib.hid (rfl)
  have q0 := (HR.out (i * 2) (by rw [mntCs_len]; omega)).1.trans (mntCs_at l1 hi).1
  have hf0 := (HR.out (i * 2) (by rw [mntCs_len]; omega)).2
  have q1 := (HR.out (i * 2 + 1) (by rw [mntCs_len]; omega)).1.trans (mntCs_at l1 hi).2
  have hf1 := (HR.out (i * 2 + 1) (by rw [mntCs_len]; omega)).2
  go_enter Tryz.func59, Tryz.ntmps59
  go_wp2
  obtain ⟨t0, u0⟩ := H1.out.stored (i * 2 + 1) (.int .i64 b)
  refine bodyPost_ret (v := .agg (stC A0 (some ⟨g, 0, none⟩) A2 A3 l0.length c0 l1.length c1 l2.length c2 l3.length c3 ph co ck bo ba lb gd pr)) ?_ rfl ⟨_, rfl, ?_, ?_⟩
  · simp [results, Tryz.results59, go_sem]
  · rw [HE.out]
    refine ⟨_, _, _, _, rfl, ownsRow_below (kept_other H0.out H1.out rfl (by decide) u0) (three _ _ _ _), ?_, ownsRow_below (kept_other H2.out H1.out rfl (by decide) u0) (three _ _ _ _), ownsRow_below (kept_other H3.out H1.out rfl (by decide) u0) (three _ _ _ _)⟩
    rw [List.length_set, mntCs_busy l1 hi]
    exact ownsRow_below t0 (three _ _ _ _)
  · have hrow : rowsOf (.agg (stC A0 (some ⟨g, 0, none⟩) A2 A3 l0.length c0 l1.length c1 l2.length c2 l3.length c3 ph co ck bo ba lb gd pr)) g := ⟨_, 7, _, rfl, rfl, rfl⟩
    exact ((Keeps.refl _ _).set (p := ⟨g, i * 2 + 1, none⟩) hrow _).trans (Keeps.of_below (three _ _ _ _))

set_option maxRecDepth 4000 in
set_option maxHeartbeats 4000000 in
theorem apply_free (v : Value) (s : StD) (a b : Int) (w : World) (B : Nat) (hB : B ≤ w.heap.size) (h : OwnSt w B v s) (ha0 : 0 ≤ a) (ha1 : a < s.mnts.length) :
    Calls Tryz.prog 59 #[v, recC ⟨4, a, b⟩] w (Appl w B v (applyR s ⟨4, a, b⟩)) := by
  obtain ⟨v0, v1, v2, v3, rfl, h0, h1, h2, h3⟩ := h.it
  have H0 := Lib.hid h0
  have H1 := Lib.hid h1
  have H2 := Lib.hid h2
  have H3 := Lib.hid h3
  obtain ⟨A0, c0, rfl, r0, s0⟩ := open_rowR h0
  obtain ⟨A1, c1, g, rfl, hA, hnc, hBg, hgz, R, s1, hx⟩ := open_row h1
  obtain ⟨A2, c2, rfl, r2, s2⟩ := open_rowR h2
  obtain ⟨A3, c3, rfl, r3, s3⟩ := open_rowR h3
  obtain ⟨ph, co, ck, bo, ba, lb, l0, l1, l2, l3, gd, pr⟩ := s
  clear h h0 h1 h2 h3
  have HB := Lib.hid hB
  dsimp only at *
  obtain ⟨i, rfl⟩ := Int.eq_ofNat_of_zero_le ha0
  have hi : i < l1.length := by omega
  obtain rfl := hA (by omega)
  have hz := hgz (by omega)
  have hz1 : g < w.heap.size + 1 := by omega
  have hz2 : g < w.heap.size + 1 + 1 := by omega
  have HR := Lib.hid R
  have HBg := Lib.hid hBg
  unfold maxLen at hx
  have HX := Lib.hid hx
  clear hA hgz R hBg hx hB hnc s0 s1 s2 s3
  unfold recC
  dsimp only
  have HE : Hid (applyR ⟨ph, co, ck, bo, ba, lb, l0, l1, l2, l3, gd, pr⟩ ⟨4, i, b⟩ = ⟨ph, co, ck, bo, ba, lb, l0, l1.set i (false, 0), l2, l3, gd, pr⟩) := Lib.hid (rfl)
  have q0 := (HR.out (i * 2) (by rw [mntCs_len]; omega)).1.trans (mntCs_at l1 hi).1
  have hf0 := (HR.out (i * 2) (by rw [mntCs_len]; omega)).2
  have q1 := (HR.out (i * 2 + 1) (by rw [mntCs_len]; omega)).1.trans (mntCs_at l1 hi).2
  have hf1 := (HR.out (i * 2 + 1) (by rw [mntCs_len]; omega)).2
  go_enter Tryz.func59, Tryz.ntmps59
  go_wp2
  obtain ⟨t0, u0⟩ := H1.out.stored (i * 2) (.bool false)
  obtain ⟨t1, u1⟩ := t0.stored (i * 2 + 1) (.int .i64 0)
  refine bodyPost_ret (v := .agg (stC A0 (some ⟨g, 0, none⟩) A2 A3 l0.length c0 l1.length c1 l2.length c2 l3.length c3 ph co ck bo ba lb gd pr)) ?_ rfl ⟨_, rfl, ?_, ?_⟩
  · simp [results, Tryz.results59, go_sem]
  · rw [HE.out]
    refine ⟨_, _, _, _, rfl, ownsRow_below (kept_other (kept_other H0.out H1.out rfl (by decide) u0) t0 rfl (by decide) u1) (three _ _ _ _), ?_, ownsRow_below (kept_other (kept_other H2.out H1.out rfl (by decide) u0) t0 rfl (by decide) u1) (three _ _ _ _), ownsRow_below (kept_other (kept_other H3.out H1.out rfl (by decide) u0) t0 rfl (by decide) u1) (three _ _ _ _)⟩
    rw [List.length_set, mntCs_set l1 hi]
    exact ownsRow_below t1 (three _ _ _ _)
  · have hrow : rowsOf (.agg (stC A0 (some ⟨g, 0, none⟩) A2 A3 l0.length c0 l1.length c1 l2.length c2 l3.length c3 ph co ck bo ba lb gd pr)) g := ⟨_, 7, _, rfl, rfl, rfl⟩
    exact (((Keeps.refl _ _).set (p := ⟨g, i * 2, none⟩) hrow _).set (p := ⟨g, i * 2 + 1, none⟩) hrow _).trans (Keeps.of_below (three _ _ _ _))
end Go.Proofs.YtdkmhaghnfhajaaGreat
/- Uu -/
set_option linter.unusedVariables false
namespace Go.Proofs.YtdkmhaghnfhajaaGreat
open Go.RowKit

theorem l6Apply_any (v : Value) (s : StD) (r : RecD) (w : World) (B : Nat) (hB : B ≤ w.heap.size) (h : OwnSt w B v s) (hk : recOkB r = true) (ht : thereB s r = true) (hf : s.lks.length ≤ 1048576) (hr : s.lks.Pairwise (· < ·)) :
    Calls Tryz.prog 59 #[v, recC r] w (Appl w B v (applyR s r)) := by
  obtain ⟨k, a, b⟩ := r
  simp only [recOkB, Bool.and_eq_true, inB_true] at hk
  obtain ⟨⟨⟨k1, k2⟩, ha0, -⟩, -⟩ := hk
  have : k = 1 ∨ k = 2 ∨ k = 3 ∨ k = 4 ∨ k = 5 ∨ k = 6 ∨ k = 7 ∨ k = 8 ∨ k = 9 ∨ k = 10 ∨ k = 11 ∨ k = 12 := by omega
  rcases this with rfl | rfl | rfl | rfl | rfl | rfl | rfl | rfl | rfl | rfl | rfl | rfl
  · by_cases ha : a = 0
    · exact apply_idle v s a b w B hB h ha
    · exact apply_phase v s a b w B hB h ha
  · exact apply_pod v s a b w B hB h ha0 (of_decide_eq_true ht)
  · exact apply_busy v s a b w B hB h ha0 (of_decide_eq_true ht)
  · exact apply_free v s a b w B hB h ha0 (of_decide_eq_true ht)
  · exact apply_give v s a b w B hB h ha0 (of_decide_eq_true ht)
  · exact apply_lock v s a b w B hB h hf hr
  · exact apply_unlock v s a b w B hB h hf
  · exact apply_clock v s a b w B hB h
  · exact apply_band v s a b w B hB h
  · exact apply_boot v s a b w B hB h
  · exact apply_lockBy v s a b w B hB h
  · exact apply_probe v s a b w B hB h
end Go.Proofs.YtdkmhaghnfhajaaGreat
/- Ui -/
set_option linter.unusedVariables false
namespace Go.Proofs.YtdkmhaghnfhajaaGreat
open Go.RowKit

set_option maxHeartbeats 8000000 in
theorem specStateOk_any (pv sv : Value) (d : PlanD) (s : StD) (w : World) (hp : IsPlan w w.heap.size pv d) (h : IsSt w w.heap.size sv s) :
    Calls Tryz.prog 14 #[pv, sv] w fun e w' => e = .returned (.bool (stOkB d s)) ∧ Below w.heap.size w w' := by
  have HP := Lib.hid hp
  have HS := Lib.hid h
  obtain ⟨⟨P0, P1, P2, P3, k0, k1, k2, k3, rfl, -, -, -, -⟩, -, -, -, -⟩ := hp
  obtain ⟨⟨A0, A1, A2, A3, c0, c1, c2, c3, rfl, -, -, -, -⟩, -, -, -, -⟩ := h
  have hans := stOkB_parts d s
  have hprt := fun (W : World) (hb : Below w.heap.size w W) => l5Parts_any _ _ d s W ((HP.out.below hb (Nat.le_refl _)).more hb.size) ((HS.out.below hb (Nat.le_refl _)).more hb.size)
  obtain ⟨ph, co, ck, bo, ba, lb, l0, l1, l2, l3, gd, pr⟩ := s
  dsimp only at hans hprt ⊢
  have T0 := Two.start w (planC P0 P1 P2 P3 d.n0 k0 d.n1 k1 d.n2 k2 d.n3 k3 d.l d.p d.t) (stC A0 A1 A2 A3 l0.length c0 l1.length c1 l2.length c2 l3.length c3 ph co ck bo ba lb gd pr) 29 38
  clear HS
  generalize stOkB d ⟨ph, co, ck, bo, ba, lb, l0, l1, l2, l3, gd, pr⟩ = ans at *
  generalize partsB d ⟨ph, co, ck, bo, ba, lb, l0, l1, l2, l3, gd, pr⟩ = okq at *
  have HANS := Lib.hid hans
  have HPRT := Lib.hid hprt
  clear hans hprt
  go_enter Tryz.func14, Tryz.ntmps14
  go_wp2_with fail
  refine (spec_planOk_any _ d _ ((HP.out.below T0.A.K (Nat.le_refl _)).more T0.A.K.size)).mono ?_
  rintro e w1 ⟨rfl, hb1⟩
  have X := T0.step hb1
  have hC := X.A.C
  have hD := X.O.C
  clear T0 hb1
  cases h0 : planOkB d
  · have H0 := Lib.hid h0
    clear h0
    go_wp2_with fail
    go_ret
    exact ⟨ret_bool (by rw [HANS.out, H0.out]; simp), X.A.K⟩
  · have H0 := Lib.hid h0
    clear h0
    cases h1 : inB ph 0 8
    · have H1 := Lib.hid h1
      clear h1
      go_wp2_with (first
          | (go_at_call 48; refine (in_any _ _ _ _).mono ?_; rintro e w' ⟨rfl, rfl⟩; first | rw [H1.out]))
      go_ret
      exact ⟨ret_bool (by rw [HANS.out, H0.out, H1.out]; simp), X.A.K⟩
    · have H1 := Lib.hid h1
      clear h1
      by_cases hph : ph = 0
      · subst hph
        cases co
        · have hup : True := trivial
          cases h3 : inB ck 0 1000000
          · have H3 := Lib.hid h3
            clear h3
            go_wp2_with (first
                | (go_at_call 48; refine (in_any _ _ _ _).mono ?_; rintro e w' ⟨rfl, rfl⟩; first | rw [H1.out])
                | (go_at_call 49; refine (field_any_ _ _).mono ?_; rintro e w' ⟨rfl, rfl⟩; first | rw [H3.out]))
            go_ret
            exact ⟨ret_bool (by rw [HANS.out, H0.out, H1.out, H3.out]; simp), X.A.K⟩
          · have H3 := Lib.hid h3
            clear h3
            cases h4 : inB bo 0 1000000
            · have H4 := Lib.hid h4
              clear h4
              go_wp2_with (first
                  | (go_at_call 48; refine (in_any _ _ _ _).mono ?_; rintro e w' ⟨rfl, rfl⟩; first | rw [H1.out])
                  | (go_at_call 49; refine (field_any_ _ _).mono ?_; rintro e w' ⟨rfl, rfl⟩; first | rw [H3.out] | rw [H4.out]))
              go_ret
              exact ⟨ret_bool (by rw [HANS.out, H0.out, H1.out, H3.out, H4.out]; simp), X.A.K⟩
            · have H4 := Lib.hid h4
              clear h4
              cases h5 : inB ba 0 6
              · have H5 := Lib.hid h5
                clear h5
                go_wp2_with (first
                    | (go_at_call 48; refine (in_any _ _ _ _).mono ?_; rintro e w' ⟨rfl, rfl⟩; first | rw [H1.out] | rw [H5.out])
                    | (go_at_call 49; refine (field_any_ _ _).mono ?_; rintro e w' ⟨rfl, rfl⟩; first | rw [H3.out] | rw [H4.out]))
                go_ret
                exact ⟨ret_bool (by rw [HANS.out, H0.out, H1.out, H3.out, H4.out, H5.out]; simp), X.A.K⟩
              · have H5 := Lib.hid h5
                clear h5
                cases h6 : inB lb 0 1000000
                · have H6 := Lib.hid h6
                  clear h6
                  go_wp2_with (first
                      | (go_at_call 48; refine (in_any _ _ _ _).mono ?_; rintro e w' ⟨rfl, rfl⟩; first | rw [H1.out] | rw [H5.out])
                      | (go_at_call 49; refine (field_any_ _ _).mono ?_; rintro e w' ⟨rfl, rfl⟩; first | rw [H3.out] | rw [H4.out] | rw [H6.out]))
                  go_ret
                  exact ⟨ret_bool (by rw [HANS.out, H0.out, H1.out, H3.out, H4.out, H5.out, H6.out]; simp), X.A.K⟩
                · have H6 := Lib.hid h6
                  clear h6
                  cases h7 : inB gd 0 pr
                  · have H7 := Lib.hid h7
                    clear h7
                    go_wp2_with (first
                        | (go_at_call 48; refine (in_any _ _ _ _).mono ?_; rintro e w' ⟨rfl, rfl⟩; first | rw [H1.out] | rw [H5.out] | rw [H7.out])
                        | (go_at_call 49; refine (field_any_ _ _).mono ?_; rintro e w' ⟨rfl, rfl⟩; first | rw [H3.out] | rw [H4.out] | rw [H6.out]))
                    go_ret
                    exact ⟨ret_bool (by rw [HANS.out, H0.out, H1.out, H3.out, H4.out, H5.out, H6.out, H7.out]; simp), X.A.K⟩
                  · have H7 := Lib.hid h7
                    clear h7
                    by_cases ht : pr ≤ d.t
                    · have hup : True := trivial
                      go_wp2_with (first
                          | (go_at_call 48; refine (in_any _ _ _ _).mono ?_; rintro e w' ⟨rfl, rfl⟩; first | rw [H1.out] | rw [H5.out] | rw [H7.out])
                          | (go_at_call 49; refine (field_any_ _ _).mono ?_; rintro e w' ⟨rfl, rfl⟩; first | rw [H3.out] | rw [H4.out] | rw [H6.out])
                          | (go_at_call 50; refine (HPRT.out _ X.A.K).mono ?_; rintro e w9 ⟨rfl, hb9⟩))
                      go_ret
                      exact ⟨ret_bool (by rw [HANS.out, H0.out, H1.out, H3.out, H4.out, H5.out, H6.out, H7.out]; simp [ht]), (X.step hb9).A.K⟩
                    · have ht' : d.t < pr := by omega
                      go_wp2_with (first
                          | (go_at_call 48; refine (in_any _ _ _ _).mono ?_; rintro e w' ⟨rfl, rfl⟩; first | rw [H1.out] | rw [H5.out] | rw [H7.out])
                          | (go_at_call 49; refine (field_any_ _ _).mono ?_; rintro e w' ⟨rfl, rfl⟩; first | rw [H3.out] | rw [H4.out] | rw [H6.out]))
                      go_ret
                      exact ⟨ret_bool (by rw [HANS.out, H0.out, H1.out, H3.out, H4.out, H5.out, H6.out, H7.out]; simp []; intro h; omega), X.A.K⟩
        · have hup : True := trivial
          go_wp2_with (first
              | (go_at_call 48; refine (in_any _ _ _ _).mono ?_; rintro e w' ⟨rfl, rfl⟩; first | rw [H1.out]))
          go_ret
          exact ⟨ret_bool (by rw [HANS.out, H0.out, H1.out]; simp), X.A.K⟩
      · have hphb : (ph != 0) = true := by simp [hph]
        cases co
        · have hup : True := trivial
          go_wp2_with (first
              | (go_at_call 48; refine (in_any _ _ _ _).mono ?_; rintro e w' ⟨rfl, rfl⟩; first | rw [H1.out]))
          go_ret
          exact ⟨ret_bool (by rw [HANS.out, H0.out, H1.out]; simp [hph]), X.A.K⟩
        · have hup : True := trivial
          cases h3 : inB ck 0 1000000
          · have H3 := Lib.hid h3
            clear h3
            go_wp2_with (first
                | (go_at_call 48; refine (in_any _ _ _ _).mono ?_; rintro e w' ⟨rfl, rfl⟩; first | rw [H1.out])
                | (go_at_call 49; refine (field_any_ _ _).mono ?_; rintro e w' ⟨rfl, rfl⟩; first | rw [H3.out]))
            go_ret
            exact ⟨ret_bool (by rw [HANS.out, H0.out, H1.out, H3.out]; simp), X.A.K⟩
          · have H3 := Lib.hid h3
            clear h3
            cases h4 : inB bo 0 1000000
            · have H4 := Lib.hid h4
              clear h4
              go_wp2_with (first
                  | (go_at_call 48; refine (in_any _ _ _ _).mono ?_; rintro e w' ⟨rfl, rfl⟩; first | rw [H1.out])
                  | (go_at_call 49; refine (field_any_ _ _).mono ?_; rintro e w' ⟨rfl, rfl⟩; first | rw [H3.out] | rw [H4.out]))
              go_ret
              exact ⟨ret_bool (by rw [HANS.out, H0.out, H1.out, H3.out, H4.out]; simp), X.A.K⟩
            · have H4 := Lib.hid h4
              clear h4
              cases h5 : inB ba 0 6
              · have H5 := Lib.hid h5
                clear h5
                go_wp2_with (first
                    | (go_at_call 48; refine (in_any _ _ _ _).mono ?_; rintro e w' ⟨rfl, rfl⟩; first | rw [H1.out] | rw [H5.out])
                    | (go_at_call 49; refine (field_any_ _ _).mono ?_; rintro e w' ⟨rfl, rfl⟩; first | rw [H3.out] | rw [H4.out]))
                go_ret
                exact ⟨ret_bool (by rw [HANS.out, H0.out, H1.out, H3.out, H4.out, H5.out]; simp), X.A.K⟩
              · have H5 := Lib.hid h5
                clear h5
                cases h6 : inB lb 0 1000000
                · have H6 := Lib.hid h6
                  clear h6
                  go_wp2_with (first
                      | (go_at_call 48; refine (in_any _ _ _ _).mono ?_; rintro e w' ⟨rfl, rfl⟩; first | rw [H1.out] | rw [H5.out])
                      | (go_at_call 49; refine (field_any_ _ _).mono ?_; rintro e w' ⟨rfl, rfl⟩; first | rw [H3.out] | rw [H4.out] | rw [H6.out]))
                  go_ret
                  exact ⟨ret_bool (by rw [HANS.out, H0.out, H1.out, H3.out, H4.out, H5.out, H6.out]; simp), X.A.K⟩
                · have H6 := Lib.hid h6
                  clear h6
                  cases h7 : inB gd 0 pr
                  · have H7 := Lib.hid h7
                    clear h7
                    go_wp2_with (first
                        | (go_at_call 48; refine (in_any _ _ _ _).mono ?_; rintro e w' ⟨rfl, rfl⟩; first | rw [H1.out] | rw [H5.out] | rw [H7.out])
                        | (go_at_call 49; refine (field_any_ _ _).mono ?_; rintro e w' ⟨rfl, rfl⟩; first | rw [H3.out] | rw [H4.out] | rw [H6.out]))
                    go_ret
                    exact ⟨ret_bool (by rw [HANS.out, H0.out, H1.out, H3.out, H4.out, H5.out, H6.out, H7.out]; simp), X.A.K⟩
                  · have H7 := Lib.hid h7
                    clear h7
                    by_cases ht : pr ≤ d.t
                    · have hup : True := trivial
                      go_wp2_with (first
                          | (go_at_call 48; refine (in_any _ _ _ _).mono ?_; rintro e w' ⟨rfl, rfl⟩; first | rw [H1.out] | rw [H5.out] | rw [H7.out])
                          | (go_at_call 49; refine (field_any_ _ _).mono ?_; rintro e w' ⟨rfl, rfl⟩; first | rw [H3.out] | rw [H4.out] | rw [H6.out])
                          | (go_at_call 50; refine (HPRT.out _ X.A.K).mono ?_; rintro e w9 ⟨rfl, hb9⟩))
                      go_ret
                      exact ⟨ret_bool (by rw [HANS.out, H0.out, H1.out, H3.out, H4.out, H5.out, H6.out, H7.out]; simp [hph, ht]), (X.step hb9).A.K⟩
                    · have ht' : d.t < pr := by omega
                      go_wp2_with (first
                          | (go_at_call 48; refine (in_any _ _ _ _).mono ?_; rintro e w' ⟨rfl, rfl⟩; first | rw [H1.out] | rw [H5.out] | rw [H7.out])
                          | (go_at_call 49; refine (field_any_ _ _).mono ?_; rintro e w' ⟨rfl, rfl⟩; first | rw [H3.out] | rw [H4.out] | rw [H6.out]))
                      go_ret
                      exact ⟨ret_bool (by rw [HANS.out, H0.out, H1.out, H3.out, H4.out, H5.out, H6.out, H7.out]; simp [hph]; intro h; omega), X.A.K⟩
end Go.Proofs.YtdkmhaghnfhajaaGreat
