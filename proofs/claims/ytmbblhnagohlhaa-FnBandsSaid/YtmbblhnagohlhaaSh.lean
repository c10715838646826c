/-
  WholeTime: the program's and the model's, each answers the same.
-/
import Derived.Test.YtmbblhnagohlhaaSg
set_option linter.unusedVariables false
namespace Go.Proofs.Ytmbblhnagohlhaa
open Go.RowKit

theorem whole_sum {d : PlanD} (h : planOkB d = true) : wholeT d = d.l + 6 * (d.n2 + d.n3 : Int) + 4 + sumL (bandsL d) (bandT d) (bandsL d).length := by
  have e := sumL_picks 6 (hasB d) (bandT d) fun i hi => bandT_none h (by simpa [hasB] using hi)
  have e2 : sumL (bandsL d) (bandT d) (bandsL d).length = sumB 6 (fun i => bandT d i) := e
  rw [wholeT, if_pos h, e2]
theorem sums_bound {d : PlanD} (h : planOkB d = true) {k : Nat} (hk : k ≤ (bandsL d).length) : 0 ≤ sumL (bandsL d) (bandT d) k ∧ sumL (bandsL d) (bandT d) k ≤ 6024 := by
  have := sumL_bound (l := bandsL d) (g := bandT d) (lo := 0) (hi := 1004) (fun x => bandT_bound h x) (by omega) k hk
  have := bandsL_le d
  omega
theorem sumB_bound {d : PlanD} (h : planOkB d = true) : ∀ k : Nat, 0 ≤ sumB k (fun b => bandT d b) ∧ sumB k (fun b => bandT d b) ≤ 1004 * k
  | 0 => by simp [sumB]
  | k + 1 => by
    have := sumB_bound h k
    have := bandT_bound h k
    simp only [sumB]
    omega

set_option maxRecDepth 100000 in
set_option maxHeartbeats 2000000 in
theorem implWhole_any (v : Value) (d : PlanD) (w : World) (h : IsPlan w w.heap.size v d) (hn : d.n0 ≤ 1048576) :
    Calls Try.prog 17 #[v] w fun e w' => e = .returned (.int .i64 (wholeT d)) ∧ Below w.heap.size w w' := by
  have P := Lib.hid h
  have HN := Lib.hid hn
  obtain ⟨⟨A0, A1, A2, A3, c0, c1, c2, c3, rfl, s0, s1, s2, s3⟩, b0, b1, b2, b3⟩ := h
  clear s0 s1 s2 s3 b0 b1 b2 b3 hn
  go_enter Try.func17, Try.ntmps17
  go_wp2_with fail
  have X1 := Own.box w (planC A0 A1 A2 A3 d.n0 c0 d.n1 c1 d.n2 c2 d.n3 c3 d.l d.p d.t) 29
  refine (planOk_any _ d _ ((P.out.below X1.K (Nat.le_refl _)).more X1.K.size)).mono ?_
  rintro e w2 ⟨rfl, hb⟩
  have X2 := X1.step hb
  clear X1 hb
  have hC := X2.C
  cases hq : planOkB d
  · have HF := Lib.hid (show wholeT d = -1 by rw [wholeT, if_neg (by rw [hq]; decide)])
    clear hq
    go_wp2
    go_ret
    exact ⟨ret_int HF.out.symm, X2.K⟩
  · have HQ := Lib.hid hq
    clear hq
    obtain ⟨l0, l1, h0, h1, h2, h3⟩ := planOk_lock HQ.out
    go_wp2_with fail
    go_region_law (first
      | (go_simp
         go_at_call 38
         refine (releaseTime_any A0 A1 A2 A3 d.n0 c0 d.n1 c1 d.n2 c2 d.n3 c3 d.l d.p d.t _ h2 h3).mono ?_
         rintro e w3 ⟨rfl, hb3⟩
         have X3 := (X2.step (Below.refl _ _).drew).step hb3
         have hC3 := X3.C))
    all_goals
      clear hC hb3 X2
      go_wp2_with fail
      refine (implBands_any _ d _ ((P.out.below X3.K (Nat.le_refl _)).more X3.K.size)).mono ?_
      rintro e w4 ⟨v', rfl, O4, hb4⟩
      have X4 := X3.step hb4
      obtain ⟨A, c, g, rfl, hA, hg, hgl, R⟩ := open_list O4
      have HA := Lib.hid hA
      have HG := Lib.hid hgl
      have hle := bandsL_le d
      have HF := Lib.hid (whole_sum HQ.out)
      have HB := Lib.hid (fun k (hk : k ≤ (bandsL d).length) => sums_bound HQ.out hk)
      have HT := Lib.hid (fun x => bandT_bound HQ.out x)
      clear hb4 O4 X3 hA hg hgl hC3
      generalize bandsL d = L at *
      have HR := Lib.hid R
      clear R
      have hC := X4.C
      go_wp2
      go_loopw [3, 18] (fun m i wr => ∃ k : Nat, k ≤ L.length ∧ i = .int .i64 k ∧ m = .int .i64 (d.l + 6 * (d.n2 + d.n3 : Int) + 4 + sumL L (bandT d) k) ∧ Own w wr w.heap.size (planC A0 A1 A2 A3 d.n0 c0 d.n1 c1 d.n2 c2 d.n3 c3 d.l d.p d.t) ∧ Below w4.heap.size w4 wr) (fun _ i _ => L.length - (intOf i).toNat)
      case atStart => exact ⟨0, Nat.zero_le _, rfl, by rw [sumL_zero, Int.add_zero], X4, Below.refl _ _⟩
      case round =>
        clear X4 hC
        obtain ⟨k, hk, rfl, rfl, X, K⟩ := hrel
        have hC := X.C
        by_cases hlt : k < L.length
        · obtain rfl := HA.out (by omega)
          obtain ⟨t0, f0⟩ : wr.cell? ⟨g, k, none⟩ = some (.int .i64 (L.getD k 0)) ∧ wr.frozen? ⟨g, k, none⟩ = false := HR.out.go HG.out K k hlt
          have HS := Lib.hid (sumL_succ (g := bandT d) hlt)
          have hs := HB.out k hk
          have ht := HT.out (L.getD k 0)
          have HW := Lib.hid (implTime_any _ d (L.getD k 0) wr ((P.out.below X.K (Nat.le_refl _)).more X.K.size) HN.out)
          generalize sumL L (bandT d) k = m at *
          generalize hx : L.getD k 0 = x at *
          clear hx
          generalize hy : bandT d x = y at *
          clear hy
          go_wp2_with (go_at_call 15; refine HW.out.mono ?_; rintro e w5 ⟨rfl, hb5⟩)
          exact ⟨⟨k + 1, by omega, by go_num, by rw [HS.out, Int.add_assoc], X.step hb5, K.trans (hb5.mono K.size)⟩, by simp [intOf]; omega⟩
        · obtain rfl : k = L.length := by omega
          go_wp2
          go_ret
          exact ⟨ret_int HF.out.symm, X.K⟩

set_option maxRecDepth 100000 in
set_option maxHeartbeats 2000000 in
theorem specWhole_any (v : Value) (d : PlanD) (w : World) (h : IsPlan w w.heap.size v d) (hn : d.n0 ≤ 1048576) :
    Calls Try.prog 20 #[v] w fun e w' => e = .returned (.int .i64 (wholeT d)) ∧ Below w.heap.size w w' := by
  have P := Lib.hid h
  have HN := Lib.hid hn
  obtain ⟨⟨A0, A1, A2, A3, c0, c1, c2, c3, rfl, s0, s1, s2, s3⟩, b0, b1, b2, b3⟩ := h
  clear s0 s1 s2 s3 b0 b1 b2 b3 hn
  go_enter Try.func20, Try.ntmps20
  go_wp2_with fail
  have X1 := Own.box w (planC A0 A1 A2 A3 d.n0 c0 d.n1 c1 d.n2 c2 d.n3 c3 d.l d.p d.t) 29
  refine (spec_planOk_any _ d _ ((P.out.below X1.K (Nat.le_refl _)).more X1.K.size)).mono ?_
  rintro e w2 ⟨rfl, hb⟩
  have X2 := X1.step hb
  clear X1 hb
  have hC := X2.C
  cases hq : planOkB d
  · have HF := Lib.hid (show wholeT d = -1 by rw [wholeT, if_neg (by rw [hq]; decide)])
    clear hq
    go_wp2
    go_ret
    exact ⟨ret_int HF.out.symm, X2.K⟩
  · have HQ := Lib.hid hq
    clear hq
    obtain ⟨l0, l1, h0, h1, h2, h3⟩ := planOk_lock HQ.out
    have HF := Lib.hid (show wholeT d = d.l + 6 * (d.n2 + d.n3 : Int) + 4 + sumB 6 (fun b => bandT d b) by rw [wholeT, if_pos HQ.out])
    have HB := Lib.hid (fun k => sumB_bound HQ.out k)
    have HT := Lib.hid (fun x => bandT_bound HQ.out x)
    go_wp2
    go_loopw [3, 4] (fun m i wr => ∃ k : Nat, k ≤ 6 ∧ i = .int .i64 k ∧ m = .int .i64 (d.l + 6 * (d.n2 + d.n3 : Int) + 4 + sumB k (fun b => bandT d b)) ∧ Own w wr w.heap.size (planC A0 A1 A2 A3 d.n0 c0 d.n1 c1 d.n2 c2 d.n3 c3 d.l d.p d.t)) (fun _ i _ => 6 - (intOf i).toNat)
    case atStart => exact ⟨0, Nat.zero_le _, rfl, by simp [sumB], X2⟩
    case round =>
      clear X2 hC
      obtain ⟨k, hk, rfl, rfl, X⟩ := hrel
      have hC := X.C
      by_cases hlt : k < 6
      · have HS := Lib.hid (show sumB (k + 1) (fun b => bandT d b) = sumB k (fun b => bandT d b) + bandT d k from rfl)
        have hs := HB.out k
        have ht := HT.out k
        have HW := Lib.hid (specTime_any _ d k wr ((P.out.below X.K (Nat.le_refl _)).more X.K.size) HN.out)
        generalize sumB k (fun b => bandT d b) = m at *
        generalize hy : bandT d k = y at *
        clear hy
        go_wp2_with (go_at_call 19; refine HW.out.mono ?_; rintro e w5 ⟨rfl, hb5⟩)
        exact ⟨⟨k + 1, by omega, by go_num, by rw [HS.out, Int.add_assoc], X.step hb5⟩, by simp [intOf]; omega⟩
      · obtain rfl : k = 6 := by omega
        go_wp2
        go_ret
        exact ⟨ret_int HF.out.symm, X.K⟩
end Go.Proofs.Ytmbblhnagohlhaa
