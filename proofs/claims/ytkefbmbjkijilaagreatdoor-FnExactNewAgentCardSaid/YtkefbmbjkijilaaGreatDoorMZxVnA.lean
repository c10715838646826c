/-
  The program's NewState.
-/
import Derived.Test.YtkefbmbjkijilaaGreatDoorMZxUo
import Derived.Test.YtkefbmbjkijilaaGreatDoorMZ0
import Derived.Deep.DeepCutAuto
/- VnA -/
set_option linter.unusedVariables false
namespace Go.Proofs.YtkefbmbjkijilaaGreatDoor
open Go.RowKit

set_option maxHeartbeats 4000000 in
theorem implNewState_any (v : Value) (d : PlanD) (w : World) (h : IsPlan w w.heap.size v d) : Calls Tryz.prog 57 #[v] w (MadeS w (newS d)) := by
  have H := Lib.hid h
  obtain ⟨⟨A0, A1, A2, A3, c0, c1, c2, c3, rfl, -, -, -, -⟩, b0, b1, b2, b3⟩ := h
  unfold maxLen at b0 b1 b2 b3
  have T0 := Two.start w (planC A0 A1 A2 A3 d.n0 c0 d.n1 c1 d.n2 c2 d.n3 c3 d.l d.p d.t) (stC none none none none 0 0 0 0 0 0 0 0 0 false 0 0 0 0 0 0) 42 46
  go_enter Tryz.func57, Tryz.ntmps57
  go_wp2_with fail
  refine (planOk_any _ d _ ((H.out.below T0.A.K (Nat.le_refl _)).more T0.A.K.size)).mono ?_
  rintro e w1 ⟨rfl, hb⟩
  have T1 := T0.step hb
  have hC := T1.A.C
  have hD := T1.O.C
  have hG := T1.O.F
  have hz := T1.O.z
  clear hb T0
  cases hok : planOkB d
  · have he : newS d = zeroS := by unfold newS; rw [hok]; rfl
    have HE := Lib.hid he
    clear he
    go_wp2
    refine bodyPost_ret (v := .agg (stC none none none none 0 0 0 0 0 0 0 0 0 false 0 0 0 0 0 0)) ?_ rfl ⟨_, rfl, by rw [HE.out]; exact OwnSt.zero _ _, ?_⟩
    · simp [results, Tryz.results57, go_sem, hD]
    · iterate 12 (refine Below.setCell ?_ (by simp) _)
      exact T1.A.K
  · have hsz : d.n0 ≤ 12 ∧ d.n2 ≤ 12 ∧ d.n3 ≤ 12 := by
      have := hok
      simp only [planOkB, sizesB, Bool.and_eq_true, decide_eq_true_eq] at this
      omega
    have HSZ := Lib.hid hsz
    have HOK := Lib.hid hok
    obtain ⟨i0, hi, hz0, hz1, hz2⟩ := info_parts infoS_pod
    have mk0 : ∀ W : World, (Instr.makeSlice 43 (.int .i64 d.n0) (.int .i64 d.n0)).run Tryz.prog W = .ok (.slice (some ⟨W.heap.size, 0, none⟩) d.n0 d.n0) (W.alloc (.cells (madeCells (Value.agg #[.int .i64 0, .int .i64 0]).cells (d.n0 * 2)) 106)) := fun W => by
      have := run_make (P := Tryz.prog) W 43 106 i0 _ Tryz.underlying43 hi hz0 .i64 .i64 d.n0 d.n0 (by omega) (Int.le_refl _) (by rw [hz2]; omega) (by omega)
      simpa [hz1] using this
    clear hi hz0 hz1 hz2 i0
    obtain ⟨i0, hi, hz0, hz1, hz2⟩ := info_parts infoS_mnt
    have mk1 : ∀ W : World, (Instr.makeSlice 44 (.int .i64 d.n2) (.int .i64 d.n2)).run Tryz.prog W = .ok (.slice (some ⟨W.heap.size, 0, none⟩) d.n2 d.n2) (W.alloc (.cells (madeCells (Value.agg #[.bool false, .int .i64 0]).cells (d.n2 * 2)) 108)) := fun W => by
      have := run_make (P := Tryz.prog) W 44 108 i0 _ Tryz.underlying44 hi hz0 .i64 .i64 d.n2 d.n2 (by omega) (Int.le_refl _) (by rw [hz2]; omega) (by omega)
      simpa [hz1] using this
    clear hi hz0 hz1 hz2 i0
    obtain ⟨i0, hi, hz0, hz1, hz2⟩ := info_parts infoS_bool
    have mk2 : ∀ W : World, (Instr.makeSlice 30 (.int .i64 d.n3) (.int .i64 d.n3)).run Tryz.prog W = .ok (.slice (some ⟨W.heap.size, 0, none⟩) d.n3 d.n3) (W.alloc (.cells (madeCells (Value.bool false).cells d.n3) 4)) := fun W => by
      have := run_make (P := Tryz.prog) W 30 4 i0 _ Tryz.underlying30 hi hz0 .i64 .i64 d.n3 d.n3 (by omega) (Int.le_refl _) (by rw [hz2]; omega) (by omega)
      simpa [hz1] using this
    clear hi hz0 hz1 hz2 i0 hok hsz
    have hzA := T1.A.z
    have hzB : w.heap.size < w1.heap.size + 1 := by omega
    have hzC : w.heap.size < w1.heap.size + 1 + 1 := by omega
    have hzD : w.heap.size < w1.heap.size + 1 + 1 + 1 := by omega
    have M0d : Hid (madeCells (Value.agg #[.int .i64 0, .int .i64 0]).cells (d.n0 * 2) = (podCs (List.replicate d.n0 (0, 0))).toArray) := Lib.hid (made_pods _)
    have M1d : Hid (madeCells (Value.agg #[.bool false, .int .i64 0]).cells (d.n2 * 2) = (mntCs (List.replicate d.n2 (false, 0))).toArray) := Lib.hid (made_mnts _)
    have M2d : Hid (madeCells (Value.bool false).cells d.n3 = (devCs (List.replicate d.n3 false)).toArray) := Lib.hid (made_devs _)
    generalize madeCells (Value.agg #[.int .i64 0, .int .i64 0]).cells (d.n0 * 2) = M0 at *
    generalize madeCells (Value.agg #[.bool false, .int .i64 0]).cells (d.n2 * 2) = M1 at *
    generalize madeCells (Value.bool false).cells d.n3 = M2 at *
    go_upto_region 3 with fail
    go_cut [3] from 10 to 22 (fun s3 wx => ∃ g0 g1 g2 g3, s3 = .pointer (some ⟨g3, 0, none⟩) ∧ wx.heap[g3]? = some (.cells (stC (some ⟨g0, 0, none⟩) (some ⟨g1, 0, none⟩) (some ⟨g2, 0, none⟩) none d.n0 d.n0 d.n2 d.n2 d.n3 d.n3 0 0 0 false 0 0 0 0 0 0) 46) ∧ Below w1.heap.size w1 wx ∧ (g0 ≠ g1 ∧ g0 ≠ g2 ∧ g0 ≠ g3 ∧ g1 ≠ g2 ∧ g1 ≠ g3 ∧ g2 ≠ g3) ∧ (w1.heap.size ≤ g0 ∧ w1.heap.size ≤ g1 ∧ w1.heap.size ≤ g2 ∧ w1.heap.size ≤ g3) ∧
      wx.heap[g0]? = some (.cells M0 106) ∧ wx.heap[g1]? = some (.cells M1 108) ∧ wx.heap[g2]? = some (.cells M2 4))
    case first =>
      go_region
      all_goals (go_wp2_with fail; go_meet)
      all_goals
        apply Exists.intro
        apply Exists.intro
        apply Exists.intro
        apply Exists.intro
        refine ⟨rfl, ?h3, ?hb, ?hd, ?hg, ?h0, ?h1, ?h2⟩
        case h3 => repeat (first | exact alloc_here (by simp) | refine (alloc_there (by simp <;> omega)).trans ?_)
        case h0 => repeat (first | exact alloc_here (by simp) | refine (alloc_there (by simp <;> omega)).trans ?_)
        case h1 => repeat (first | exact alloc_here (by simp) | refine (alloc_there (by simp <;> omega)).trans ?_)
        case h2 => repeat (first | exact alloc_here (by simp) | refine (alloc_there (by simp <;> omega)).trans ?_)
        case hb => repeat (first | exact Below.refl _ _ | refine Below.drew ?_ | refine Below.alloc ?_ (by simp <;> omega) _)
        case hd => omega
        case hg => omega
    case rest =>
      obtain ⟨g0, g1, g2, g3, rfl, h3, K, ⟨d01, d02, d03, d12, d13, d23⟩, ⟨e0, e1, e2, e3⟩, h0, h1, h2⟩ := hcut
      have hz1 : w.heap.size + 1 < w1.heap.size := hz
      have hm : (12 : Nat) ≤ maxLen := by unfold maxLen; decide
      have N : NewB w wc g0 g1 g2 g3 d.n0 d.n2 d.n3 (List.replicate d.n2 (false, 0)) (List.replicate d.n3 false) := by
        have T2 := T1.step K
        have hs := HSZ.out
        exact ⟨by simp, by simp, ⟨T2.A.K, (Array.getElem?_eq_some_iff.1 h3).1, fun o => cell_of_row _ _ _ _ _ _ h3, fun o => frozen_of_row _ _ _ _ _ h3⟩, T2.O,
          own_of_heap h0 M0d.out (by rw [podCs_len]; simp) (by omega) (by omega), own_of_heap h1 M1d.out (by rw [mntCs_len]; simp) (by omega) (by omega), own_of_heap h2 M2d.out (by rw [devCs_len]; simp) (by omega) (by omega)⟩
      have f1 : w.heap.size + 1 < g1 := by omega
      have f2 : w.heap.size + 1 < g2 := by omega
      have HN := Lib.hid N
      clear h3 K h0 h1 h2 mk0 mk1 mk2 M0d M1d M2d N T1 hC hD hG hzA hzB hzC hzD
      have hs2 : (d.n2 : Int) ≤ 12 := by have := HSZ.out; omega
      have hs3 : (d.n3 : Int) ≤ 12 := by have := HSZ.out; omega
      have hCs := HN.out.S.C
      go_wp2_with fail
      go_loopw [26] (fun i wr => ∃ (k : Nat) (L1 : List (Bool × Int)), k ≤ d.n2 ∧ i = .int .i64 k ∧ (∀ j, j < d.n2 → L1[j]? = some (decide (j < k), 0)) ∧ NewB w wr g0 g1 g2 g3 d.n0 d.n2 d.n3 L1 (List.replicate d.n3 false)) (fun i _ => d.n2 - (intOf i).toNat)
      case atStart => exact ⟨0, _, Nat.zero_le _, rfl, fun j hj => by simp [hj], HN.out⟩
      case round =>
        obtain ⟨k, L1, hk, rfl, hL, N⟩ := hrel
        have NH := Lib.hid N
        have HL := Lib.hid hL
        have hC := N.S.C
        clear N hL
        by_cases hlt : k < d.n2
        · have q := (NH.out.r1.cellAt (k * 2) (by omega)).trans (mntCs_at L1 (by rw [NH.out.l1]; exact hlt)).1
          have hfr := NH.out.r1.frozenAt (k * 2)
          go_wp2
          exact ⟨⟨k + 1, _, by omega, by go_num, all_set HL.out NH.out.l1 hlt, NH.out.put1 d01 d12 d13 f1 hlt⟩, by simp [intOf]; omega⟩
        · obtain rfl : k = d.n2 := by omega
          have hd := all_done HL.out (a := (true, (0 : Int))) (fun j hj => by simp [hj]) NH.out.l1
          subst hd
          go_wp2_with fail
          go_loopw [38] (fun i w2 => ∃ (k : Nat) (L2 : List Bool), k ≤ d.n3 ∧ i = .int .i64 k ∧ (∀ j, j < d.n3 → L2[j]? = some (decide (j < k))) ∧ NewB w w2 g0 g1 g2 g3 d.n0 d.n2 d.n3 (List.replicate d.n2 (true, 0)) L2) (fun i _ => d.n3 - (intOf i).toNat)
          case atStart => exact ⟨0, _, Nat.zero_le _, rfl, fun j hj => by simp [hj], NH.out⟩
          case round =>
            clear NH HL hC
            obtain ⟨k, L2, hk, rfl, hL, N⟩ := hrel
            have NH := Lib.hid N
            have HL := Lib.hid hL
            have hC := N.S.C
            have hD := N.O.C
            have hF := N.O.F
            clear N hL
            by_cases hlt : k < d.n3
            · have q := (NH.out.r2.cellAt k (by omega)).trans (devCs_at L2 (by rw [NH.out.l2]; exact hlt))
              have hfr := NH.out.r2.frozenAt k
              go_wp2
              exact ⟨⟨k + 1, _, by omega, by go_num, all_set2 HL.out NH.out.l2 hlt, NH.out.put2 d02 d12 d23 f2 hlt⟩, by simp [intOf]; omega⟩
            · obtain rfl : k = d.n3 := by omega
              have hd := all_done HL.out (a := true) (fun j hj => by simp [hj]) NH.out.l2
              subst hd
              go_wp2
              have he : newS d = ⟨0, false, 0, 0, 0, 0, List.replicate d.n0 (0, 0), List.replicate d.n2 (true, 0), List.replicate d.n3 true, [], 0, 0⟩ := by unfold newS; rw [if_pos HOK.out]; rfl
              refine bodyPost_ret (v := .agg (stC (some ⟨g0, 0, none⟩) (some ⟨g1, 0, none⟩) (some ⟨g2, 0, none⟩) none d.n0 d.n0 d.n2 d.n2 d.n3 d.n3 0 0 0 false 0 0 0 0 0 0)) ?_ rfl ⟨_, rfl, ?_, ?_⟩
              · simp [results, Tryz.results57, go_sem, hD]
              · rw [he]
                refine ⟨_, _, _, _, rfl, ?_, ?_, ?_, ?_⟩
                · refine ownsRow_base (base := w.heap.size + 2) ?_ (by omega)
                  iterate 12 (refine ownsRow_setCell_below ?_ (by simp) _)
                  simpa using NH.out.r0
                · refine ownsRow_base (base := w.heap.size + 2) ?_ (by omega)
                  iterate 12 (refine ownsRow_setCell_below ?_ (by simp) _)
                  simpa using NH.out.r1
                · refine ownsRow_base (base := w.heap.size + 2) ?_ (by omega)
                  iterate 12 (refine ownsRow_setCell_below ?_ (by simp) _)
                  simpa using NH.out.r2
                · exact World.ownsRow_nil _ _ _ _
              · iterate 12 (refine Below.setCell ?_ (by simp) _)
                exact NH.out.O.K
end Go.Proofs.YtkefbmbjkijilaaGreatDoor
