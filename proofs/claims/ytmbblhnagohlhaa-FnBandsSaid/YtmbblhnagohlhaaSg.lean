/-
  BandTime and WholeTime: the program's and the model's, each answers the same.
-/
import Derived.Test.YtmbblhnagohlhaaSf
import Derived.RegionTactic
import Derived.BigRegion
import Derived.Deep.RegionLaw
set_option linter.unusedVariables false
namespace Go.Proofs.Ytmbblhnagohlhaa
open Go.RowKit

theorem planOk_two {d : PlanD} (h : planOkB d = true) {i : Nat} (hi : i < d.n0) : (0 ≤ d.x0 (i * 4 + 3) ∧ d.x0 (i * 4 + 3) ≤ 500) ∧ (0 ≤ d.x0 (i * 4 + 2) ∧ d.x0 (i * 4 + 2) ≤ 500) := by
  have := planOk_pods h i hi
  simp only [podB, Bool.and_eq_true, inB_true] at this
  exact ⟨this.2, this.1.2⟩
/-- The greatest time of the first k, without the four. -/
def longest (d : PlanD) (L : List Int) (k : Nat) : Int := if k = 0 then 0 else most d (L.take k) - 4
theorem most_none (d : PlanD) (L : List Int) : most d (L.take 0) = 0 := by simp [most]
theorem longest_step {d : PlanD} {L : List Int} {k : Nat} {t : Int} (hk : k < L.length) (ht : t + 4 = timeOf d (L.getD k 0).toNat) (h0 : 0 ≤ t) : max (longest d L k) t = longest d L (k + 1) := by
  have e := most_succ (d := d) hk
  rw [← ht] at e
  have e2 : longest d L (k + 1) = max (most d (L.take k)) (t + 4) - 4 := by rw [longest, if_neg (by omega), e]
  rw [e2]
  unfold longest
  by_cases h : k = 0
  · subst h
    rw [if_pos rfl, most_none]
    omega
  · rw [if_neg h]
    omega
theorem longest_bound {d : PlanD} (h : planOkB d = true) (b : Int) (k : Nat) : -4 ≤ longest d (podsL d b) k ∧ longest d (podsL d b) k ≤ 1000 := by
  have := most_bound h b k
  unfold longest
  split <;> omega

set_option maxRecDepth 100000 in
set_option maxHeartbeats 2000000 in
theorem implTime_any (v : Value) (d : PlanD) (b : Int) (w : World) (h : IsPlan w w.heap.size v d) (hn : d.n0 ≤ 1048576) :
    Calls Try.prog 15 #[v, .int .i64 b] w fun e w' => e = .returned (.int .i64 (bandT d b)) ∧ Below w.heap.size w w' := by
  have P := Lib.hid h
  have HN := Lib.hid hn
  obtain ⟨⟨A0, A1, A2, A3, c0, c1, c2, c3, rfl, s0, s1, s2, s3⟩, b0, b1, b2, b3⟩ := h
  have S := Lib.hid s0
  have B := Lib.hid b0
  clear s0 s1 s2 s3 b0 b1 b2 b3 hn
  go_enter Try.func15, Try.ntmps15
  go_wp2_with fail
  have X1 := Own.box w (planC A0 A1 A2 A3 d.n0 c0 d.n1 c1 d.n2 c2 d.n3 c3 d.l d.p d.t) 29
  refine (planOk_any _ d _ ((P.out.below X1.K (Nat.le_refl _)).more X1.K.size)).mono ?_
  rintro e w2 ⟨rfl, hb⟩
  have X2 := X1.step hb
  clear X1 hb
  have hC := X2.C
  cases hq : planOkB d
  · have HF := Lib.hid (show bandT d b = -1 by rw [bandT, if_neg (by rw [hq]; decide)])
    clear hq
    go_wp2
    go_ret
    exact ⟨ret_int HF.out.symm, X2.K⟩
  · have HQ := Lib.hid hq
    clear hq
    go_wp2_with fail
    refine (implPods_any _ d b _ ((P.out.below X2.K (Nat.le_refl _)).more X2.K.size) HN.out).mono ?_
    rintro e w3 ⟨v', rfl, O3, hb⟩
    have X3 := X2.step hb
    obtain ⟨A, c, g, rfl, hA, hg, hgl, R⟩ := open_list O3
    have HA := Lib.hid hA
    have HG := Lib.hid hgl
    have hle := podsL_le d b
    have h12 := (planOk_lock HQ.out).2.2.1
    have HF := Lib.hid (show bandT d b = most d (podsL d b) by rw [bandT, if_pos HQ.out])
    have HB := Lib.hid (fun k => longest_bound HQ.out b k)
    have HX := Lib.hid (fun j hj => podsL_at (d := d) (b := b) (j := j) hj)
    clear hb O3 X2 hA hg hgl hC
    generalize podsL d b = L at *
    have HR := Lib.hid R
    clear R
    have hC := X3.C
    by_cases h0 : L.length = 0
    · have hL : L = [] := List.eq_nil_of_length_eq_zero h0
      go_wp2
      go_ret
      exact ⟨ret_int (by rw [HF.out, hL]; rfl), X3.K⟩
    · go_wp2
      go_loopw [6, 20] (fun m i wr => ∃ k : Nat, k ≤ L.length ∧ i = .int .i64 k ∧ m = .int .i64 (longest d L k) ∧ Own w wr w.heap.size (planC A0 A1 A2 A3 d.n0 c0 d.n1 c1 d.n2 c2 d.n3 c3 d.l d.p d.t) ∧ Below w3.heap.size w3 wr) (fun _ i _ => L.length - (intOf i).toNat)
      case atStart => exact ⟨0, Nat.zero_le _, rfl, rfl, X3, Below.refl _ _⟩
      case round =>
        clear X3 hC
        obtain ⟨k, hk, rfl, rfl, X, K⟩ := hrel
        have hC := X.C
        by_cases hlt : k < L.length
        · obtain rfl := HA.out (by omega)
          obtain ⟨t0, f0⟩ : wr.cell? ⟨g, k, none⟩ = some (.int .i64 (L.getD k 0)) ∧ wr.frozen? ⟨g, k, none⟩ = false := HR.out.go HG.out K k hlt
          obtain ⟨i, hi, hx, -⟩ := HX.out k hlt
          have ht : timeOf d (L.getD k 0).toNat = d.x0 (i * 4 + 3) + d.x0 (i * 4 + 2) + 4 := by rw [hx, Int.toNat_natCast]; rfl
          rw [hx] at t0
          have h2 := planOk_two HQ.out hi
          have HS := Lib.hid (longest_step (d := d) (t := d.x0 (i * 4 + 3) + d.x0 (i * 4 + 2)) hlt ht.symm (by omega))
          have HT := Lib.hid (timeOfPod_any A0 A1 A2 A3 d.n0 c0 d.n1 c1 d.n2 c2 d.n3 c3 d.l d.p d.t d.x0 i wr (S.out.own X) hi B.out h2.1 h2.2)
          clear ht hx h2
          go_wp2_with (go_at_call 36; refine HT.out.mono ?_; rintro e w4 ⟨rfl, hb4⟩)
          all_goals exact ⟨⟨_, _, _, ⟨k + 1, by omega, rfl, rfl, X.step hb4, K.trans (hb4.mono K.size)⟩, congrArg _ (by have := HS.out; omega), rfl, by go_num⟩, by simp [intOf]; omega⟩
        · obtain rfl : k = L.length := by omega
          have hbd := HB.out L.length
          have HE := Lib.hid (show longest d L L.length + 4 = most d L by unfold longest; rw [if_neg h0, List.take_length]; omega)
          generalize longest d L L.length = m at *
          go_wp2
          go_ret
          exact ⟨ret_int (by rw [HF.out, ← HE.out]), X.K⟩

set_option maxRecDepth 100000 in
set_option maxHeartbeats 2000000 in
theorem specTime_any (v : Value) (d : PlanD) (b : Int) (w : World) (h : IsPlan w w.heap.size v d) (hn : d.n0 ≤ 1048576) :
    Calls Try.prog 19 #[v, .int .i64 b] w fun e w' => e = .returned (.int .i64 (bandT d b)) ∧ Below w.heap.size w w' := by
  have P := Lib.hid h
  have HN := Lib.hid hn
  obtain ⟨⟨A0, A1, A2, A3, c0, c1, c2, c3, rfl, s0, s1, s2, s3⟩, b0, b1, b2, b3⟩ := h
  have S := Lib.hid s0
  have B := Lib.hid b0
  clear s0 s1 s2 s3 b0 b1 b2 b3 hn
  go_enter Try.func19, Try.ntmps19
  go_wp2_with fail
  have X1 := Own.box w (planC A0 A1 A2 A3 d.n0 c0 d.n1 c1 d.n2 c2 d.n3 c3 d.l d.p d.t) 29
  refine (spec_planOk_any _ d _ ((P.out.below X1.K (Nat.le_refl _)).more X1.K.size)).mono ?_
  rintro e w2 ⟨rfl, hb⟩
  have X2 := X1.step hb
  clear X1 hb
  have hC := X2.C
  cases hq : planOkB d
  · have HF := Lib.hid (show bandT d b = -1 by rw [bandT, if_neg (by rw [hq]; decide)])
    clear hq
    go_wp2
    go_ret
    exact ⟨ret_int HF.out.symm, X2.K⟩
  · have HQ := Lib.hid hq
    clear hq
    go_wp2_with fail
    refine (specPods_any _ d b _ ((P.out.below X2.K (Nat.le_refl _)).more X2.K.size) HN.out).mono ?_
    rintro e w3 ⟨v', rfl, O3, hb⟩
    have X3 := X2.step hb
    obtain ⟨A, c, g, rfl, hA, hg, hgl, R⟩ := open_list O3
    have HA := Lib.hid hA
    have HG := Lib.hid hgl
    have hle := podsL_le d b
    have h12 := (planOk_lock HQ.out).2.2.1
    have HF := Lib.hid (show bandT d b = most d (podsL d b) by rw [bandT, if_pos HQ.out])
    have HB := Lib.hid (fun k => most_bound HQ.out b k)
    have HX := Lib.hid (fun j hj => podsL_at (d := d) (b := b) (j := j) hj)
    clear hb O3 X2 hA hg hgl hC
    generalize podsL d b = L at *
    have HR := Lib.hid R
    clear R
    have hC := X3.C
    go_wp2
    go_loopw [5, 7] (fun m i wr => ∃ k : Nat, k ≤ L.length ∧ i = .int .i64 k ∧ m = .int .i64 (most d (L.take k)) ∧ Own w wr w.heap.size (planC A0 A1 A2 A3 d.n0 c0 d.n1 c1 d.n2 c2 d.n3 c3 d.l d.p d.t) ∧ Below w3.heap.size w3 wr) (fun _ i _ => L.length - (intOf i).toNat)
    case atStart => exact ⟨0, Nat.zero_le _, rfl, by rw [most_none], X3, Below.refl _ _⟩
    case round =>
      clear X3 hC
      obtain ⟨k, hk, rfl, rfl, X, K⟩ := hrel
      have hC := X.C
      by_cases hlt : k < L.length
      · obtain rfl := HA.out (by omega)
        obtain ⟨t0, f0⟩ : wr.cell? ⟨g, k, none⟩ = some (.int .i64 (L.getD k 0)) ∧ wr.frozen? ⟨g, k, none⟩ = false := HR.out.go HG.out K k hlt
        obtain ⟨i, hi, hx, -⟩ := HX.out k hlt
        have ht : timeOf d (L.getD k 0).toNat = d.x0 (i * 4 + 3) + d.x0 (i * 4 + 2) + 4 := by rw [hx, Int.toNat_natCast]; rfl
        rw [hx] at t0
        have h2 := planOk_two HQ.out hi
        have HS := Lib.hid ((most_succ (d := d) hlt).trans (by rw [ht]))
        obtain ⟨b', off, rfl, hb', q0, q1, q2, q3⟩ := (S.out.own X).cell4 hi
        clear ht hx
        generalize most d (L.take k) = m at *
        go_wp2_with fail
        go_quiet (first | (go_at_call 40; exact Calls.quiet_of_same ((max_any _ _ _).mono fun e w' h => ⟨h.1, h.2.symm⟩)))
        go_wp2
        exact ⟨⟨k + 1, by omega, by go_num, congrArg _ HS.out.symm, X.drewN _, below_drewN K _⟩, by simp [intOf]; omega⟩
      · obtain rfl : k = L.length := by omega
        go_wp2
        go_ret
        exact ⟨ret_int (by rw [HF.out, List.take_length]), X.K⟩
end Go.Proofs.Ytmbblhnagohlhaa
