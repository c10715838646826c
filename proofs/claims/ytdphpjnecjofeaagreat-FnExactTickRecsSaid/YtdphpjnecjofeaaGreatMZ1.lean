/-
  The program's own small readers of chapter 1: a pod's group, a mount's parent, a mount's pod.
-/
import Derived.Test.YtdphpjnecjofeaaGreatMZ0
import Derived.StillTailTactics
/- Pd -/
set_option linter.unusedVariables false
namespace Go.Proofs.YtdphpjnecjofeaaGreat
open Go.RowKit

abbrev planC (A0 A1 A2 A3 : Option Addr) (n0 c0 n1 c1 n2 c2 n3 c3 : Nat) (l p t : Int) : Array Value :=
  #[.slice A0 n0 c0, .slice A1 n1 c1, .slice A2 n2 c2, .slice A3 n3 c3, .int .i64 l, .int .i64 p, .int .i64 t]

set_option maxHeartbeats 1000000 in
theorem l1Pods_any (A0 A1 A2 A3 : Option Addr) (n0 c0 n1 c1 n2 c2 n3 c3 : Nat) (l p t : Int) (x0 : Nat → Int) (w : World)
    (s0 : Sl w w.heap.size 4 A0 n0 x0) (b0 : n0 ≤ maxLen) (b1 : n1 ≤ maxLen) :
    Calls Tryz.prog 80 #[planV A0 A1 A2 A3 n0 c0 n1 c1 n2 c2 n3 c3 l p t] w fun e w' =>
      e = .returned (.bool (allB n0 (podB n1 x0) && decide (n0 ≤ 12))) ∧ Below w.heap.size w w' := by
  unfold maxLen at b0 b1
  have S0 := Lib.hid s0
  clear s0
  go_enter Tryz.func80, Tryz.ntmps80
  go_wp2
  go_loopw [3] (fun i wr => ∃ k : Nat, k ≤ n0 ∧ i = .int .i64 k ∧ (∀ j, j < k → podB n1 x0 j = true) ∧ Own w wr w.heap.size (planC A0 A1 A2 A3 n0 c0 n1 c1 n2 c2 n3 c3 l p t)) (fun i _ => n0 - (intOf i).toNat)
  case atStart => exact ⟨0, Nat.zero_le _, rfl, fun j hj => absurd hj (by omega), Own.box w _ _⟩
  case round =>
    obtain ⟨k, hk, rfl, hall, X⟩ := hrel
    have HA := Lib.hid hall
    clear hall
    have hC := X.C
    have hz := X.z
    by_cases hlt : k < n0
    · obtain ⟨b, off, rfl, hb, q0, q1, q2, q3⟩ := (S0.out.own X).cell4 hlt
      go_wp2_with (go_at_call 54; refine (in_any _ _ _ _).mono ?_; rintro e w' ⟨rfl, rfl⟩)
      all_goals first
        | (refine ⟨⟨k + 1, by omega, by go_num, step_all HA.out (by simp_all [podB]), X.alloc _⟩, by simp [intOf]; omega⟩)
        | (go_ret; exact ⟨ret_bool (by rw [allB_false hlt (by simp_all [podB])]; rfl), (X.alloc _).K⟩)
    · obtain rfl : k = n0 := by omega
      go_wp2
      go_ret
      exact ⟨ret_bool (by rw [allB_true.2 HA.out, Bool.eq_iff_iff]; simp; omega), X.K⟩

set_option maxHeartbeats 1000000 in
theorem l1Mounts_any (A0 A1 A2 A3 : Option Addr) (n0 c0 n1 c1 n2 c2 n3 c3 : Nat) (l p t : Int) (x2 x3 : Nat → Int) (w : World)
    (s2 : Sl w w.heap.size 2 A2 n2 x2) (s3 : Sl w w.heap.size 1 A3 n3 x3) (b0 : n0 ≤ maxLen) (b2 : n2 ≤ maxLen) (b3 : n3 ≤ maxLen) :
    Calls Tryz.prog 81 #[planV A0 A1 A2 A3 n0 c0 n1 c1 n2 c2 n3 c3 l p t] w fun e w' =>
      e = .returned (.bool (allB n2 (mountB n0 x2) && allB n3 (deviceB n2 x3) && decide (n2 ≤ 12) && decide (n3 ≤ 12))) ∧ Below w.heap.size w w' := by
  unfold maxLen at b0 b2 b3
  have S2 := Lib.hid s2
  have S3 := Lib.hid s3
  clear s2 s3
  go_enter Tryz.func81, Tryz.ntmps81
  go_wp2
  go_loopw [3] (fun i wr => ∃ k : Nat, k ≤ n2 ∧ i = .int .i64 k ∧ (∀ j, j < k → mountB n0 x2 j = true) ∧ Own w wr w.heap.size (planC A0 A1 A2 A3 n0 c0 n1 c1 n2 c2 n3 c3 l p t)) (fun i _ => n2 - (intOf i).toNat)
  case atStart => exact ⟨0, Nat.zero_le _, rfl, fun j hj => absurd hj (by omega), Own.box w _ _⟩
  case round =>
    obtain ⟨k, hk, rfl, hall, X⟩ := hrel
    have HA := Lib.hid hall
    clear hall
    have hC := X.C
    have hz := X.z
    by_cases hlt : k < n2
    · obtain ⟨b, off, rfl, hb, q0, q1⟩ := (S2.out.own X).cell2 hlt
      cases hp : inB (x2 (k * 2)) 0 (n0 - 1)
      all_goals
        go_wp2_with fail
        go_quiet ((go_at_call 54; exact Calls.quiet_of_same ((in_any _ _ _ _).mono fun e w' h => ⟨h.1, h.2.symm⟩)))
        go_wp2
        all_goals first
          | (refine ⟨⟨k + 1, by omega, by go_num, step_all HA.out (by simp_all [mountB]), X.drewN _⟩, by simp [intOf]; omega⟩)
          | (go_ret; exact ⟨ret_bool (by rw [allB_false hlt (by simp_all [mountB])]; rfl), (X.drewN _).K⟩)
    · obtain rfl : k = n2 := by omega
      have HA2 := Lib.hid (allB_true.2 HA.out)
      clear HA hk hlt
      go_wp2
      go_loopw [4] (fun i wr => ∃ m : Nat, m ≤ n3 ∧ i = .int .i64 m ∧ (∀ j, j < m → deviceB k x3 j = true) ∧ Own w wr w.heap.size (planC A0 A1 A2 A3 n0 c0 n1 c1 k c2 n3 c3 l p t)) (fun i _ => n3 - (intOf i).toNat)
      case atStart => exact ⟨0, Nat.zero_le _, rfl, fun j hj => absurd hj (by omega), X⟩
      case round =>
        clear hC hz X
        obtain ⟨m, hm, rfl, hall, X⟩ := hrel
        have HA := Lib.hid hall
        clear hall
        have hC := X.C
        have hz := X.z
        by_cases hlt : m < n3
        · obtain ⟨b, off, rfl, hb, q0⟩ := (S3.out.own X).cell1 hlt
          go_wp2_with fail
          go_quiet ((go_at_call 54; exact Calls.quiet_of_same ((in_any _ _ _ _).mono fun e w' h => ⟨h.1, h.2.symm⟩)))
          go_wp2
          all_goals first
            | (refine ⟨⟨m + 1, by omega, by go_num, step_all HA.out (by simp_all [deviceB]), X.drewN _⟩, by simp [intOf]; omega⟩)
            | (go_ret; exact ⟨ret_bool (by rw [allB_false hlt (by simp_all [deviceB])]; simp), (X.drewN _).K⟩)
        · obtain rfl : m = n3 := by omega
          have HB := Lib.hid (allB_true.2 HA.out)
          clear HA hm hlt
          go_wp2
          all_goals (go_ret; refine ⟨ret_bool ?_, X.K⟩)
          all_goals (rw [HA2.out, HB.out, Bool.eq_iff_iff]; simp; omega)

set_option maxHeartbeats 1000000 in
theorem spec_planOk_any (v : Value) (d : PlanD) (w : World) (h : IsPlan w w.heap.size v d) :
    Calls Tryz.prog 53 #[v] w fun e w' => e = .returned (.bool (planOkB d)) ∧ Below w.heap.size w w' := by
  obtain ⟨⟨A0, A1, A2, A3, c0, c1, c2, c3, rfl, s0, s1, s2, s3⟩, b0, b1, b2, b3⟩ := h
  obtain ⟨n0, n1, n2, n3, x0, x1, x2, x3, l, p, t⟩ := d
  dsimp only at *
  have S0 := Lib.hid s0
  have S1 := Lib.hid s1
  have S2 := Lib.hid s2
  have S3 := Lib.hid s3
  have B0 := Lib.hid b0
  have B2 := Lib.hid b2
  have B3 := Lib.hid b3
  clear s0 s1 s2 s3 b0 b2 b3
  have B1 := Lib.hid b1
  unfold maxLen at b1
  go_enter Tryz.func53, Tryz.ntmps53
  go_wp2
  go_loopw [3] (fun i wr => ∃ k : Nat, k ≤ n1 ∧ i = .int .i64 k ∧ (∀ j, j < k → minB x1 j = true) ∧ Own w wr w.heap.size (planC A0 A1 A2 A3 n0 c0 n1 c1 n2 c2 n3 c3 l p t)) (fun i _ => n1 - (intOf i).toNat)
  case atStart => exact ⟨0, Nat.zero_le _, rfl, fun j hj => absurd hj (by omega), Own.box w _ _⟩
  case round =>
    obtain ⟨k, hk, rfl, hall, X⟩ := hrel
    have HA := Lib.hid hall
    clear hall
    have hC := X.C
    have hz := X.z
    by_cases hlt : k < n1
    · obtain ⟨b, off, rfl, hb, q0⟩ := (S1.out.own X).cell1 hlt
      go_wp2_with (go_at_call 54; refine (in_any _ _ _ _).mono ?_; rintro e w' ⟨rfl, rfl⟩)
      all_goals first
        | (refine ⟨⟨k + 1, by omega, by go_num, step_all HA.out (by simp_all [minB]), X⟩, by simp [intOf]; omega⟩)
        | (go_ret; exact ⟨ret_bool (by simp [planOkB, allB_false hlt (show minB x1 k = false by simp_all [minB])]), X.K⟩)
    · obtain rfl : k = n1 := by omega
      have HB := Lib.hid (allB_true.2 HA.out)
      clear HA hk hlt
      go_wp2_with (first
        | (go_at_call 54; refine (in_any _ _ _ _).mono ?_; rintro e w' ⟨rfl, rfl⟩)
        | (go_at_call 80; refine (l1Pods_any A0 A1 A2 A3 n0 c0 k c1 n2 c2 n3 c3 l p t x0 _ (S0.out.own X) B0.out B1.out).mono ?_; rintro e w2 ⟨rfl, hb2⟩; have X2 := X.step hb2; have hC2 := X2.C; clear hb2)
        | (go_at_call 81; refine (l1Mounts_any A0 A1 A2 A3 n0 c0 k c1 n2 c2 n3 c3 l p t x2 x3 _ (S2.out.own X2) (S3.out.own X2) B0.out B2.out B3.out).mono ?_; rintro e w3 ⟨rfl, hb3⟩; have X3 := X2.step hb3; have hC3 := X3.C; clear hb3))
      all_goals (go_ret; refine ⟨ret_bool ?_, by first | exact X3.K | exact X2.K | exact X.K⟩)
      all_goals (have hB := HB.out; clear HB hC X; rw [Bool.eq_iff_iff]; simp only [planOkB, sizesB, timesB, hB, Bool.and_eq_true, decide_eq_true_eq]; grind)
end Go.Proofs.YtdphpjnecjofeaaGreat
/- Pe -/
set_option linter.unusedVariables false
namespace Go.Proofs.YtdphpjnecjofeaaGreat
open Go.RowKit
set_option maxHeartbeats 400000 in
theorem toPod_any (a b c d : Int) (w : World) :
    Calls Tryz.prog 59 #[.agg #[.int .i64 a, .int .i64 b, .int .i64 c, .int .i64 d]] w fun e w' =>
      e = .returned (.agg #[.int .i64 a, .int .i64 b, .int .i64 c, .int .i64 d]) ∧ Below w.heap.size w w' := by
  go_enter Tryz.func59, Tryz.ntmps59
  go_wp2
  exact bodyPost_ret (v := .agg #[.int .i64 a, .int .i64 b, .int .i64 c, .int .i64 d]) (by simp [results, Tryz.results59, go_sem]) rfl ⟨rfl, (((Below.refl _ _).alloc (Nat.le_refl _) _).alloc (by simp) _).alloc (by simp; omega) _⟩
set_option maxHeartbeats 400000 in
theorem toMount_any (a b : Int) (w : World) :
    Calls Tryz.prog 60 #[.agg #[.int .i64 a, .int .i64 b]] w fun e w' =>
      e = .returned (.agg #[.int .i64 a, .int .i64 b]) ∧ Below w.heap.size w w' := by
  go_enter Tryz.func60, Tryz.ntmps60
  go_wp2
  exact bodyPost_ret (v := .agg #[.int .i64 a, .int .i64 b]) (by simp [results, Tryz.results60, go_sem]) rfl ⟨rfl, (((Below.refl _ _).alloc (Nat.le_refl _) _).alloc (by simp) _).alloc (by simp; omega) _⟩
set_option maxHeartbeats 400000 in
theorem toDevice_any (a : Int) (w : World) :
    Calls Tryz.prog 61 #[.agg #[.int .i64 a]] w fun e w' =>
      e = .returned (.agg #[.int .i64 a]) ∧ Below w.heap.size w w' := by
  go_enter Tryz.func61, Tryz.ntmps61
  go_wp2
  exact bodyPost_ret (v := .agg #[.int .i64 a]) (by simp [results, Tryz.results61, go_sem]) rfl ⟨rfl, (((Below.refl _ _).alloc (Nat.le_refl _) _).alloc (by simp) _).alloc (by simp; omega) _⟩
set_option maxHeartbeats 400000 in
theorem eqPod_same (a b c d : Int) (w : World) :
    Calls Tryz.prog 75 #[.agg #[.int .i64 a, .int .i64 b, .int .i64 c, .int .i64 d], .agg #[.int .i64 a, .int .i64 b, .int .i64 c, .int .i64 d]] w fun e w' =>
      e = .returned (.bool true) ∧ Below w.heap.size w w' := by
  go_enter Tryz.func75, Tryz.ntmps75
  go_wp2
  go_ret
  exact ⟨rfl, ((Below.refl _ _).alloc (Nat.le_refl _) _).alloc (by simp) _⟩
set_option maxHeartbeats 400000 in
theorem eqMount_same (a b : Int) (w : World) :
    Calls Tryz.prog 76 #[.agg #[.int .i64 a, .int .i64 b], .agg #[.int .i64 a, .int .i64 b]] w fun e w' =>
      e = .returned (.bool true) ∧ Below w.heap.size w w' := by
  go_enter Tryz.func76, Tryz.ntmps76
  go_wp2
  go_ret
  exact ⟨rfl, ((Below.refl _ _).alloc (Nat.le_refl _) _).alloc (by simp) _⟩
set_option maxHeartbeats 400000 in
theorem eqDevice_same (a : Int) (w : World) :
    Calls Tryz.prog 77 #[.agg #[.int .i64 a], .agg #[.int .i64 a]] w fun e w' =>
      e = .returned (.bool true) ∧ Below w.heap.size w w' := by
  go_enter Tryz.func77, Tryz.ntmps77
  go_wp2
  go_ret
  exact ⟨rfl, ((Below.refl _ _).alloc (Nat.le_refl _) _).alloc (by simp) _⟩

theorem info_pod : (Tryz.prog.info? 97).map (fun i => (i.zero, i.size, i.bytes)) = some (some (.agg #[.int .i64 0, .int .i64 0, .int .i64 0, .int .i64 0]), 4, 32) := by kernel_rfl
theorem info_i64 : (Tryz.prog.info? 2).map (fun i => (i.zero, i.size, i.bytes)) = some (some (.int .i64 0), 1, 8) := by kernel_rfl
theorem info_mount : (Tryz.prog.info? 101).map (fun i => (i.zero, i.size, i.bytes)) = some (some (.agg #[.int .i64 0, .int .i64 0]), 2, 16) := by kernel_rfl
theorem info_device : (Tryz.prog.info? 105).map (fun i => (i.zero, i.size, i.bytes)) = some (some (.agg #[.int .i64 0]), 1, 8) := by kernel_rfl

set_option maxHeartbeats 1000000 in
theorem toPodS_any (A : Option Addr) (n c : Nat) (x : Nat → Int) (w : World) (s : Sl w w.heap.size 4 A n x) (hn : n ≤ 1048576) :
    Calls Tryz.prog 27 #[.slice A n c] w (Made w (n * 4) n x) := by
  have S := Lib.hid s
  clear s
  obtain ⟨i0, hi, hz0, hz1, hz2⟩ := info_parts info_pod
  have HN := Lib.hid hn
  have hn' : n ≤ 2 ^ 63 - 1 := by omega
  clear hn
  go_enter Tryz.func27, Tryz.ntmps27
  go_wp2_with (at_make; refine wpList_make_full _ rfl _ _ 38 rfl w.heap.size 97 i0 (.agg #[.int .i64 0, .int .i64 0, .int .i64 0, .int .i64 0]) 4 Tryz.underlying38 hi hz0 hz1 _ _ _ _ n rfl rfl rfl rfl ?b2 ?b3 (Nat.le_refl _) ?_)
  case b2 => have := HN.out; rw [hz2]; omega
  case b3 => have := HN.out; unfold maxLen; omega
  intro w1 hown hgrow
  have X : Copying w w1 (n * 4) 0 x := ⟨(Below.refl _ _).grown hgrow (Nat.le_refl _) (fun k hk => by cases hk), (hown.lt _ rfl).2, _, made_row (by omega) rfl hown, fun j hj => absurd hj (by omega)⟩
  clear hown hgrow hz0 hz1 hz2 hi
  go_wp2
  go_loopw [4] (fun i wr => ∃ k : Nat, k ≤ n ∧ i = .int .i64 k ∧ Copying w wr (n * 4) (k * 4) x) (fun i _ => n - (intOf i).toNat)
  case atStart => exact ⟨0, Nat.zero_le _, rfl, by simpa using X⟩
  case round =>
    clear X
    obtain ⟨k, hk, rfl, X⟩ := hrel
    by_cases hlt : k < n
    · obtain ⟨b, off, rfl, hb, q0, q1, q2, q3⟩ := ((S.out.below X.K (Nat.le_refl _)).more X.K.size).cell4 hlt
      go_wp2_with (go_at_call 59; refine (toPod_any _ _ _ _ _).mono ?_; rintro e w2 ⟨rfl, hb2⟩; have X2 := X.step hb2; obtain ⟨v0, t0, f0⟩ := X2.at_ (j := k * 4) (by omega); obtain ⟨v1, t1, f1⟩ := X2.at_ (j := k * 4 + 1) (by omega); obtain ⟨v2, t2, f2⟩ := X2.at_ (j := k * 4 + 2) (by omega); obtain ⟨v3, t3, f3⟩ := X2.at_ (j := k * 4 + 3) (by omega); clear hb2)
      refine ⟨⟨k + 1, by omega, by go_num, ?_⟩, by simp [intOf]; omega⟩
      have e : (k + 1) * 4 = k * 4 + 1 + 1 + 1 + 1 := by omega
      rw [e]
      exact X2.set.set.set.set
    · obtain rfl : k = n := by omega
      go_wp2
      go_ret
      exact X.made

set_option maxHeartbeats 1000000 in
theorem toMountS_any (A : Option Addr) (n c : Nat) (x : Nat → Int) (w : World) (s : Sl w w.heap.size 2 A n x) (hn : n ≤ 1048576) :
    Calls Tryz.prog 29 #[.slice A n c] w (Made w (n * 2) n x) := by
  have S := Lib.hid s
  clear s
  obtain ⟨i0, hi, hz0, hz1, hz2⟩ := info_parts info_mount
  have HN := Lib.hid hn
  have hn' : n ≤ 2 ^ 63 - 1 := by omega
  clear hn
  go_enter Tryz.func29, Tryz.ntmps29
  go_wp2_with (at_make; refine wpList_make_full _ rfl _ _ 39 rfl w.heap.size 101 i0 (.agg #[.int .i64 0, .int .i64 0]) 2 Tryz.underlying39 hi hz0 hz1 _ _ _ _ n rfl rfl rfl rfl ?b2 ?b3 (Nat.le_refl _) ?_)
  case b2 => have := HN.out; rw [hz2]; omega
  case b3 => have := HN.out; unfold maxLen; omega
  intro w1 hown hgrow
  have X : Copying w w1 (n * 2) 0 x := ⟨(Below.refl _ _).grown hgrow (Nat.le_refl _) (fun k hk => by cases hk), (hown.lt _ rfl).2, _, made_row (by omega) rfl hown, fun j hj => absurd hj (by omega)⟩
  clear hown hgrow hz0 hz1 hz2 hi
  go_wp2
  go_loopw [4] (fun i wr => ∃ k : Nat, k ≤ n ∧ i = .int .i64 k ∧ Copying w wr (n * 2) (k * 2) x) (fun i _ => n - (intOf i).toNat)
  case atStart => exact ⟨0, Nat.zero_le _, rfl, by simpa using X⟩
  case round =>
    clear X
    obtain ⟨k, hk, rfl, X⟩ := hrel
    by_cases hlt : k < n
    · obtain ⟨b, off, rfl, hb, q0, q1⟩ := ((S.out.below X.K (Nat.le_refl _)).more X.K.size).cell2 hlt
      go_wp2_with (go_at_call 60; refine (toMount_any _ _ _).mono ?_; rintro e w2 ⟨rfl, hb2⟩; have X2 := X.step hb2; obtain ⟨v0, t0, f0⟩ := X2.at_ (j := k * 2) (by omega); obtain ⟨v1, t1, f1⟩ := X2.at_ (j := k * 2 + 1) (by omega); clear hb2)
      refine ⟨⟨k + 1, by omega, by go_num, ?_⟩, by simp [intOf]; omega⟩
      have e : (k + 1) * 2 = k * 2 + 1 + 1 := by omega
      rw [e]
      exact X2.set.set
    · obtain rfl : k = n := by omega
      go_wp2
      go_ret
      exact X.made

set_option maxHeartbeats 1000000 in
theorem toDeviceS_any (A : Option Addr) (n c : Nat) (x : Nat → Int) (w : World) (s : Sl w w.heap.size 1 A n x) (hn : n ≤ 1048576) :
    Calls Tryz.prog 30 #[.slice A n c] w (Made w n n x) := by
  have S := Lib.hid s
  clear s
  obtain ⟨i0, hi, hz0, hz1, hz2⟩ := info_parts info_device
  have HN := Lib.hid hn
  have hn' : n ≤ 2 ^ 63 - 1 := by omega
  clear hn
  go_enter Tryz.func30, Tryz.ntmps30
  go_wp2_with (at_make; refine wpList_make_full _ rfl _ _ 40 rfl w.heap.size 105 i0 (.agg #[.int .i64 0]) 1 Tryz.underlying40 hi hz0 hz1 _ _ _ _ n rfl rfl rfl rfl ?b2 ?b3 (Nat.le_refl _) ?_)
  case b2 => have := HN.out; rw [hz2]; omega
  case b3 => have := HN.out; unfold maxLen; omega
  intro w1 hown hgrow
  have X : Copying w w1 n 0 x := ⟨(Below.refl _ _).grown hgrow (Nat.le_refl _) (fun k hk => by cases hk), (hown.lt _ rfl).2, _, made_row1 hown, fun j hj => absurd hj (by omega)⟩
  clear hown hgrow hz0 hz1 hz2 hi
  go_wp2
  go_loopw [4] (fun i wr => ∃ k : Nat, k ≤ n ∧ i = .int .i64 k ∧ Copying w wr n k x) (fun i _ => n - (intOf i).toNat)
  case atStart => exact ⟨0, Nat.zero_le _, rfl, by simpa using X⟩
  case round =>
    clear X
    obtain ⟨k, hk, rfl, X⟩ := hrel
    by_cases hlt : k < n
    · obtain ⟨b, off, rfl, hb, q0⟩ := ((S.out.below X.K (Nat.le_refl _)).more X.K.size).cell1 hlt
      go_wp2_with (go_at_call 61; refine (toDevice_any _ _).mono ?_; rintro e w2 ⟨rfl, hb2⟩; have X2 := X.step hb2; obtain ⟨v0, t0, f0⟩ := X2.at_ (j := k) (by omega); clear hb2)
      exact ⟨⟨k + 1, by omega, by go_num, X2.set⟩, by simp [intOf]; omega⟩
    · obtain rfl : k = n := by omega
      go_wp2
      go_ret
      exact X.made

set_option maxHeartbeats 1000000 in
theorem toInt64S_any (A : Option Addr) (n c : Nat) (x : Nat → Int) (w : World) (s : Sl w w.heap.size 1 A n x) (hn : n ≤ 1048576) :
    Calls Tryz.prog 28 #[.slice A n c] w (Made w n n x) := by
  have S := Lib.hid s
  clear s
  obtain ⟨i0, hi, hz0, hz1, hz2⟩ := info_parts info_i64
  have HN := Lib.hid hn
  have hn' : n ≤ 2 ^ 63 - 1 := by omega
  clear hn
  go_enter Tryz.func28, Tryz.ntmps28
  go_wp2_with (at_make; refine wpList_make_full _ rfl _ _ 23 rfl w.heap.size 2 i0 (.int .i64 0) 1 Tryz.underlying23 hi hz0 hz1 _ _ _ _ n rfl rfl rfl rfl ?b2 ?b3 (Nat.le_refl _) ?_)
  case b2 => have := HN.out; rw [hz2]; omega
  case b3 => have := HN.out; unfold maxLen; omega
  intro w1 hown hgrow
  have X : Copying w w1 n 0 x := ⟨(Below.refl _ _).grown hgrow (Nat.le_refl _) (fun k hk => by cases hk), (hown.lt _ rfl).2, _, made_row1 hown, fun j hj => absurd hj (by omega)⟩
  clear hown hgrow hz0 hz1 hz2 hi
  go_wp2
  go_loopw [4] (fun i wr => ∃ k : Nat, k ≤ n ∧ i = .int .i64 k ∧ Copying w wr n k x) (fun i _ => n - (intOf i).toNat)
  case atStart => exact ⟨0, Nat.zero_le _, rfl, by simpa using X⟩
  case round =>
    clear X
    obtain ⟨k, hk, rfl, X⟩ := hrel
    by_cases hlt : k < n
    · obtain ⟨b, off, rfl, hb, q0⟩ := ((S.out.below X.K (Nat.le_refl _)).more X.K.size).cell1 hlt
      obtain ⟨v0, t0, f0⟩ := X.at_ (j := k) (by omega)
      go_wp2
      exact ⟨⟨k + 1, by omega, by go_num, X.set⟩, by simp [intOf]; omega⟩
    · obtain rfl : k = n := by omega
      go_wp2
      go_ret
      exact X.made
end Go.Proofs.YtdphpjnecjofeaaGreat
/- Pf -/
set_option linter.unusedVariables false
namespace Go.Proofs.YtdphpjnecjofeaaGreat
open Go.RowKit

theorem RowF.far {w : World} {g N : Nat} {x : Nat → Int} (h : RowF w g N x) {p : Addr} (hne : p.block ≠ g) (v : Value) : RowF (w.setCell p v) g N x := fun j hj =>
  ⟨(World.cell?_setCell_other _ _ _ _ (fun e => hne (by rw [e]))).trans (h j hj).1, by rw [World.frozen?_setCell]; exact (h j hj).2⟩
theorem RowF.alloc {w : World} {g N : Nat} {x : Nat → Int} (h : RowF w g N x) (hg : g < w.heap.size) (o : Obj) : RowF (w.alloc o) g N x := h.below ((Below.refl _ _).alloc (Nat.le_refl _) o) hg
theorem RowF.sl {w : World} {g N k n B : Nat} {x : Nat → Int} (h : RowF w g N x) (hN : n * k ≤ N) (hg : g < B) : Sl w B k (some ⟨g, 0, none⟩) n x := fun _ =>
  ⟨g, 0, rfl, hg, fun j hj => by rw [Nat.zero_add]; exact (h j (by omega)).1⟩

/-- A plan of new memory. -/
structure NewPlan (w w' : World) (d : PlanD) (g0 g1 g2 g3 : Nat) : Prop where
  l0 : w.heap.size ≤ g0
  l1 : g0 < g1
  l2 : g1 < g2
  l3 : g2 < g3
  l4 : g3 < w'.heap.size
  R0 : RowF w' g0 (d.n0 * 4) d.x0
  R1 : RowF w' g1 d.n1 d.x1
  R2 : RowF w' g2 (d.n2 * 2) d.x2
  R3 : RowF w' g3 d.n3 d.x3
abbrev newPlanV (d : PlanD) (g0 g1 g2 g3 : Nat) : Value := planV (some ⟨g0, 0, none⟩) (some ⟨g1, 0, none⟩) (some ⟨g2, 0, none⟩) (some ⟨g3, 0, none⟩) d.n0 d.n0 d.n1 d.n1 d.n2 d.n2 d.n3 d.n3 d.l d.p d.t
def MadePlan (w : World) (d : PlanD) (e : Ending) (w' : World) : Prop :=
  ∃ g0 g1 g2 g3, e = .returned (newPlanV d g0 g1 g2 g3) ∧ NewPlan w w' d g0 g1 g2 g3 ∧ Below w.heap.size w w'

theorem heap_size_alloc_ (w : World) (o : Obj) : (w.alloc o).heap.size = w.heap.size + 1 := by simp

/-- The three blocks of a copy under way: what came in, the answer's cell, the copy. -/
structure TP (w w1 : World) (cs zs os : Array Value) : Prop where
  A : Own w w1 w.heap.size cs
  Z : Own w w1 (w.heap.size + 1) zs
  O : Own w w1 (w.heap.size + 1 + 1) os
theorem TP.start (w : World) (cs zs os : Array Value) (t t' t'' : TypeId) : TP w (((w.alloc (.cells cs t)).alloc (.cells zs t')).alloc (.cells os t'')) cs zs os := by
  have h1 := Own.box w cs t
  have h2 := Own.box2 h1.K zs t'
  have h3 := Own.box2 h2.K os t''
  simp only [heap_size_alloc_] at h2 h3
  exact ⟨(h1.alloc _).alloc _, h2.alloc _, h3⟩
theorem TP.step {w w1 w2 : World} {cs zs os : Array Value} (h : TP w w1 cs zs os) (hb : Below w1.heap.size w1 w2) : TP w w2 cs zs os := ⟨h.A.step hb, h.Z.step hb, h.O.step hb⟩
theorem TP.set {w w1 : World} {cs zs os : Array Value} (h : TP w w1 cs zs os) {i : Nat} (hi : i < os.size) (v : Value) : TP w (w1.setCell ⟨w.heap.size + 1 + 1, i, none⟩ v) cs zs (os.setIfInBounds i v) :=
  ⟨h.A.far (by simp; omega) (by simp; omega) v, h.Z.far (by simp; omega) (by simp) v, h.O.set (by omega) hi v⟩

set_option maxHeartbeats 2000000 in
theorem toPlan_any (v : Value) (d : PlanD) (w : World) (h : IsPlan w w.heap.size v d) (h0 : d.n0 ≤ 1048576) (h1 : d.n1 ≤ 1048576) (h2 : d.n2 ≤ 1048576) (h3 : d.n3 ≤ 1048576) :
    Calls Tryz.prog 7 #[v] w (MadePlan w d) := by
  obtain ⟨⟨A0, A1, A2, A3, c0, c1, c2, c3, rfl, s0, s1, s2, s3⟩, b0, b1, b2, b3⟩ := h
  obtain ⟨n0, n1, n2, n3, x0, x1, x2, x3, l, p, t⟩ := d
  dsimp only at *
  have S0 := Lib.hid s0
  have S1 := Lib.hid s1
  have S2 := Lib.hid s2
  have S3 := Lib.hid s3
  have B0 := Lib.hid h0
  have B1 := Lib.hid h1
  have B2 := Lib.hid h2
  have B3 := Lib.hid h3
  clear s0 s1 s2 s3 b0 b1 b2 b3 h0 h1 h2 h3
  go_enter Tryz.func7, Tryz.ntmps7
  go_wp2_with fail
  have T1 := TP.start w (planC A0 A1 A2 A3 n0 c0 n1 c1 n2 c2 n3 c3 l p t) (planC none none none none 0 0 0 0 0 0 0 0 0 0 0) (planC none none none none 0 0 0 0 0 0 0 0 0 0 0) 27 42 42
  refine (toPodS_any _ _ _ x0 _ ((S0.out.below T1.A.K (Nat.le_refl _)).more T1.A.K.size) B0.out).mono ?_
  rintro e w2 ⟨g0, rfl, hg0, hz0, R0, hb2⟩
  have T2 := T1.step hb2
  have l0 : w.heap.size + 1 + 1 < g0 := Nat.lt_of_lt_of_le T1.O.z hg0
  have hC := T2.A.C
  have hD := T2.O.C
  have hF := T2.O.F
  clear hb2 hg0 T1
  go_wp2_with fail
  have T1 := T2.set (i := 0) (by simp) (.slice (some ⟨g0, 0, none⟩) n0 n0)
  have R0 := R0.far (p := ⟨w.heap.size + 1 + 1, 0, none⟩) (by simp; omega) (.slice (some ⟨g0, 0, none⟩) n0 n0)
  refine (toInt64S_any _ _ _ x1 _ ((S1.out.below T1.A.K (Nat.le_refl _)).more T1.A.K.size) B1.out).mono ?_
  rintro e w3 ⟨g1, rfl, hg1, hz1, R1, hb2⟩
  clear hC hD hF T2
  have T2 := T1.step hb2
  have l1 : g0 < g1 := by simp [World.setCell] at hg1; omega
  have R0 := R0.below hb2 (by simpa [World.setCell] using hz0)
  have hC := T2.A.C
  have hD := T2.O.C
  have hF := T2.O.F
  clear hb2 hg1 T1 hz0
  go_wp2_with fail
  have T1 := T2.set (i := 1) (by simp) (.slice (some ⟨g1, 0, none⟩) n1 n1)
  have R0 := R0.far (p := ⟨w.heap.size + 1 + 1, 1, none⟩) (by simp; omega) (.slice (some ⟨g1, 0, none⟩) n1 n1)
  have R1 := R1.far (p := ⟨w.heap.size + 1 + 1, 1, none⟩) (by simp; omega) (.slice (some ⟨g1, 0, none⟩) n1 n1)
  refine (toMountS_any _ _ _ x2 _ ((S2.out.below T1.A.K (Nat.le_refl _)).more T1.A.K.size) B2.out).mono ?_
  rintro e w4 ⟨g2, rfl, hg2, hz2, R2, hb2⟩
  clear hC hD hF T2
  have T2 := T1.step hb2
  have l2 : g1 < g2 := by simp [World.setCell] at hg2; omega
  have R0 := R0.below hb2 (by simp [World.setCell]; omega)
  have R1 := R1.below hb2 (by simp [World.setCell]; omega)
  have hC := T2.A.C
  have hD := T2.O.C
  have hF := T2.O.F
  clear hb2 hg2 T1 hz1
  go_wp2_with fail
  have T1 := T2.set (i := 2) (by simp) (.slice (some ⟨g2, 0, none⟩) n2 n2)
  have R0 := R0.far (p := ⟨w.heap.size + 1 + 1, 2, none⟩) (by simp; omega) (.slice (some ⟨g2, 0, none⟩) n2 n2)
  have R1 := R1.far (p := ⟨w.heap.size + 1 + 1, 2, none⟩) (by simp; omega) (.slice (some ⟨g2, 0, none⟩) n2 n2)
  have R2 := R2.far (p := ⟨w.heap.size + 1 + 1, 2, none⟩) (by simp; omega) (.slice (some ⟨g2, 0, none⟩) n2 n2)
  refine (toDeviceS_any _ _ _ x3 _ ((S3.out.below T1.A.K (Nat.le_refl _)).more T1.A.K.size) B3.out).mono ?_
  rintro e w5 ⟨g3, rfl, hg3, hz3, R3, hb2⟩
  clear hC hD hF T2
  have T2 := T1.step hb2
  have l3 : g2 < g3 := by simp [World.setCell] at hg3; omega
  have R0 := R0.below hb2 (by simp [World.setCell]; omega)
  have R1 := R1.below hb2 (by simp [World.setCell]; omega)
  have R2 := R2.below hb2 (by simp [World.setCell]; omega)
  clear hb2 hg3 hz2
  have T2 : TP w w5 (planC A0 A1 A2 A3 n0 c0 n1 c1 n2 c2 n3 c3 l p t) (planC none none none none 0 0 0 0 0 0 0 0 0 0 0)
      (planC (some ⟨g0, 0, none⟩) (some ⟨g1, 0, none⟩) (some ⟨g2, 0, none⟩) none n0 n0 n1 n1 n2 n2 0 0 0 0 0) := T2
  have hC := T2.A.C
  have hD := T2.O.C
  have hF := T2.O.F
  have hE := T2.Z.C
  have hG := T2.Z.F
  go_wp2_with fail
  refine bodyPost_ret (v := newPlanV ⟨n0, n1, n2, n3, x0, x1, x2, x3, l, p, t⟩ g0 g1 g2 g3) ?_ rfl ⟨g0, g1, g2, g3, rfl, ⟨by omega, l1, l2, l3, by simp [World.setCell]; exact hz3, ?_, ?_, ?_, ?_⟩, ?_⟩
  · simp [results, Tryz.results7, go_sem, hE]
  · iterate 11 (refine RowF.far ?_ (by simp; omega) _)
    exact R0
  · iterate 11 (refine RowF.far ?_ (by simp; omega) _)
    exact R1
  · iterate 11 (refine RowF.far ?_ (by simp; omega) _)
    exact R2
  · iterate 11 (refine RowF.far ?_ (by simp; omega) _)
    exact R3
  · iterate 11 (refine Below.setCell ?_ (by simp <;> omega) _)
    exact T2.A.K

theorem NewPlan.is {w w' : World} {d : PlanD} {g0 g1 g2 g3 : Nat} (h : NewPlan w w' d g0 g1 g2 g3) (b0 : d.n0 ≤ maxLen) (b1 : d.n1 ≤ maxLen) (b2 : d.n2 ≤ maxLen) (b3 : d.n3 ≤ maxLen) :
    IsPlan w' w'.heap.size (newPlanV d g0 g1 g2 g3) d := by
  obtain ⟨l0, l1, l2, l3, l4, R0, R1, R2, R3⟩ := h
  exact ⟨⟨_, _, _, _, _, _, _, _, rfl, R0.sl (by omega) (by omega), R1.sl (by omega) (by omega), R2.sl (by omega) (by omega), R3.sl (by omega) (by omega)⟩, b0, b1, b2, b3⟩

set_option maxRecDepth 100000 in
set_option maxHeartbeats 1000000 in
theorem eqPodS_same (A A' : Option Addr) (n c c' : Nat) (x : Nat → Int) (w : World) (s : Sl w w.heap.size 4 A n x) (s' : Sl w w.heap.size 4 A' n x) (hn : n ≤ maxLen) :
    Calls Tryz.prog 39 #[.slice A n c, .slice A' n c'] w fun e w' => e = .returned (.bool true) ∧ Below w.heap.size w w' := by
  unfold maxLen at hn
  have S := Lib.hid s
  have S' := Lib.hid s'
  clear s s'
  go_enter Tryz.func39, Tryz.ntmps39
  go_wp2
  go_loopw [5] (fun i wr => ∃ k : Nat, k ≤ n ∧ i = .int .i64 k ∧ Below w.heap.size w wr) (fun i _ => n - (intOf i).toNat)
  case atStart => exact ⟨0, Nat.zero_le _, rfl, Below.refl _ _⟩
  case round =>
    obtain ⟨k, hk, rfl, K⟩ := hrel
    by_cases hlt : k < n
    · obtain ⟨b, off, rfl, hb, q0, q1, q2, q3⟩ := ((S.out.below K (Nat.le_refl _)).more K.size).cell4 hlt
      obtain ⟨b', off', rfl, hb', r0, r1, r2, r3⟩ := ((S'.out.below K (Nat.le_refl _)).more K.size).cell4 hlt
      go_wp2_with fail
      go_still_tail 8, (by kernel_rfl)
      have K2 : Below w.heap.size w wr.drew := K.drew
      change wpList _ _ _ _ _ wr.drew
      clear q0 q1 q2 q3 r0 r1 r2 r3 hb hb' K
      generalize wr.drew = w2 at K2 ⊢
      go_wp2_with (go_at_call 75; refine (eqPod_same _ _ _ _ _).mono ?_; rintro e w3 ⟨rfl, hb3⟩)
      exact ⟨⟨k + 1, by omega, by go_num, K2.trans (hb3.mono K2.size)⟩, by simp [intOf]; omega⟩
    · obtain rfl : k = n := by omega
      go_wp2
      go_ret
      exact ⟨rfl, K⟩

set_option maxRecDepth 100000 in
set_option maxHeartbeats 1000000 in
theorem eqMountS_same (A A' : Option Addr) (n c c' : Nat) (x : Nat → Int) (w : World) (s : Sl w w.heap.size 2 A n x) (s' : Sl w w.heap.size 2 A' n x) (hn : n ≤ maxLen) :
    Calls Tryz.prog 41 #[.slice A n c, .slice A' n c'] w fun e w' => e = .returned (.bool true) ∧ Below w.heap.size w w' := by
  unfold maxLen at hn
  have S := Lib.hid s
  have S' := Lib.hid s'
  clear s s'
  go_enter Tryz.func41, Tryz.ntmps41
  go_wp2
  go_loopw [5] (fun i wr => ∃ k : Nat, k ≤ n ∧ i = .int .i64 k ∧ Below w.heap.size w wr) (fun i _ => n - (intOf i).toNat)
  case atStart => exact ⟨0, Nat.zero_le _, rfl, Below.refl _ _⟩
  case round =>
    obtain ⟨k, hk, rfl, K⟩ := hrel
    by_cases hlt : k < n
    · obtain ⟨b, off, rfl, hb, q0, q1⟩ := ((S.out.below K (Nat.le_refl _)).more K.size).cell2 hlt
      obtain ⟨b', off', rfl, hb', r0, r1⟩ := ((S'.out.below K (Nat.le_refl _)).more K.size).cell2 hlt
      go_wp2_with fail
      go_still_tail 8, (by kernel_rfl)
      have K2 : Below w.heap.size w wr.drew := K.drew
      change wpList _ _ _ _ _ wr.drew
      clear q0 q1 r0 r1 hb hb' K
      generalize wr.drew = w2 at K2 ⊢
      go_wp2_with (go_at_call 76; refine (eqMount_same _ _ _).mono ?_; rintro e w3 ⟨rfl, hb3⟩)
      exact ⟨⟨k + 1, by omega, by go_num, K2.trans (hb3.mono K2.size)⟩, by simp [intOf]; omega⟩
    · obtain rfl : k = n := by omega
      go_wp2
      go_ret
      exact ⟨rfl, K⟩

set_option maxRecDepth 100000 in
set_option maxHeartbeats 1000000 in
theorem eqDeviceS_same (A A' : Option Addr) (n c c' : Nat) (x : Nat → Int) (w : World) (s : Sl w w.heap.size 1 A n x) (s' : Sl w w.heap.size 1 A' n x) (hn : n ≤ maxLen) :
    Calls Tryz.prog 42 #[.slice A n c, .slice A' n c'] w fun e w' => e = .returned (.bool true) ∧ Below w.heap.size w w' := by
  unfold maxLen at hn
  have S := Lib.hid s
  have S' := Lib.hid s'
  clear s s'
  go_enter Tryz.func42, Tryz.ntmps42
  go_wp2
  go_loopw [5] (fun i wr => ∃ k : Nat, k ≤ n ∧ i = .int .i64 k ∧ Below w.heap.size w wr) (fun i _ => n - (intOf i).toNat)
  case atStart => exact ⟨0, Nat.zero_le _, rfl, Below.refl _ _⟩
  case round =>
    obtain ⟨k, hk, rfl, K⟩ := hrel
    by_cases hlt : k < n
    · obtain ⟨b, off, rfl, hb, q0⟩ := ((S.out.below K (Nat.le_refl _)).more K.size).cell1 hlt
      obtain ⟨b', off', rfl, hb', r0⟩ := ((S'.out.below K (Nat.le_refl _)).more K.size).cell1 hlt
      go_wp2_with fail
      go_still_tail 8, (by kernel_rfl)
      have K2 : Below w.heap.size w wr.drew := K.drew
      change wpList _ _ _ _ _ wr.drew
      clear q0 r0 hb hb' K
      generalize wr.drew = w2 at K2 ⊢
      go_wp2_with (go_at_call 77; refine (eqDevice_same _ _).mono ?_; rintro e w3 ⟨rfl, hb3⟩)
      exact ⟨⟨k + 1, by omega, by go_num, K2.trans (hb3.mono K2.size)⟩, by simp [intOf]; omega⟩
    · obtain rfl : k = n := by omega
      go_wp2
      go_ret
      exact ⟨rfl, K⟩

set_option maxHeartbeats 1000000 in
theorem eqInt64S_same (A A' : Option Addr) (n c c' : Nat) (x : Nat → Int) (w : World) (s : Sl w w.heap.size 1 A n x) (s' : Sl w w.heap.size 1 A' n x) (hn : n ≤ maxLen) :
    Calls Tryz.prog 40 #[.slice A n c, .slice A' n c'] w fun e w' => e = .returned (.bool true) ∧ Below w.heap.size w w' := by
  unfold maxLen at hn
  have S := Lib.hid s
  have S' := Lib.hid s'
  clear s s'
  go_enter Tryz.func40, Tryz.ntmps40
  go_wp2
  go_loopw [5] (fun i wr => ∃ k : Nat, k ≤ n ∧ i = .int .i64 k ∧ Below w.heap.size w wr) (fun i _ => n - (intOf i).toNat)
  case atStart => exact ⟨0, Nat.zero_le _, rfl, Below.refl _ _⟩
  case round =>
    obtain ⟨k, hk, rfl, K⟩ := hrel
    by_cases hlt : k < n
    · obtain ⟨b, off, rfl, hb, q0⟩ := ((S.out.below K (Nat.le_refl _)).more K.size).cell1 hlt
      obtain ⟨b', off', rfl, hb', r0⟩ := ((S'.out.below K (Nat.le_refl _)).more K.size).cell1 hlt
      go_wp2_with fail
      go_quiet (fail)
      go_wp2
      exact ⟨⟨k + 1, by omega, by go_num, below_drewN K _⟩, by simp [intOf]; omega⟩
    · obtain rfl : k = n := by omega
      go_wp2
      go_ret
      exact ⟨rfl, K⟩

/-- Two blocks of what came in. -/
structure Two (w w1 : World) (cs os : Array Value) : Prop where
  A : Own w w1 w.heap.size cs
  O : Own w w1 (w.heap.size + 1) os
theorem Two.start (w : World) (cs os : Array Value) (t t' : TypeId) : Two w ((w.alloc (.cells cs t)).alloc (.cells os t')) cs os := by
  have h1 := Own.box w cs t
  have h2 := Own.box2 h1.K os t'
  simp only [heap_size_alloc_] at h2
  exact ⟨h1.alloc _, h2⟩
theorem Two.step {w w1 w2 : World} {cs os : Array Value} (h : Two w w1 cs os) (hb : Below w1.heap.size w1 w2) : Two w w2 cs os := ⟨h.A.step hb, h.O.step hb⟩

set_option maxHeartbeats 1000000 in
theorem eqPlan_same (v v' : Value) (d : PlanD) (w : World) (h : IsPlan w w.heap.size v d) (h' : IsPlan w w.heap.size v' d) :
    Calls Tryz.prog 11 #[v, v'] w fun e w' => e = .returned (.bool true) ∧ Below w.heap.size w w' := by
  obtain ⟨⟨A0, A1, A2, A3, c0, c1, c2, c3, rfl, s0, s1, s2, s3⟩, b0, b1, b2, b3⟩ := h
  obtain ⟨⟨A0', A1', A2', A3', c0', c1', c2', c3', rfl, s0', s1', s2', s3'⟩, -, -, -, -⟩ := h'
  obtain ⟨n0, n1, n2, n3, x0, x1, x2, x3, l, p, t⟩ := d
  dsimp only at *
  have S0 := Lib.hid s0
  have S1 := Lib.hid s1
  have S2 := Lib.hid s2
  have S3 := Lib.hid s3
  have S0' := Lib.hid s0'
  have S1' := Lib.hid s1'
  have S2' := Lib.hid s2'
  have S3' := Lib.hid s3'
  have B0 := Lib.hid b0
  have B1 := Lib.hid b1
  have B2 := Lib.hid b2
  have B3 := Lib.hid b3
  clear s0 s1 s2 s3 s0' s1' s2' s3' b0 b1 b2 b3
  go_enter Tryz.func11, Tryz.ntmps11
  go_wp2_with fail
  have T1 := Two.start w (planC A0 A1 A2 A3 n0 c0 n1 c1 n2 c2 n3 c3 l p t) (planC A0' A1' A2' A3' n0 c0' n1 c1' n2 c2' n3 c3' l p t) 42 42
  refine (eqPodS_same _ _ _ _ _ x0 _ (S0.out.own T1.A) (S0'.out.own T1.A) B0.out).mono ?_
  rintro e w2 ⟨rfl, hb⟩
  have T2 := T1.step hb
  have hC := T2.A.C
  have hD := T2.O.C
  clear hb T1
  go_wp2_with fail
  refine (eqInt64S_same _ _ _ _ _ x1 _ (S1.out.own T2.A) (S1'.out.own T2.A) B1.out).mono ?_
  rintro e w3 ⟨rfl, hb⟩
  have T3 := T2.step hb
  clear hC hD hb T2
  have hC := T3.A.C
  have hD := T3.O.C
  go_wp2_with fail
  refine (eqMountS_same _ _ _ _ _ x2 _ (S2.out.own T3.A) (S2'.out.own T3.A) B2.out).mono ?_
  rintro e w4 ⟨rfl, hb⟩
  have T4 := T3.step hb
  clear hC hD hb T3
  have hC := T4.A.C
  have hD := T4.O.C
  go_wp2_with fail
  refine (eqDeviceS_same _ _ _ _ _ x3 _ (S3.out.own T4.A) (S3'.out.own T4.A) B3.out).mono ?_
  rintro e w5 ⟨rfl, hb⟩
  have T5 := T4.step hb
  clear hC hD hb T4
  have hC := T5.A.C
  have hD := T5.O.C
  go_wp2_with fail
  go_ret
  exact ⟨rfl, T5.A.K⟩

def szP (d : PlanD) : Int := if d.n0 + d.n1 + d.n2 + d.n3 ≤ 1048576 then 1048576 - d.n0 - d.n1 - d.n2 - d.n3 else -1
set_option maxHeartbeats 2000000 in
theorem szPlan_any (v : Value) (d : PlanD) (w : World) (h : IsPlan w w.heap.size v d) :
    Calls Tryz.prog 4 #[v, .int .i64 1048576] w fun e w' => e = .returned (.int .i64 (szP d)) ∧ Below w.heap.size w w' := by
  obtain ⟨⟨A0, A1, A2, A3, c0, c1, c2, c3, rfl, -, -, -, -⟩, b0, b1, b2, b3⟩ := h
  obtain ⟨n0, n1, n2, n3, x0, x1, x2, x3, l, p, t⟩ := d
  dsimp only at *
  go_enter Tryz.func4, Tryz.ntmps4
  go_wp2_with fail
  refine (szPodS_any _ _ _ _ _ b0 (by omega) (by omega)).mono ?_
  rintro e w2 ⟨rfl, rfl⟩
  by_cases h0 : (n0 : Int) ≤ 1048576
  · rw [szI_pos h0]
    go_wp2_with fail
    refine (szInt64S_any _ _ _ _ _ b1 (by omega) (by omega)).mono ?_
    rintro e w2 ⟨rfl, rfl⟩
    by_cases h1 : (n1 : Int) ≤ 1048576 - n0
    · rw [szI_pos h1]
      go_wp2_with fail
      refine (szMountS_any _ _ _ _ _ b2 (by omega) (by omega)).mono ?_
      rintro e w2 ⟨rfl, rfl⟩
      by_cases h2 : (n2 : Int) ≤ 1048576 - n0 - n1
      · rw [szI_pos h2]
        go_wp2_with fail
        refine (szDeviceS_any _ _ _ _ _ b3 (by omega) (by omega)).mono ?_
        rintro e w2 ⟨rfl, rfl⟩
        by_cases h3 : (n3 : Int) ≤ 1048576 - n0 - n1 - n2
        · rw [szI_pos h3]
          go_wp2_with fail
          go_ret
          exact ⟨ret_int (by simp only [szP]; rw [if_pos (by omega)]), (Below.refl _ _).alloc (Nat.le_refl _) _⟩
        · rw [szI_neg h3]
          go_wp2
          go_ret
          exact ⟨ret_int (by simp only [szP]; rw [if_neg (by omega)]), (Below.refl _ _).alloc (Nat.le_refl _) _⟩
      · rw [szI_neg h2]
        go_wp2
        go_ret
        exact ⟨ret_int (by simp only [szP]; rw [if_neg (by omega)]), (Below.refl _ _).alloc (Nat.le_refl _) _⟩
    · rw [szI_neg h1]
      go_wp2
      go_ret
      exact ⟨ret_int (by simp only [szP]; rw [if_neg (by omega)]), (Below.refl _ _).alloc (Nat.le_refl _) _⟩
  · rw [szI_neg h0]
    go_wp2
    go_ret
    exact ⟨ret_int (by simp only [szP]; rw [if_neg (by omega)]), (Below.refl _ _).alloc (Nat.le_refl _) _⟩
end Go.Proofs.YtdphpjnecjofeaaGreat
/- PjA -/
set_option linter.unusedVariables false
namespace Go.Proofs.YtdphpjnecjofeaaGreat
open Go.RowKit
/-- The indexes below n at which f is the wanted number, rising. -/
def hits (n : Nat) (f : Nat → Int) (wanted : Int) : List Int := ((List.range n).filter (fun i => f i == wanted)).map (fun i : Nat => (i : Int))
theorem hits_yes {n : Nat} {f : Nat → Int} {wanted : Int} (h : (f n == wanted) = true) : hits (n + 1) f wanted = hits n f wanted ++ [(n : Int)] := by
  simp [hits, List.range_succ, List.filter_append, h]
theorem hits_no {n : Nat} {f : Nat → Int} {wanted : Int} (h : (f n == wanted) = false) : hits (n + 1) f wanted = hits n f wanted := by
  simp [hits, List.range_succ, List.filter_append, h]
theorem hits_le (n : Nat) (f : Nat → Int) (wanted : Int) : (hits n f wanted).length ≤ n := by
  have := List.length_filter_le (fun i => f i == wanted) (List.range n)
  simpa [hits] using this

/-- What the chapter asks of these functions: the indexes, or nothing where the plan is not right. -/
def found (d : PlanD) (n : Nat) (f : Nat → Int) (wanted : Int) : List Int := if planOkB d then hits n f wanted else []
theorem found_yes {d : PlanD} {n : Nat} {f : Nat → Int} {wanted : Int} (h : planOkB d = true) : found d n f wanted = hits n f wanted := if_pos h
theorem found_no {d : PlanD} {n : Nat} {f : Nat → Int} {wanted : Int} (h : planOkB d = false) : found d n f wanted = [] := if_neg (by rw [h]; decide)
end Go.Proofs.YtdphpjnecjofeaaGreat
/- Pk -/
set_option linter.unusedVariables false
namespace Go.Proofs.YtdphpjnecjofeaaGreat
open Go.RowKit

set_option maxHeartbeats 1000000 in
theorem markInt64S_any (A : Option Addr) (n c g : Nat) (k0 : Int) (x : Nat → Int) (w : World) (hA : 0 < n → A = some ⟨g, 0, none⟩) (R : RowF w g n x) (hn : n ≤ 1048576) (h0 : 0 ≤ k0) (h1 : k0 ≤ 8388608) :
    Calls Tryz.prog 47 #[.slice A n c, .int .i64 k0] w fun e w' => e = .returned (.int .i64 (k0 + n)) ∧ RowF w' g n (fun j => k0 + j) ∧ Keeps (· = g) w w' := by
  have HN := Lib.hid hn
  have hn' : n ≤ 2 ^ 63 - 1 := by omega
  have HA := Lib.hid hA
  clear hn hA
  go_enter Tryz.func47, Tryz.ntmps47
  go_wp2
  go_loopw [1, 5] (fun kk i wr => ∃ m : Nat, m ≤ n ∧ i = .int .i64 m ∧ kk = .int .i64 (k0 + m) ∧ RowF wr g n (fun j => if j < m then k0 + j else x j) ∧ Keeps (· = g) w wr) (fun _ i _ => n - (intOf i).toNat)
  case atStart => exact ⟨0, Nat.zero_le _, rfl, by simp, R.congr fun j _ => by simp, Keeps.refl _ _⟩
  case round =>
    obtain ⟨m, hm, rfl, rfl, Y, K⟩ := hrel
    by_cases hlt : m < n
    · obtain rfl := HA.out (by omega)
      obtain ⟨t0, f0⟩ := Y m hlt
      have hb := HN.out
      go_wp2
      refine ⟨⟨m + 1, by omega, by go_num, by go_num, ?_, K.set rfl _⟩, by simp [intOf]; omega⟩
      refine (Y.set (i := m) (k0 + m)).congr fun j hj => ?_
      by_cases e : j = m
      · subst e; simp
      · simp only [if_neg e]
        by_cases e' : j < m
        · rw [if_pos e', if_pos (by omega)]
        · rw [if_neg e', if_neg (by omega)]
    · obtain rfl : m = n := by omega
      go_wp2
      go_ret
      exact ⟨rfl, Y.congr fun j hj => if_pos hj, K⟩

set_option maxHeartbeats 1000000 in
theorem markPodS_any (A : Option Addr) (n c g : Nat) (k0 : Int) (x : Nat → Int) (w : World) (hA : 0 < n → A = some ⟨g, 0, none⟩) (R : RowF w g (n * 4) x) (hn : n ≤ 1048576) (h0 : 0 ≤ k0) (h1 : k0 ≤ 8388608) :
    Calls Tryz.prog 46 #[.slice A n c, .int .i64 k0] w fun e w' => e = .returned (.int .i64 (k0 + 4 * n)) ∧ Keeps (· = g) w w' := by
  have HN := Lib.hid hn
  have hn' : n ≤ 2 ^ 63 - 1 := by omega
  have HA := Lib.hid hA
  clear hn hA
  go_enter Tryz.func46, Tryz.ntmps46
  go_wp2
  go_loopw [1, 5] (fun kk i wr => ∃ m : Nat, m ≤ n ∧ i = .int .i64 m ∧ kk = .int .i64 (k0 + 4 * m) ∧ Ints wr g (n * 4) ∧ Keeps (· = g) w wr) (fun _ i _ => n - (intOf i).toNat)
  case atStart => exact ⟨0, Nat.zero_le _, rfl, by simp, ⟨x, R⟩, Keeps.refl _ _⟩
  case round =>
    obtain ⟨m, hm, rfl, rfl, Y, K⟩ := hrel
    by_cases hlt : m < n
    · obtain rfl := HA.out (by omega)
      obtain ⟨v0, t0, f0⟩ := Y.at_ (j := m * 4) (by omega)
      obtain ⟨v1, t1, f1⟩ := Y.at_ (j := m * 4 + 1) (by omega)
      obtain ⟨v2, t2, f2⟩ := Y.at_ (j := m * 4 + 2) (by omega)
      obtain ⟨v3, t3, f3⟩ := Y.at_ (j := m * 4 + 3) (by omega)
      have hb := HN.out
      go_wp2
      exact ⟨⟨m + 1, by omega, by go_num, by congr 1; omega, Y.set.set.set.set, (((K.set rfl _).set rfl _).set rfl _).set rfl _⟩, by simp [intOf]; omega⟩
    · obtain rfl : m = n := by omega
      go_wp2
      go_ret
      exact ⟨rfl, K⟩

set_option maxHeartbeats 1000000 in
theorem markMountS_any (A : Option Addr) (n c g : Nat) (k0 : Int) (x : Nat → Int) (w : World) (hA : 0 < n → A = some ⟨g, 0, none⟩) (R : RowF w g (n * 2) x) (hn : n ≤ 1048576) (h0 : 0 ≤ k0) (h1 : k0 ≤ 8388608) :
    Calls Tryz.prog 48 #[.slice A n c, .int .i64 k0] w fun e w' => e = .returned (.int .i64 (k0 + 2 * n)) ∧ Keeps (· = g) w w' := by
  have HN := Lib.hid hn
  have hn' : n ≤ 2 ^ 63 - 1 := by omega
  have HA := Lib.hid hA
  clear hn hA
  go_enter Tryz.func48, Tryz.ntmps48
  go_wp2
  go_loopw [1, 5] (fun kk i wr => ∃ m : Nat, m ≤ n ∧ i = .int .i64 m ∧ kk = .int .i64 (k0 + 2 * m) ∧ Ints wr g (n * 2) ∧ Keeps (· = g) w wr) (fun _ i _ => n - (intOf i).toNat)
  case atStart => exact ⟨0, Nat.zero_le _, rfl, by simp, ⟨x, R⟩, Keeps.refl _ _⟩
  case round =>
    obtain ⟨m, hm, rfl, rfl, Y, K⟩ := hrel
    by_cases hlt : m < n
    · obtain rfl := HA.out (by omega)
      obtain ⟨v0, t0, f0⟩ := Y.at_ (j := m * 2) (by omega)
      obtain ⟨v1, t1, f1⟩ := Y.at_ (j := m * 2 + 1) (by omega)
      have hb := HN.out
      go_wp2
      exact ⟨⟨m + 1, by omega, by go_num, by congr 1; omega, Y.set.set, (K.set rfl _).set rfl _⟩, by simp [intOf]; omega⟩
    · obtain rfl : m = n := by omega
      go_wp2
      go_ret
      exact ⟨rfl, K⟩

set_option maxHeartbeats 1000000 in
theorem markDeviceS_any (A : Option Addr) (n c g : Nat) (k0 : Int) (x : Nat → Int) (w : World) (hA : 0 < n → A = some ⟨g, 0, none⟩) (R : RowF w g (n) x) (hn : n ≤ 1048576) (h0 : 0 ≤ k0) (h1 : k0 ≤ 8388608) :
    Calls Tryz.prog 49 #[.slice A n c, .int .i64 k0] w fun e w' => e = .returned (.int .i64 (k0 + n)) ∧ Keeps (· = g) w w' := by
  have HN := Lib.hid hn
  have hn' : n ≤ 2 ^ 63 - 1 := by omega
  have HA := Lib.hid hA
  clear hn hA
  go_enter Tryz.func49, Tryz.ntmps49
  go_wp2
  go_loopw [1, 5] (fun kk i wr => ∃ m : Nat, m ≤ n ∧ i = .int .i64 m ∧ kk = .int .i64 (k0 + m) ∧ Ints wr g (n) ∧ Keeps (· = g) w wr) (fun _ i _ => n - (intOf i).toNat)
  case atStart => exact ⟨0, Nat.zero_le _, rfl, by simp, ⟨x, R⟩, Keeps.refl _ _⟩
  case round =>
    obtain ⟨m, hm, rfl, rfl, Y, K⟩ := hrel
    by_cases hlt : m < n
    · obtain rfl := HA.out (by omega)
      obtain ⟨v0, t0, f0⟩ := Y.at_ (j := m) (by omega)
      have hb := HN.out
      go_wp2
      exact ⟨⟨m + 1, by omega, by go_num, by congr 1; omega, Y.set, K.set rfl _⟩, by simp [intOf]; omega⟩
    · obtain rfl : m = n := by omega
      go_wp2
      go_ret
      exact ⟨rfl, K⟩

end Go.Proofs.YtdphpjnecjofeaaGreat
/- PmA -/
set_option linter.unusedVariables false
namespace Go.Proofs.YtdphpjnecjofeaaGreat
open Go.RowKit
theorem NewPlan.below {w0 w w' : World} {d : PlanD} {g0 g1 g2 g3 : Nat} (h : NewPlan w0 w d g0 g1 g2 g3) (hb : Below w.heap.size w w') : NewPlan w0 w' d g0 g1 g2 g3 := by
  obtain ⟨l0, l1, l2, l3, l4, R0, R1, R2, R3⟩ := h
  exact ⟨l0, l1, l2, l3, Nat.lt_of_lt_of_le l4 hb.size, R0.below hb (by omega), R1.below hb (by omega), R2.below hb (by omega), R3.below hb (by omega)⟩

end Go.Proofs.YtdphpjnecjofeaaGreat
/- Pj -/
set_option linter.unusedVariables false
namespace Go.Proofs.YtdphpjnecjofeaaGreat
open Go.RowKit

set_option maxRecDepth 100000 in
set_option maxHeartbeats 1000000 in
theorem numbersWith_any (pv : Value) (d : PlanD) (g n : Nat) (f : Nat → Int) (wanted : Int) (w : World) (h : IsPlan w w.heap.size pv d) (hn : n ≤ 1048576)
    (hg : ∀ (x y : Value) (wr : World), (callFunc g #[x, y]).run Tryz.prog wr = .ok (.enter g #[x, y]) wr)
    (H : Hid (∀ i, i < n → ∀ wr, Below w.heap.size w wr → Calls Tryz.prog g #[pv, .int .i64 i] wr fun e w' => e = .returned (.int .i64 (f i)) ∧ Below wr.heap.size wr w')) :
    Calls Tryz.prog 103 #[pv, .int .i64 n, .func (.func g) #[pv] #[], .int .i64 wanted] w (Listed w (found d n f wanted)) := by
  have HN := Lib.hid hn
  have hn' : n ≤ 2 ^ 63 - 1 := by omega
  clear hn
  have P := Lib.hid h
  obtain ⟨⟨A0, A1, A2, A3, c0, c1, c2, c3, rfl, -, -, -, -⟩, -, -, -, -⟩ := h
  obtain ⟨i0, hi, hz0, hz1, hz2⟩ := info_parts info_i64
  have HI := Lib.hid hi
  have HZ0 := Lib.hid hz0
  have HZ1 := Lib.hid hz1
  have HZ2 := Lib.hid hz2
  clear hi hz0 hz1 hz2
  go_enter Tryz.func103, Tryz.ntmps103
  go_wp2_with fail
  have X1 := (Own.box w (planC A0 A1 A2 A3 d.n0 c0 d.n1 c1 d.n2 c2 d.n3 c3 d.l d.p d.t) 42).alloc (.cells #[] 2)
  have O1 : ((w.alloc (.cells (planC A0 A1 A2 A3 d.n0 c0 d.n1 c1 d.n2 c2 d.n3 c3 d.l d.p d.t) 42)).alloc (.cells #[] 2)).ownsRow w.heap.size 2 1 (.slice (some ⟨w.heap.size + 1, 0, none⟩) 0 0) 0 [] := by
    have := World.ownsRow_made (base := w.heap.size) (e := 2) (size := 1) (w.alloc (.cells (planC A0 A1 A2 A3 d.n0 c0 d.n1 c1 d.n2 c2 d.n3 c3 d.l d.p d.t) 42)) #[] 0 (by simp) (Nat.zero_le _) rfl
    simpa using this
  refine (planOk_any _ d _ ((P.out.below X1.K (Nat.le_refl _)).more X1.K.size)).mono ?_
  rintro e w1 ⟨rfl, hb⟩
  have X2 := X1.step hb
  have O2 := ownsRow_below O1 hb
  clear X1 O1 hb
  cases hq : planOkB d
  · have HF := Lib.hid (found_no (n := n) (f := f) (wanted := wanted) hq)
    clear hq
    go_wp2
    go_ret
    exact ⟨_, rfl, by rw [HF.out]; exact O2, X2.K⟩
  · have HF := Lib.hid (found_yes (n := n) (f := f) (wanted := wanted) hq)
    clear hq
    have K2 := X2.K
    clear X2
    go_wp2
    go_loopw [9, 17] (fun v i wr => ∃ k : Nat, k ≤ n ∧ i = .int .i64 k ∧ wr.ownsRow w.heap.size 2 1 v (hits k f wanted).length ((hits k f wanted).map (Value.int .i64)) ∧ Below w.heap.size w wr) (fun _ i _ => n - (intOf i).toNat)
    case atStart => exact ⟨0, Nat.zero_le _, rfl, O2, K2⟩
    case round =>
      clear O2 K2
      obtain ⟨k, hk, rfl, O, K⟩ := hrel
      by_cases hlt : k < n
      · have hf := H.out k hlt _ K
        have hle := hits_le k f wanted
        have HO := Lib.hid O
        clear O
        cases hv : (f k == wanted)
        · have HV := Lib.hid (hits_no hv)
          go_wp2_with (refine hf.mono ?_; rintro e w3 ⟨rfl, hb3⟩)
          exact ⟨⟨k + 1, by omega, by go_num, by rw [HV.out]; exact ownsRow_below HO.out hb3, K.trans (hb3.mono K.size)⟩, by simp [intOf]; omega⟩
        · have HV := Lib.hid (hits_yes hv)
          have h63 : (hits k f wanted).length + 1 ≤ maxLen := by have := HN.out; unfold maxLen; omega
          have hby : ((hits k f wanted).length + 1) * 8 ≤ 140737488355328 := by have := HN.out; omega
          have H63 := Lib.hid h63
          have HBY := Lib.hid hby
          clear h63 hby
          go_wp2_with (first
            | (refine hf.mono ?_; rintro e w3 ⟨rfl, hb3⟩)
            | (at_builtin; refine wpList_append_own _ rfl _ _ 23 rfl w.heap.size 2 i0 (.int .i64 0) 1 8 Tryz.underlying23 HI.out HZ0.out HZ1.out HZ2.out rfl (by decide) _ _ _ rfl ((ownsRow_below HO.out hb3).alloc _) ⟨w3.heap.size, 0, none⟩ 1 1 [.int .i64 k] rfl rfl (cell_one_new _ _ _) (fun x hx => by simp at hx; subst hx; rfl) H63.out HBY.out (by have := K.size; have := hb3.size; simp; omega) ?_; intro v' w4 hown' hgrow hnil))
          have K3 : Below w.heap.size w (w3.alloc (.cells #[.int .i64 k] 2)) := (K.trans (hb3.mono K.size)).alloc (Nat.le_trans K.size hb3.size) _
          refine ⟨⟨k + 1, by omega, by go_num, ?_, K3.grown hgrow K3.size fun g hg => ((ownsRow_below HO.out hb3).lt g hg).1⟩, by simp [intOf]; omega⟩
          rw [HV.out]
          simpa using hown'
      · obtain rfl : k = n := by omega
        go_wp2
        go_ret
        exact ⟨_, rfl, by rw [HF.out]; exact O, K⟩
end Go.Proofs.YtdphpjnecjofeaaGreat
/- PbG -/
set_option linter.unusedVariables false
namespace Go.Proofs.YtdphpjnecjofeaaGreat
open Go.RowKit

end Go.Proofs.YtdphpjnecjofeaaGreat
