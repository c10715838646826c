/-
  Bands as lists and numbers: what chapter 2 asks, and what follows for a right plan.
-/
import Derived.Test.YtdphpjnecjofeaaGreatDoorMZ0
import Derived.StillTailTactics
import Derived.ProofKit
import Derived.Deep.Slices
import Derived.Deep.Fields
import Derived.ChangeSame
import Derived.JoinedOf
/- Pd -/
set_option linter.unusedVariables false
namespace Go.Proofs.YtdphpjnecjofeaaGreatDoor
open Go.RowKit

abbrev planC (A0 A1 A2 A3 : Option Addr) (n0 c0 n1 c1 n2 c2 n3 c3 : Nat) (l p t : Int) : Array Value :=
  #[.slice A0 n0 c0, .slice A1 n1 c1, .slice A2 n2 c2, .slice A3 n3 c3, .int .i64 l, .int .i64 p, .int .i64 t]

set_option maxHeartbeats 1000000 in
theorem l1Pods_any (A0 A1 A2 A3 : Option Addr) (n0 c0 n1 c1 n2 c2 n3 c3 : Nat) (l p t : Int) (x0 : Nat → Int) (w : World)
    (s0 : Sl w w.heap.size 4 A0 n0 x0) (b0 : n0 ≤ maxLen) (b1 : n1 ≤ maxLen) :
    Calls Tryz.prog 145 #[planV A0 A1 A2 A3 n0 c0 n1 c1 n2 c2 n3 c3 l p t] w fun e w' =>
      e = .returned (.bool (allB n0 (podB n1 x0) && decide (n0 ≤ 12))) ∧ Below w.heap.size w w' := by
  unfold maxLen at b0 b1
  have S0 := Lib.hid s0
  clear s0
  go_enter Tryz.func145, Tryz.ntmps145
  go_wp2
  go_loopw [3] (fun i wr => ∃ k : Nat, k ≤ n0 ∧ i = .int .i64 k ∧ (∀ j, j < k → podB n1 x0 j = true) ∧ Own w wr w.heap.size (planC A0 A1 A2 A3 n0 c0 n1 c1 n2 c2 n3 c3 l p t)) (fun i _ => n0 - (intOf i).toNat)
  case atStart => exact ⟨0, Nat.zero_le _, rfl, fun j hj => absurd hj (by omega), Own.box w _ _⟩
  case round =>
    obtain ⟨k, hk, rfl, hall, X⟩ := hrel
    have HA := Lib.hid hall
    clear hall
    have hC := X.C
    have hz := X.z
    by_cases hlt : k < n0
    · obtain ⟨b, off, rfl, hb, q0, q1, q2, q3⟩ := (S0.out.own X).cell4 hlt
      go_wp2_with (go_at_call 93; refine (in_any _ _ _ _).mono ?_; rintro e w' ⟨rfl, rfl⟩)
      all_goals first
        | (refine ⟨⟨k + 1, by omega, by go_num, step_all HA.out (by simp_all [podB]), X.alloc _⟩, by simp [intOf]; omega⟩)
        | (go_ret; exact ⟨ret_bool (by rw [allB_false hlt (by simp_all [podB])]; rfl), (X.alloc _).K⟩)
    · obtain rfl : k = n0 := by omega
      go_wp2
      go_ret
      exact ⟨ret_bool (by rw [allB_true.2 HA.out, Bool.eq_iff_iff]; simp; omega), X.K⟩

set_option maxHeartbeats 1000000 in
theorem l1Mounts_any (A0 A1 A2 A3 : Option Addr) (n0 c0 n1 c1 n2 c2 n3 c3 : Nat) (l p t : Int) (x2 x3 : Nat → Int) (w : World)
    (s2 : Sl w w.heap.size 2 A2 n2 x2) (s3 : Sl w w.heap.size 1 A3 n3 x3) (b0 : n0 ≤ maxLen) (b2 : n2 ≤ maxLen) (b3 : n3 ≤ maxLen) :
    Calls Tryz.prog 146 #[planV A0 A1 A2 A3 n0 c0 n1 c1 n2 c2 n3 c3 l p t] w fun e w' =>
      e = .returned (.bool (allB n2 (mountB n0 x2) && allB n3 (deviceB n2 x3) && decide (n2 ≤ 12) && decide (n3 ≤ 12))) ∧ Below w.heap.size w w' := by
  unfold maxLen at b0 b2 b3
  have S2 := Lib.hid s2
  have S3 := Lib.hid s3
  clear s2 s3
  go_enter Tryz.func146, Tryz.ntmps146
  go_wp2
  go_loopw [3] (fun i wr => ∃ k : Nat, k ≤ n2 ∧ i = .int .i64 k ∧ (∀ j, j < k → mountB n0 x2 j = true) ∧ Own w wr w.heap.size (planC A0 A1 A2 A3 n0 c0 n1 c1 n2 c2 n3 c3 l p t)) (fun i _ => n2 - (intOf i).toNat)
  case atStart => exact ⟨0, Nat.zero_le _, rfl, fun j hj => absurd hj (by omega), Own.box w _ _⟩
  case round =>
    obtain ⟨k, hk, rfl, hall, X⟩ := hrel
    have HA := Lib.hid hall
    clear hall
    have hC := X.C
    have hz := X.z
    by_cases hlt : k < n2
    · obtain ⟨b, off, rfl, hb, q0, q1⟩ := (S2.out.own X).cell2 hlt
      cases hp : inB (x2 (k * 2)) 0 (n0 - 1)
      all_goals
        go_wp2_with fail
        go_quiet ((go_at_call 93; exact Calls.quiet_of_same ((in_any _ _ _ _).mono fun e w' h => ⟨h.1, h.2.symm⟩)))
        go_wp2
        all_goals first
          | (refine ⟨⟨k + 1, by omega, by go_num, step_all HA.out (by simp_all [mountB]), X.drewN _⟩, by simp [intOf]; omega⟩)
          | (go_ret; exact ⟨ret_bool (by rw [allB_false hlt (by simp_all [mountB])]; rfl), (X.drewN _).K⟩)
    · obtain rfl : k = n2 := by omega
      have HA2 := Lib.hid (allB_true.2 HA.out)
      clear HA hk hlt
      go_wp2
      go_loopw [4] (fun i wr => ∃ m : Nat, m ≤ n3 ∧ i = .int .i64 m ∧ (∀ j, j < m → deviceB k x3 j = true) ∧ Own w wr w.heap.size (planC A0 A1 A2 A3 n0 c0 n1 c1 k c2 n3 c3 l p t)) (fun i _ => n3 - (intOf i).toNat)
      case atStart => exact ⟨0, Nat.zero_le _, rfl, fun j hj => absurd hj (by omega), X⟩
      case round =>
        clear hC hz X
        obtain ⟨m, hm, rfl, hall, X⟩ := hrel
        have HA := Lib.hid hall
        clear hall
        have hC := X.C
        have hz := X.z
        by_cases hlt : m < n3
        · obtain ⟨b, off, rfl, hb, q0⟩ := (S3.out.own X).cell1 hlt
          go_wp2_with fail
          go_quiet ((go_at_call 93; exact Calls.quiet_of_same ((in_any _ _ _ _).mono fun e w' h => ⟨h.1, h.2.symm⟩)))
          go_wp2
          all_goals first
            | (refine ⟨⟨m + 1, by omega, by go_num, step_all HA.out (by simp_all [deviceB]), X.drewN _⟩, by simp [intOf]; omega⟩)
            | (go_ret; exact ⟨ret_bool (by rw [allB_false hlt (by simp_all [deviceB])]; simp), (X.drewN _).K⟩)
        · obtain rfl : m = n3 := by omega
          have HB := Lib.hid (allB_true.2 HA.out)
          clear HA hm hlt
          go_wp2
          all_goals (go_ret; refine ⟨ret_bool ?_, X.K⟩)
          all_goals (rw [HA2.out, HB.out, Bool.eq_iff_iff]; simp; omega)

set_option maxHeartbeats 1000000 in
theorem spec_planOk_any (v : Value) (d : PlanD) (w : World) (h : IsPlan w w.heap.size v d) :
    Calls Tryz.prog 92 #[v] w fun e w' => e = .returned (.bool (planOkB d)) ∧ Below w.heap.size w w' := by
  obtain ⟨⟨A0, A1, A2, A3, c0, c1, c2, c3, rfl, s0, s1, s2, s3⟩, b0, b1, b2, b3⟩ := h
  obtain ⟨n0, n1, n2, n3, x0, x1, x2, x3, l, p, t⟩ := d
  dsimp only at *
  have S0 := Lib.hid s0
  have S1 := Lib.hid s1
  have S2 := Lib.hid s2
  have S3 := Lib.hid s3
  have B0 := Lib.hid b0
  have B2 := Lib.hid b2
  have B3 := Lib.hid b3
  clear s0 s1 s2 s3 b0 b2 b3
  have B1 := Lib.hid b1
  unfold maxLen at b1
  go_enter Tryz.func92, Tryz.ntmps92
  go_wp2
  go_loopw [3] (fun i wr => ∃ k : Nat, k ≤ n1 ∧ i = .int .i64 k ∧ (∀ j, j < k → minB x1 j = true) ∧ Own w wr w.heap.size (planC A0 A1 A2 A3 n0 c0 n1 c1 n2 c2 n3 c3 l p t)) (fun i _ => n1 - (intOf i).toNat)
  case atStart => exact ⟨0, Nat.zero_le _, rfl, fun j hj => absurd hj (by omega), Own.box w _ _⟩
  case round =>
    obtain ⟨k, hk, rfl, hall, X⟩ := hrel
    have HA := Lib.hid hall
    clear hall
    have hC := X.C
    have hz := X.z
    by_cases hlt : k < n1
    · obtain ⟨b, off, rfl, hb, q0⟩ := (S1.out.own X).cell1 hlt
      go_wp2_with (go_at_call 93; refine (in_any _ _ _ _).mono ?_; rintro e w' ⟨rfl, rfl⟩)
      all_goals first
        | (refine ⟨⟨k + 1, by omega, by go_num, step_all HA.out (by simp_all [minB]), X⟩, by simp [intOf]; omega⟩)
        | (go_ret; exact ⟨ret_bool (by simp [planOkB, allB_false hlt (show minB x1 k = false by simp_all [minB])]), X.K⟩)
    · obtain rfl : k = n1 := by omega
      have HB := Lib.hid (allB_true.2 HA.out)
      clear HA hk hlt
      go_wp2_with (first
        | (go_at_call 93; refine (in_any _ _ _ _).mono ?_; rintro e w' ⟨rfl, rfl⟩)
        | (go_at_call 145; refine (l1Pods_any A0 A1 A2 A3 n0 c0 k c1 n2 c2 n3 c3 l p t x0 _ (S0.out.own X) B0.out B1.out).mono ?_; rintro e w2 ⟨rfl, hb2⟩; have X2 := X.step hb2; have hC2 := X2.C; clear hb2)
        | (go_at_call 146; refine (l1Mounts_any A0 A1 A2 A3 n0 c0 k c1 n2 c2 n3 c3 l p t x2 x3 _ (S2.out.own X2) (S3.out.own X2) B0.out B2.out B3.out).mono ?_; rintro e w3 ⟨rfl, hb3⟩; have X3 := X2.step hb3; have hC3 := X3.C; clear hb3))
      all_goals (go_ret; refine ⟨ret_bool ?_, by first | exact X3.K | exact X2.K | exact X.K⟩)
      all_goals (have hB := HB.out; clear HB hC X; rw [Bool.eq_iff_iff]; simp only [planOkB, sizesB, timesB, hB, Bool.and_eq_true, decide_eq_true_eq]; grind)
end Go.Proofs.YtdphpjnecjofeaaGreatDoor
/- Pe -/
set_option linter.unusedVariables false
namespace Go.Proofs.YtdphpjnecjofeaaGreatDoor
open Go.RowKit
set_option maxHeartbeats 400000 in
theorem toPod_any (a b c d : Int) (w : World) :
    Calls Tryz.prog 99 #[.agg #[.int .i64 a, .int .i64 b, .int .i64 c, .int .i64 d]] w fun e w' =>
      e = .returned (.agg #[.int .i64 a, .int .i64 b, .int .i64 c, .int .i64 d]) ∧ Below w.heap.size w w' := by
  go_enter Tryz.func99, Tryz.ntmps99
  go_wp2
  exact bodyPost_ret (v := .agg #[.int .i64 a, .int .i64 b, .int .i64 c, .int .i64 d]) (by simp [results, Tryz.results99, go_sem]) rfl ⟨rfl, (((Below.refl _ _).alloc (Nat.le_refl _) _).alloc (by simp) _).alloc (by simp; omega) _⟩
set_option maxHeartbeats 400000 in
theorem toMount_any (a b : Int) (w : World) :
    Calls Tryz.prog 100 #[.agg #[.int .i64 a, .int .i64 b]] w fun e w' =>
      e = .returned (.agg #[.int .i64 a, .int .i64 b]) ∧ Below w.heap.size w w' := by
  go_enter Tryz.func100, Tryz.ntmps100
  go_wp2
  exact bodyPost_ret (v := .agg #[.int .i64 a, .int .i64 b]) (by simp [results, Tryz.results100, go_sem]) rfl ⟨rfl, (((Below.refl _ _).alloc (Nat.le_refl _) _).alloc (by simp) _).alloc (by simp; omega) _⟩
set_option maxHeartbeats 400000 in
theorem toDevice_any (a : Int) (w : World) :
    Calls Tryz.prog 101 #[.agg #[.int .i64 a]] w fun e w' =>
      e = .returned (.agg #[.int .i64 a]) ∧ Below w.heap.size w w' := by
  go_enter Tryz.func101, Tryz.ntmps101
  go_wp2
  exact bodyPost_ret (v := .agg #[.int .i64 a]) (by simp [results, Tryz.results101, go_sem]) rfl ⟨rfl, (((Below.refl _ _).alloc (Nat.le_refl _) _).alloc (by simp) _).alloc (by simp; omega) _⟩
set_option maxHeartbeats 400000 in
theorem eqPod_same (a b c d : Int) (w : World) :
    Calls Tryz.prog 106 #[.agg #[.int .i64 a, .int .i64 b, .int .i64 c, .int .i64 d], .agg #[.int .i64 a, .int .i64 b, .int .i64 c, .int .i64 d]] w fun e w' =>
      e = .returned (.bool true) ∧ Below w.heap.size w w' := by
  go_enter Tryz.func106, Tryz.ntmps106
  go_wp2
  go_ret
  exact ⟨rfl, ((Below.refl _ _).alloc (Nat.le_refl _) _).alloc (by simp) _⟩
set_option maxHeartbeats 400000 in
theorem eqMount_same (a b : Int) (w : World) :
    Calls Tryz.prog 107 #[.agg #[.int .i64 a, .int .i64 b], .agg #[.int .i64 a, .int .i64 b]] w fun e w' =>
      e = .returned (.bool true) ∧ Below w.heap.size w w' := by
  go_enter Tryz.func107, Tryz.ntmps107
  go_wp2
  go_ret
  exact ⟨rfl, ((Below.refl _ _).alloc (Nat.le_refl _) _).alloc (by simp) _⟩
set_option maxHeartbeats 400000 in
theorem eqDevice_same (a : Int) (w : World) :
    Calls Tryz.prog 108 #[.agg #[.int .i64 a], .agg #[.int .i64 a]] w fun e w' =>
      e = .returned (.bool true) ∧ Below w.heap.size w w' := by
  go_enter Tryz.func108, Tryz.ntmps108
  go_wp2
  go_ret
  exact ⟨rfl, ((Below.refl _ _).alloc (Nat.le_refl _) _).alloc (by simp) _⟩

theorem info_pod : (Tryz.prog.info? 145).map (fun i => (i.zero, i.size, i.bytes)) = some (some (.agg #[.int .i64 0, .int .i64 0, .int .i64 0, .int .i64 0]), 4, 32) := by kernel_rfl
theorem info_i64 : (Tryz.prog.info? 2).map (fun i => (i.zero, i.size, i.bytes)) = some (some (.int .i64 0), 1, 8) := by kernel_rfl
theorem info_mount : (Tryz.prog.info? 149).map (fun i => (i.zero, i.size, i.bytes)) = some (some (.agg #[.int .i64 0, .int .i64 0]), 2, 16) := by kernel_rfl
theorem info_device : (Tryz.prog.info? 153).map (fun i => (i.zero, i.size, i.bytes)) = some (some (.agg #[.int .i64 0]), 1, 8) := by kernel_rfl

set_option maxHeartbeats 1000000 in
theorem toPodS_any (A : Option Addr) (n c : Nat) (x : Nat → Int) (w : World) (s : Sl w w.heap.size 4 A n x) (hn : n ≤ 1048576) :
    Calls Tryz.prog 43 #[.slice A n c] w (Made w (n * 4) n x) := by
  have S := Lib.hid s
  clear s
  obtain ⟨i0, hi, hz0, hz1, hz2⟩ := info_parts info_pod
  have HN := Lib.hid hn
  have hn' : n ≤ 2 ^ 63 - 1 := by omega
  clear hn
  go_enter Tryz.func43, Tryz.ntmps43
  go_wp2_with (at_make; refine wpList_make_full _ rfl _ _ 43 rfl w.heap.size 145 i0 (.agg #[.int .i64 0, .int .i64 0, .int .i64 0, .int .i64 0]) 4 Tryz.underlying43 hi hz0 hz1 _ _ _ _ n rfl rfl rfl rfl ?b2 ?b3 (Nat.le_refl _) ?_)
  case b2 => have := HN.out; rw [hz2]; omega
  case b3 => have := HN.out; unfold maxLen; omega
  intro w1 hown hgrow
  have X : Copying w w1 (n * 4) 0 x := ⟨(Below.refl _ _).grown hgrow (Nat.le_refl _) (fun k hk => by cases hk), (hown.lt _ rfl).2, _, made_row (by omega) rfl hown, fun j hj => absurd hj (by omega)⟩
  clear hown hgrow hz0 hz1 hz2 hi
  go_wp2
  go_loopw [4] (fun i wr => ∃ k : Nat, k ≤ n ∧ i = .int .i64 k ∧ Copying w wr (n * 4) (k * 4) x) (fun i _ => n - (intOf i).toNat)
  case atStart => exact ⟨0, Nat.zero_le _, rfl, by simpa using X⟩
  case round =>
    clear X
    obtain ⟨k, hk, rfl, X⟩ := hrel
    by_cases hlt : k < n
    · obtain ⟨b, off, rfl, hb, q0, q1, q2, q3⟩ := ((S.out.below X.K (Nat.le_refl _)).more X.K.size).cell4 hlt
      go_wp2_with (go_at_call 99; refine (toPod_any _ _ _ _ _).mono ?_; rintro e w2 ⟨rfl, hb2⟩; have X2 := X.step hb2; obtain ⟨v0, t0, f0⟩ := X2.at_ (j := k * 4) (by omega); obtain ⟨v1, t1, f1⟩ := X2.at_ (j := k * 4 + 1) (by omega); obtain ⟨v2, t2, f2⟩ := X2.at_ (j := k * 4 + 2) (by omega); obtain ⟨v3, t3, f3⟩ := X2.at_ (j := k * 4 + 3) (by omega); clear hb2)
      refine ⟨⟨k + 1, by omega, by go_num, ?_⟩, by simp [intOf]; omega⟩
      have e : (k + 1) * 4 = k * 4 + 1 + 1 + 1 + 1 := by omega
      rw [e]
      exact X2.set.set.set.set
    · obtain rfl : k = n := by omega
      go_wp2
      go_ret
      exact X.made

set_option maxHeartbeats 1000000 in
theorem toMountS_any (A : Option Addr) (n c : Nat) (x : Nat → Int) (w : World) (s : Sl w w.heap.size 2 A n x) (hn : n ≤ 1048576) :
    Calls Tryz.prog 45 #[.slice A n c] w (Made w (n * 2) n x) := by
  have S := Lib.hid s
  clear s
  obtain ⟨i0, hi, hz0, hz1, hz2⟩ := info_parts info_mount
  have HN := Lib.hid hn
  have hn' : n ≤ 2 ^ 63 - 1 := by omega
  clear hn
  go_enter Tryz.func45, Tryz.ntmps45
  go_wp2_with (at_make; refine wpList_make_full _ rfl _ _ 44 rfl w.heap.size 149 i0 (.agg #[.int .i64 0, .int .i64 0]) 2 Tryz.underlying44 hi hz0 hz1 _ _ _ _ n rfl rfl rfl rfl ?b2 ?b3 (Nat.le_refl _) ?_)
  case b2 => have := HN.out; rw [hz2]; omega
  case b3 => have := HN.out; unfold maxLen; omega
  intro w1 hown hgrow
  have X : Copying w w1 (n * 2) 0 x := ⟨(Below.refl _ _).grown hgrow (Nat.le_refl _) (fun k hk => by cases hk), (hown.lt _ rfl).2, _, made_row (by omega) rfl hown, fun j hj => absurd hj (by omega)⟩
  clear hown hgrow hz0 hz1 hz2 hi
  go_wp2
  go_loopw [4] (fun i wr => ∃ k : Nat, k ≤ n ∧ i = .int .i64 k ∧ Copying w wr (n * 2) (k * 2) x) (fun i _ => n - (intOf i).toNat)
  case atStart => exact ⟨0, Nat.zero_le _, rfl, by simpa using X⟩
  case round =>
    clear X
    obtain ⟨k, hk, rfl, X⟩ := hrel
    by_cases hlt : k < n
    · obtain ⟨b, off, rfl, hb, q0, q1⟩ := ((S.out.below X.K (Nat.le_refl _)).more X.K.size).cell2 hlt
      go_wp2_with (go_at_call 100; refine (toMount_any _ _ _).mono ?_; rintro e w2 ⟨rfl, hb2⟩; have X2 := X.step hb2; obtain ⟨v0, t0, f0⟩ := X2.at_ (j := k * 2) (by omega); obtain ⟨v1, t1, f1⟩ := X2.at_ (j := k * 2 + 1) (by omega); clear hb2)
      refine ⟨⟨k + 1, by omega, by go_num, ?_⟩, by simp [intOf]; omega⟩
      have e : (k + 1) * 2 = k * 2 + 1 + 1 := by omega
      rw [e]
      exact X2.set.set
    · obtain rfl : k = n := by omega
      go_wp2
      go_ret
      exact X.made

set_option maxHeartbeats 1000000 in
theorem toDeviceS_any (A : Option Addr) (n c : Nat) (x : Nat → Int) (w : World) (s : Sl w w.heap.size 1 A n x) (hn : n ≤ 1048576) :
    Calls Tryz.prog 46 #[.slice A n c] w (Made w n n x) := by
  have S := Lib.hid s
  clear s
  obtain ⟨i0, hi, hz0, hz1, hz2⟩ := info_parts info_device
  have HN := Lib.hid hn
  have hn' : n ≤ 2 ^ 63 - 1 := by omega
  clear hn
  go_enter Tryz.func46, Tryz.ntmps46
  go_wp2_with (at_make; refine wpList_make_full _ rfl _ _ 45 rfl w.heap.size 153 i0 (.agg #[.int .i64 0]) 1 Tryz.underlying45 hi hz0 hz1 _ _ _ _ n rfl rfl rfl rfl ?b2 ?b3 (Nat.le_refl _) ?_)
  case b2 => have := HN.out; rw [hz2]; omega
  case b3 => have := HN.out; unfold maxLen; omega
  intro w1 hown hgrow
  have X : Copying w w1 n 0 x := ⟨(Below.refl _ _).grown hgrow (Nat.le_refl _) (fun k hk => by cases hk), (hown.lt _ rfl).2, _, made_row1 hown, fun j hj => absurd hj (by omega)⟩
  clear hown hgrow hz0 hz1 hz2 hi
  go_wp2
  go_loopw [4] (fun i wr => ∃ k : Nat, k ≤ n ∧ i = .int .i64 k ∧ Copying w wr n k x) (fun i _ => n - (intOf i).toNat)
  case atStart => exact ⟨0, Nat.zero_le _, rfl, by simpa using X⟩
  case round =>
    clear X
    obtain ⟨k, hk, rfl, X⟩ := hrel
    by_cases hlt : k < n
    · obtain ⟨b, off, rfl, hb, q0⟩ := ((S.out.below X.K (Nat.le_refl _)).more X.K.size).cell1 hlt
      go_wp2_with (go_at_call 101; refine (toDevice_any _ _).mono ?_; rintro e w2 ⟨rfl, hb2⟩; have X2 := X.step hb2; obtain ⟨v0, t0, f0⟩ := X2.at_ (j := k) (by omega); clear hb2)
      exact ⟨⟨k + 1, by omega, by go_num, X2.set⟩, by simp [intOf]; omega⟩
    · obtain rfl : k = n := by omega
      go_wp2
      go_ret
      exact X.made

set_option maxHeartbeats 1000000 in
theorem toInt64S_any (A : Option Addr) (n c : Nat) (x : Nat → Int) (w : World) (s : Sl w w.heap.size 1 A n x) (hn : n ≤ 1048576) :
    Calls Tryz.prog 44 #[.slice A n c] w (Made w n n x) := by
  have S := Lib.hid s
  clear s
  obtain ⟨i0, hi, hz0, hz1, hz2⟩ := info_parts info_i64
  have HN := Lib.hid hn
  have hn' : n ≤ 2 ^ 63 - 1 := by omega
  clear hn
  go_enter Tryz.func44, Tryz.ntmps44
  go_wp2_with (at_make; refine wpList_make_full _ rfl _ _ 23 rfl w.heap.size 2 i0 (.int .i64 0) 1 Tryz.underlying23 hi hz0 hz1 _ _ _ _ n rfl rfl rfl rfl ?b2 ?b3 (Nat.le_refl _) ?_)
  case b2 => have := HN.out; rw [hz2]; omega
  case b3 => have := HN.out; unfold maxLen; omega
  intro w1 hown hgrow
  have X : Copying w w1 n 0 x := ⟨(Below.refl _ _).grown hgrow (Nat.le_refl _) (fun k hk => by cases hk), (hown.lt _ rfl).2, _, made_row1 hown, fun j hj => absurd hj (by omega)⟩
  clear hown hgrow hz0 hz1 hz2 hi
  go_wp2
  go_loopw [4] (fun i wr => ∃ k : Nat, k ≤ n ∧ i = .int .i64 k ∧ Copying w wr n k x) (fun i _ => n - (intOf i).toNat)
  case atStart => exact ⟨0, Nat.zero_le _, rfl, by simpa using X⟩
  case round =>
    clear X
    obtain ⟨k, hk, rfl, X⟩ := hrel
    by_cases hlt : k < n
    · obtain ⟨b, off, rfl, hb, q0⟩ := ((S.out.below X.K (Nat.le_refl _)).more X.K.size).cell1 hlt
      obtain ⟨v0, t0, f0⟩ := X.at_ (j := k) (by omega)
      go_wp2
      exact ⟨⟨k + 1, by omega, by go_num, X.set⟩, by simp [intOf]; omega⟩
    · obtain rfl : k = n := by omega
      go_wp2
      go_ret
      exact X.made
end Go.Proofs.YtdphpjnecjofeaaGreatDoor
/- Pf -/
set_option linter.unusedVariables false
namespace Go.Proofs.YtdphpjnecjofeaaGreatDoor
open Go.RowKit

theorem RowF.far {w : World} {g N : Nat} {x : Nat → Int} (h : RowF w g N x) {p : Addr} (hne : p.block ≠ g) (v : Value) : RowF (w.setCell p v) g N x := fun j hj =>
  ⟨(World.cell?_setCell_other _ _ _ _ (fun e => hne (by rw [e]))).trans (h j hj).1, by rw [World.frozen?_setCell]; exact (h j hj).2⟩
theorem RowF.alloc {w : World} {g N : Nat} {x : Nat → Int} (h : RowF w g N x) (hg : g < w.heap.size) (o : Obj) : RowF (w.alloc o) g N x := h.below ((Below.refl _ _).alloc (Nat.le_refl _) o) hg
theorem RowF.sl {w : World} {g N k n B : Nat} {x : Nat → Int} (h : RowF w g N x) (hN : n * k ≤ N) (hg : g < B) : Sl w B k (some ⟨g, 0, none⟩) n x := fun _ =>
  ⟨g, 0, rfl, hg, fun j hj => by rw [Nat.zero_add]; exact (h j (by omega)).1⟩

/-- A plan of new memory. -/
structure NewPlan (w w' : World) (d : PlanD) (g0 g1 g2 g3 : Nat) : Prop where
  l0 : w.heap.size ≤ g0
  l1 : g0 < g1
  l2 : g1 < g2
  l3 : g2 < g3
  l4 : g3 < w'.heap.size
  R0 : RowF w' g0 (d.n0 * 4) d.x0
  R1 : RowF w' g1 d.n1 d.x1
  R2 : RowF w' g2 (d.n2 * 2) d.x2
  R3 : RowF w' g3 d.n3 d.x3
abbrev newPlanV (d : PlanD) (g0 g1 g2 g3 : Nat) : Value := planV (some ⟨g0, 0, none⟩) (some ⟨g1, 0, none⟩) (some ⟨g2, 0, none⟩) (some ⟨g3, 0, none⟩) d.n0 d.n0 d.n1 d.n1 d.n2 d.n2 d.n3 d.n3 d.l d.p d.t
def MadePlan (w : World) (d : PlanD) (e : Ending) (w' : World) : Prop :=
  ∃ g0 g1 g2 g3, e = .returned (newPlanV d g0 g1 g2 g3) ∧ NewPlan w w' d g0 g1 g2 g3 ∧ Below w.heap.size w w'

theorem heap_size_alloc_ (w : World) (o : Obj) : (w.alloc o).heap.size = w.heap.size + 1 := by simp

/-- The three blocks of a copy under way: what came in, the answer's cell, the copy. -/
structure TP (w w1 : World) (cs zs os : Array Value) : Prop where
  A : Own w w1 w.heap.size cs
  Z : Own w w1 (w.heap.size + 1) zs
  O : Own w w1 (w.heap.size + 1 + 1) os
theorem TP.start (w : World) (cs zs os : Array Value) (t t' t'' : TypeId) : TP w (((w.alloc (.cells cs t)).alloc (.cells zs t')).alloc (.cells os t'')) cs zs os := by
  have h1 := Own.box w cs t
  have h2 := Own.box2 h1.K zs t'
  have h3 := Own.box2 h2.K os t''
  simp only [heap_size_alloc_] at h2 h3
  exact ⟨(h1.alloc _).alloc _, h2.alloc _, h3⟩
theorem TP.step {w w1 w2 : World} {cs zs os : Array Value} (h : TP w w1 cs zs os) (hb : Below w1.heap.size w1 w2) : TP w w2 cs zs os := ⟨h.A.step hb, h.Z.step hb, h.O.step hb⟩
theorem TP.set {w w1 : World} {cs zs os : Array Value} (h : TP w w1 cs zs os) {i : Nat} (hi : i < os.size) (v : Value) : TP w (w1.setCell ⟨w.heap.size + 1 + 1, i, none⟩ v) cs zs (os.setIfInBounds i v) :=
  ⟨h.A.far (by simp; omega) (by simp; omega) v, h.Z.far (by simp; omega) (by simp) v, h.O.set (by omega) hi v⟩

set_option maxHeartbeats 2000000 in
theorem toPlan_any (v : Value) (d : PlanD) (w : World) (h : IsPlan w w.heap.size v d) (h0 : d.n0 ≤ 1048576) (h1 : d.n1 ≤ 1048576) (h2 : d.n2 ≤ 1048576) (h3 : d.n3 ≤ 1048576) :
    Calls Tryz.prog 10 #[v] w (MadePlan w d) := by
  obtain ⟨⟨A0, A1, A2, A3, c0, c1, c2, c3, rfl, s0, s1, s2, s3⟩, b0, b1, b2, b3⟩ := h
  obtain ⟨n0, n1, n2, n3, x0, x1, x2, x3, l, p, t⟩ := d
  dsimp only at *
  have S0 := Lib.hid s0
  have S1 := Lib.hid s1
  have S2 := Lib.hid s2
  have S3 := Lib.hid s3
  have B0 := Lib.hid h0
  have B1 := Lib.hid h1
  have B2 := Lib.hid h2
  have B3 := Lib.hid h3
  clear s0 s1 s2 s3 b0 b1 b2 b3 h0 h1 h2 h3
  go_enter Tryz.func10, Tryz.ntmps10
  go_wp2_with fail
  have T1 := TP.start w (planC A0 A1 A2 A3 n0 c0 n1 c1 n2 c2 n3 c3 l p t) (planC none none none none 0 0 0 0 0 0 0 0 0 0 0) (planC none none none none 0 0 0 0 0 0 0 0 0 0 0) 27 47 47
  refine (toPodS_any _ _ _ x0 _ ((S0.out.below T1.A.K (Nat.le_refl _)).more T1.A.K.size) B0.out).mono ?_
  rintro e w2 ⟨g0, rfl, hg0, hz0, R0, hb2⟩
  have T2 := T1.step hb2
  have l0 : w.heap.size + 1 + 1 < g0 := Nat.lt_of_lt_of_le T1.O.z hg0
  have hC := T2.A.C
  have hD := T2.O.C
  have hF := T2.O.F
  clear hb2 hg0 T1
  go_wp2_with fail
  have T1 := T2.set (i := 0) (by simp) (.slice (some ⟨g0, 0, none⟩) n0 n0)
  have R0 := R0.far (p := ⟨w.heap.size + 1 + 1, 0, none⟩) (by simp; omega) (.slice (some ⟨g0, 0, none⟩) n0 n0)
  refine (toInt64S_any _ _ _ x1 _ ((S1.out.below T1.A.K (Nat.le_refl _)).more T1.A.K.size) B1.out).mono ?_
  rintro e w3 ⟨g1, rfl, hg1, hz1, R1, hb2⟩
  clear hC hD hF T2
  have T2 := T1.step hb2
  have l1 : g0 < g1 := by simp [World.setCell] at hg1; omega
  have R0 := R0.below hb2 (by simpa [World.setCell] using hz0)
  have hC := T2.A.C
  have hD := T2.O.C
  have hF := T2.O.F
  clear hb2 hg1 T1 hz0
  go_wp2_with fail
  have T1 := T2.set (i := 1) (by simp) (.slice (some ⟨g1, 0, none⟩) n1 n1)
  have R0 := R0.far (p := ⟨w.heap.size + 1 + 1, 1, none⟩) (by simp; omega) (.slice (some ⟨g1, 0, none⟩) n1 n1)
  have R1 := R1.far (p := ⟨w.heap.size + 1 + 1, 1, none⟩) (by simp; omega) (.slice (some ⟨g1, 0, none⟩) n1 n1)
  refine (toMountS_any _ _ _ x2 _ ((S2.out.below T1.A.K (Nat.le_refl _)).more T1.A.K.size) B2.out).mono ?_
  rintro e w4 ⟨g2, rfl, hg2, hz2, R2, hb2⟩
  clear hC hD hF T2
  have T2 := T1.step hb2
  have l2 : g1 < g2 := by simp [World.setCell] at hg2; omega
  have R0 := R0.below hb2 (by simp [World.setCell]; omega)
  have R1 := R1.below hb2 (by simp [World.setCell]; omega)
  have hC := T2.A.C
  have hD := T2.O.C
  have hF := T2.O.F
  clear hb2 hg2 T1 hz1
  go_wp2_with fail
  have T1 := T2.set (i := 2) (by simp) (.slice (some ⟨g2, 0, none⟩) n2 n2)
  have R0 := R0.far (p := ⟨w.heap.size + 1 + 1, 2, none⟩) (by simp; omega) (.slice (some ⟨g2, 0, none⟩) n2 n2)
  have R1 := R1.far (p := ⟨w.heap.size + 1 + 1, 2, none⟩) (by simp; omega) (.slice (some ⟨g2, 0, none⟩) n2 n2)
  have R2 := R2.far (p := ⟨w.heap.size + 1 + 1, 2, none⟩) (by simp; omega) (.slice (some ⟨g2, 0, none⟩) n2 n2)
  refine (toDeviceS_any _ _ _ x3 _ ((S3.out.below T1.A.K (Nat.le_refl _)).more T1.A.K.size) B3.out).mono ?_
  rintro e w5 ⟨g3, rfl, hg3, hz3, R3, hb2⟩
  clear hC hD hF T2
  have T2 := T1.step hb2
  have l3 : g2 < g3 := by simp [World.setCell] at hg3; omega
  have R0 := R0.below hb2 (by simp [World.setCell]; omega)
  have R1 := R1.below hb2 (by simp [World.setCell]; omega)
  have R2 := R2.below hb2 (by simp [World.setCell]; omega)
  clear hb2 hg3 hz2
  have T2 : TP w w5 (planC A0 A1 A2 A3 n0 c0 n1 c1 n2 c2 n3 c3 l p t) (planC none none none none 0 0 0 0 0 0 0 0 0 0 0)
      (planC (some ⟨g0, 0, none⟩) (some ⟨g1, 0, none⟩) (some ⟨g2, 0, none⟩) none n0 n0 n1 n1 n2 n2 0 0 0 0 0) := T2
  have hC := T2.A.C
  have hD := T2.O.C
  have hF := T2.O.F
  have hE := T2.Z.C
  have hG := T2.Z.F
  go_wp2_with fail
  refine bodyPost_ret (v := newPlanV ⟨n0, n1, n2, n3, x0, x1, x2, x3, l, p, t⟩ g0 g1 g2 g3) ?_ rfl ⟨g0, g1, g2, g3, rfl, ⟨by omega, l1, l2, l3, by simp [World.setCell]; exact hz3, ?_, ?_, ?_, ?_⟩, ?_⟩
  · simp [results, Tryz.results10, go_sem, hE]
  · iterate 11 (refine RowF.far ?_ (by simp; omega) _)
    exact R0
  · iterate 11 (refine RowF.far ?_ (by simp; omega) _)
    exact R1
  · iterate 11 (refine RowF.far ?_ (by simp; omega) _)
    exact R2
  · iterate 11 (refine RowF.far ?_ (by simp; omega) _)
    exact R3
  · iterate 11 (refine Below.setCell ?_ (by simp <;> omega) _)
    exact T2.A.K

theorem NewPlan.is {w w' : World} {d : PlanD} {g0 g1 g2 g3 : Nat} (h : NewPlan w w' d g0 g1 g2 g3) (b0 : d.n0 ≤ maxLen) (b1 : d.n1 ≤ maxLen) (b2 : d.n2 ≤ maxLen) (b3 : d.n3 ≤ maxLen) :
    IsPlan w' w'.heap.size (newPlanV d g0 g1 g2 g3) d := by
  obtain ⟨l0, l1, l2, l3, l4, R0, R1, R2, R3⟩ := h
  exact ⟨⟨_, _, _, _, _, _, _, _, rfl, R0.sl (by omega) (by omega), R1.sl (by omega) (by omega), R2.sl (by omega) (by omega), R3.sl (by omega) (by omega)⟩, b0, b1, b2, b3⟩

set_option maxRecDepth 100000 in
set_option maxHeartbeats 1000000 in
theorem eqPodS_same (A A' : Option Addr) (n c c' : Nat) (x : Nat → Int) (w : World) (s : Sl w w.heap.size 4 A n x) (s' : Sl w w.heap.size 4 A' n x) (hn : n ≤ maxLen) :
    Calls Tryz.prog 54 #[.slice A n c, .slice A' n c'] w fun e w' => e = .returned (.bool true) ∧ Below w.heap.size w w' := by
  unfold maxLen at hn
  have S := Lib.hid s
  have S' := Lib.hid s'
  clear s s'
  go_enter Tryz.func54, Tryz.ntmps54
  go_wp2
  go_loopw [5] (fun i wr => ∃ k : Nat, k ≤ n ∧ i = .int .i64 k ∧ Below w.heap.size w wr) (fun i _ => n - (intOf i).toNat)
  case atStart => exact ⟨0, Nat.zero_le _, rfl, Below.refl _ _⟩
  case round =>
    obtain ⟨k, hk, rfl, K⟩ := hrel
    by_cases hlt : k < n
    · obtain ⟨b, off, rfl, hb, q0, q1, q2, q3⟩ := ((S.out.below K (Nat.le_refl _)).more K.size).cell4 hlt
      obtain ⟨b', off', rfl, hb', r0, r1, r2, r3⟩ := ((S'.out.below K (Nat.le_refl _)).more K.size).cell4 hlt
      go_wp2_with fail
      go_still_tail 8, (by kernel_rfl)
      have K2 : Below w.heap.size w wr.drew := K.drew
      change wpList _ _ _ _ _ wr.drew
      clear q0 q1 q2 q3 r0 r1 r2 r3 hb hb' K
      generalize wr.drew = w2 at K2 ⊢
      go_wp2_with (go_at_call 106; refine (eqPod_same _ _ _ _ _).mono ?_; rintro e w3 ⟨rfl, hb3⟩)
      exact ⟨⟨k + 1, by omega, by go_num, K2.trans (hb3.mono K2.size)⟩, by simp [intOf]; omega⟩
    · obtain rfl : k = n := by omega
      go_wp2
      go_ret
      exact ⟨rfl, K⟩

set_option maxRecDepth 100000 in
set_option maxHeartbeats 1000000 in
theorem eqMountS_same (A A' : Option Addr) (n c c' : Nat) (x : Nat → Int) (w : World) (s : Sl w w.heap.size 2 A n x) (s' : Sl w w.heap.size 2 A' n x) (hn : n ≤ maxLen) :
    Calls Tryz.prog 55 #[.slice A n c, .slice A' n c'] w fun e w' => e = .returned (.bool true) ∧ Below w.heap.size w w' := by
  unfold maxLen at hn
  have S := Lib.hid s
  have S' := Lib.hid s'
  clear s s'
  go_enter Tryz.func55, Tryz.ntmps55
  go_wp2
  go_loopw [5] (fun i wr => ∃ k : Nat, k ≤ n ∧ i = .int .i64 k ∧ Below w.heap.size w wr) (fun i _ => n - (intOf i).toNat)
  case atStart => exact ⟨0, Nat.zero_le _, rfl, Below.refl _ _⟩
  case round =>
    obtain ⟨k, hk, rfl, K⟩ := hrel
    by_cases hlt : k < n
    · obtain ⟨b, off, rfl, hb, q0, q1⟩ := ((S.out.below K (Nat.le_refl _)).more K.size).cell2 hlt
      obtain ⟨b', off', rfl, hb', r0, r1⟩ := ((S'.out.below K (Nat.le_refl _)).more K.size).cell2 hlt
      go_wp2_with fail
      go_still_tail 8, (by kernel_rfl)
      have K2 : Below w.heap.size w wr.drew := K.drew
      change wpList _ _ _ _ _ wr.drew
      clear q0 q1 r0 r1 hb hb' K
      generalize wr.drew = w2 at K2 ⊢
      go_wp2_with (go_at_call 107; refine (eqMount_same _ _ _).mono ?_; rintro e w3 ⟨rfl, hb3⟩)
      exact ⟨⟨k + 1, by omega, by go_num, K2.trans (hb3.mono K2.size)⟩, by simp [intOf]; omega⟩
    · obtain rfl : k = n := by omega
      go_wp2
      go_ret
      exact ⟨rfl, K⟩

set_option maxRecDepth 100000 in
set_option maxHeartbeats 1000000 in
theorem eqDeviceS_same (A A' : Option Addr) (n c c' : Nat) (x : Nat → Int) (w : World) (s : Sl w w.heap.size 1 A n x) (s' : Sl w w.heap.size 1 A' n x) (hn : n ≤ maxLen) :
    Calls Tryz.prog 56 #[.slice A n c, .slice A' n c'] w fun e w' => e = .returned (.bool true) ∧ Below w.heap.size w w' := by
  unfold maxLen at hn
  have S := Lib.hid s
  have S' := Lib.hid s'
  clear s s'
  go_enter Tryz.func56, Tryz.ntmps56
  go_wp2
  go_loopw [5] (fun i wr => ∃ k : Nat, k ≤ n ∧ i = .int .i64 k ∧ Below w.heap.size w wr) (fun i _ => n - (intOf i).toNat)
  case atStart => exact ⟨0, Nat.zero_le _, rfl, Below.refl _ _⟩
  case round =>
    obtain ⟨k, hk, rfl, K⟩ := hrel
    by_cases hlt : k < n
    · obtain ⟨b, off, rfl, hb, q0⟩ := ((S.out.below K (Nat.le_refl _)).more K.size).cell1 hlt
      obtain ⟨b', off', rfl, hb', r0⟩ := ((S'.out.below K (Nat.le_refl _)).more K.size).cell1 hlt
      go_wp2_with fail
      go_still_tail 8, (by kernel_rfl)
      have K2 : Below w.heap.size w wr.drew := K.drew
      change wpList _ _ _ _ _ wr.drew
      clear q0 r0 hb hb' K
      generalize wr.drew = w2 at K2 ⊢
      go_wp2_with (go_at_call 108; refine (eqDevice_same _ _).mono ?_; rintro e w3 ⟨rfl, hb3⟩)
      exact ⟨⟨k + 1, by omega, by go_num, K2.trans (hb3.mono K2.size)⟩, by simp [intOf]; omega⟩
    · obtain rfl : k = n := by omega
      go_wp2
      go_ret
      exact ⟨rfl, K⟩

set_option maxHeartbeats 1000000 in
theorem eqInt64S_same (A A' : Option Addr) (n c c' : Nat) (x : Nat → Int) (w : World) (s : Sl w w.heap.size 1 A n x) (s' : Sl w w.heap.size 1 A' n x) (hn : n ≤ maxLen) :
    Calls Tryz.prog 53 #[.slice A n c, .slice A' n c'] w fun e w' => e = .returned (.bool true) ∧ Below w.heap.size w w' := by
  unfold maxLen at hn
  have S := Lib.hid s
  have S' := Lib.hid s'
  clear s s'
  go_enter Tryz.func53, Tryz.ntmps53
  go_wp2
  go_loopw [5] (fun i wr => ∃ k : Nat, k ≤ n ∧ i = .int .i64 k ∧ Below w.heap.size w wr) (fun i _ => n - (intOf i).toNat)
  case atStart => exact ⟨0, Nat.zero_le _, rfl, Below.refl _ _⟩
  case round =>
    obtain ⟨k, hk, rfl, K⟩ := hrel
    by_cases hlt : k < n
    · obtain ⟨b, off, rfl, hb, q0⟩ := ((S.out.below K (Nat.le_refl _)).more K.size).cell1 hlt
      obtain ⟨b', off', rfl, hb', r0⟩ := ((S'.out.below K (Nat.le_refl _)).more K.size).cell1 hlt
      go_wp2_with fail
      go_quiet (fail)
      go_wp2
      exact ⟨⟨k + 1, by omega, by go_num, below_drewN K _⟩, by simp [intOf]; omega⟩
    · obtain rfl : k = n := by omega
      go_wp2
      go_ret
      exact ⟨rfl, K⟩

/-- Two blocks of what came in. -/
structure Two (w w1 : World) (cs os : Array Value) : Prop where
  A : Own w w1 w.heap.size cs
  O : Own w w1 (w.heap.size + 1) os
theorem Two.start (w : World) (cs os : Array Value) (t t' : TypeId) : Two w ((w.alloc (.cells cs t)).alloc (.cells os t')) cs os := by
  have h1 := Own.box w cs t
  have h2 := Own.box2 h1.K os t'
  simp only [heap_size_alloc_] at h2
  exact ⟨h1.alloc _, h2⟩
theorem Two.step {w w1 w2 : World} {cs os : Array Value} (h : Two w w1 cs os) (hb : Below w1.heap.size w1 w2) : Two w w2 cs os := ⟨h.A.step hb, h.O.step hb⟩

set_option maxHeartbeats 1000000 in
theorem eqPlan_same (v v' : Value) (d : PlanD) (w : World) (h : IsPlan w w.heap.size v d) (h' : IsPlan w w.heap.size v' d) :
    Calls Tryz.prog 15 #[v, v'] w fun e w' => e = .returned (.bool true) ∧ Below w.heap.size w w' := by
  obtain ⟨⟨A0, A1, A2, A3, c0, c1, c2, c3, rfl, s0, s1, s2, s3⟩, b0, b1, b2, b3⟩ := h
  obtain ⟨⟨A0', A1', A2', A3', c0', c1', c2', c3', rfl, s0', s1', s2', s3'⟩, -, -, -, -⟩ := h'
  obtain ⟨n0, n1, n2, n3, x0, x1, x2, x3, l, p, t⟩ := d
  dsimp only at *
  have S0 := Lib.hid s0
  have S1 := Lib.hid s1
  have S2 := Lib.hid s2
  have S3 := Lib.hid s3
  have S0' := Lib.hid s0'
  have S1' := Lib.hid s1'
  have S2' := Lib.hid s2'
  have S3' := Lib.hid s3'
  have B0 := Lib.hid b0
  have B1 := Lib.hid b1
  have B2 := Lib.hid b2
  have B3 := Lib.hid b3
  clear s0 s1 s2 s3 s0' s1' s2' s3' b0 b1 b2 b3
  go_enter Tryz.func15, Tryz.ntmps15
  go_wp2_with fail
  have T1 := Two.start w (planC A0 A1 A2 A3 n0 c0 n1 c1 n2 c2 n3 c3 l p t) (planC A0' A1' A2' A3' n0 c0' n1 c1' n2 c2' n3 c3' l p t) 47 47
  refine (eqPodS_same _ _ _ _ _ x0 _ (S0.out.own T1.A) (S0'.out.own T1.A) B0.out).mono ?_
  rintro e w2 ⟨rfl, hb⟩
  have T2 := T1.step hb
  have hC := T2.A.C
  have hD := T2.O.C
  clear hb T1
  go_wp2_with fail
  refine (eqInt64S_same _ _ _ _ _ x1 _ (S1.out.own T2.A) (S1'.out.own T2.A) B1.out).mono ?_
  rintro e w3 ⟨rfl, hb⟩
  have T3 := T2.step hb
  clear hC hD hb T2
  have hC := T3.A.C
  have hD := T3.O.C
  go_wp2_with fail
  refine (eqMountS_same _ _ _ _ _ x2 _ (S2.out.own T3.A) (S2'.out.own T3.A) B2.out).mono ?_
  rintro e w4 ⟨rfl, hb⟩
  have T4 := T3.step hb
  clear hC hD hb T3
  have hC := T4.A.C
  have hD := T4.O.C
  go_wp2_with fail
  refine (eqDeviceS_same _ _ _ _ _ x3 _ (S3.out.own T4.A) (S3'.out.own T4.A) B3.out).mono ?_
  rintro e w5 ⟨rfl, hb⟩
  have T5 := T4.step hb
  clear hC hD hb T4
  have hC := T5.A.C
  have hD := T5.O.C
  go_wp2_with fail
  go_ret
  exact ⟨rfl, T5.A.K⟩

def szP (d : PlanD) : Int := if d.n0 + d.n1 + d.n2 + d.n3 ≤ 1048576 then 1048576 - d.n0 - d.n1 - d.n2 - d.n3 else -1
set_option maxHeartbeats 2000000 in
theorem szPlan_any (v : Value) (d : PlanD) (w : World) (h : IsPlan w w.heap.size v d) :
    Calls Tryz.prog 7 #[v, .int .i64 1048576] w fun e w' => e = .returned (.int .i64 (szP d)) ∧ Below w.heap.size w w' := by
  obtain ⟨⟨A0, A1, A2, A3, c0, c1, c2, c3, rfl, -, -, -, -⟩, b0, b1, b2, b3⟩ := h
  obtain ⟨n0, n1, n2, n3, x0, x1, x2, x3, l, p, t⟩ := d
  dsimp only at *
  go_enter Tryz.func7, Tryz.ntmps7
  go_wp2_with fail
  refine (szPodS_any _ _ _ _ _ b0 (by omega) (by omega)).mono ?_
  rintro e w2 ⟨rfl, rfl⟩
  by_cases h0 : (n0 : Int) ≤ 1048576
  · rw [szI_pos h0]
    go_wp2_with fail
    refine (szInt64S_any _ _ _ _ _ b1 (by omega) (by omega)).mono ?_
    rintro e w2 ⟨rfl, rfl⟩
    by_cases h1 : (n1 : Int) ≤ 1048576 - n0
    · rw [szI_pos h1]
      go_wp2_with fail
      refine (szMountS_any _ _ _ _ _ b2 (by omega) (by omega)).mono ?_
      rintro e w2 ⟨rfl, rfl⟩
      by_cases h2 : (n2 : Int) ≤ 1048576 - n0 - n1
      · rw [szI_pos h2]
        go_wp2_with fail
        refine (szDeviceS_any _ _ _ _ _ b3 (by omega) (by omega)).mono ?_
        rintro e w2 ⟨rfl, rfl⟩
        by_cases h3 : (n3 : Int) ≤ 1048576 - n0 - n1 - n2
        · rw [szI_pos h3]
          go_wp2_with fail
          go_ret
          exact ⟨ret_int (by simp only [szP]; rw [if_pos (by omega)]), (Below.refl _ _).alloc (Nat.le_refl _) _⟩
        · rw [szI_neg h3]
          go_wp2
          go_ret
          exact ⟨ret_int (by simp only [szP]; rw [if_neg (by omega)]), (Below.refl _ _).alloc (Nat.le_refl _) _⟩
      · rw [szI_neg h2]
        go_wp2
        go_ret
        exact ⟨ret_int (by simp only [szP]; rw [if_neg (by omega)]), (Below.refl _ _).alloc (Nat.le_refl _) _⟩
    · rw [szI_neg h1]
      go_wp2
      go_ret
      exact ⟨ret_int (by simp only [szP]; rw [if_neg (by omega)]), (Below.refl _ _).alloc (Nat.le_refl _) _⟩
  · rw [szI_neg h0]
    go_wp2
    go_ret
    exact ⟨ret_int (by simp only [szP]; rw [if_neg (by omega)]), (Below.refl _ _).alloc (Nat.le_refl _) _⟩
end Go.Proofs.YtdphpjnecjofeaaGreatDoor
/- PjA -/
set_option linter.unusedVariables false
namespace Go.Proofs.YtdphpjnecjofeaaGreatDoor
open Go.RowKit
/-- The indexes below n at which f is the wanted number, rising. -/
def hits (n : Nat) (f : Nat → Int) (wanted : Int) : List Int := ((List.range n).filter (fun i => f i == wanted)).map (fun i : Nat => (i : Int))
theorem hits_yes {n : Nat} {f : Nat → Int} {wanted : Int} (h : (f n == wanted) = true) : hits (n + 1) f wanted = hits n f wanted ++ [(n : Int)] := by
  simp [hits, List.range_succ, List.filter_append, h]
theorem hits_no {n : Nat} {f : Nat → Int} {wanted : Int} (h : (f n == wanted) = false) : hits (n + 1) f wanted = hits n f wanted := by
  simp [hits, List.range_succ, List.filter_append, h]
theorem hits_le (n : Nat) (f : Nat → Int) (wanted : Int) : (hits n f wanted).length ≤ n := by
  have := List.length_filter_le (fun i => f i == wanted) (List.range n)
  simpa [hits] using this

/-- What the chapter asks of these functions: the indexes, or nothing where the plan is not right. -/
def found (d : PlanD) (n : Nat) (f : Nat → Int) (wanted : Int) : List Int := if planOkB d then hits n f wanted else []
theorem found_yes {d : PlanD} {n : Nat} {f : Nat → Int} {wanted : Int} (h : planOkB d = true) : found d n f wanted = hits n f wanted := if_pos h
theorem found_no {d : PlanD} {n : Nat} {f : Nat → Int} {wanted : Int} (h : planOkB d = false) : found d n f wanted = [] := if_neg (by rw [h]; decide)
end Go.Proofs.YtdphpjnecjofeaaGreatDoor
/- Pk -/
set_option linter.unusedVariables false
namespace Go.Proofs.YtdphpjnecjofeaaGreatDoor
open Go.RowKit

set_option maxHeartbeats 1000000 in
theorem markInt64S_any (A : Option Addr) (n c g : Nat) (k0 : Int) (x : Nat → Int) (w : World) (hA : 0 < n → A = some ⟨g, 0, none⟩) (R : RowF w g n x) (hn : n ≤ 1048576) (h0 : 0 ≤ k0) (h1 : k0 ≤ 8388608) :
    Calls Tryz.prog 58 #[.slice A n c, .int .i64 k0] w fun e w' => e = .returned (.int .i64 (k0 + n)) ∧ RowF w' g n (fun j => k0 + j) ∧ Keeps (· = g) w w' := by
  have HN := Lib.hid hn
  have hn' : n ≤ 2 ^ 63 - 1 := by omega
  have HA := Lib.hid hA
  clear hn hA
  go_enter Tryz.func58, Tryz.ntmps58
  go_wp2
  go_loopw [1, 5] (fun kk i wr => ∃ m : Nat, m ≤ n ∧ i = .int .i64 m ∧ kk = .int .i64 (k0 + m) ∧ RowF wr g n (fun j => if j < m then k0 + j else x j) ∧ Keeps (· = g) w wr) (fun _ i _ => n - (intOf i).toNat)
  case atStart => exact ⟨0, Nat.zero_le _, rfl, by simp, R.congr fun j _ => by simp, Keeps.refl _ _⟩
  case round =>
    obtain ⟨m, hm, rfl, rfl, Y, K⟩ := hrel
    by_cases hlt : m < n
    · obtain rfl := HA.out (by omega)
      obtain ⟨t0, f0⟩ := Y m hlt
      have hb := HN.out
      go_wp2
      refine ⟨⟨m + 1, by omega, by go_num, by go_num, ?_, K.set rfl _⟩, by simp [intOf]; omega⟩
      refine (Y.set (i := m) (k0 + m)).congr fun j hj => ?_
      by_cases e : j = m
      · subst e; simp
      · simp only [if_neg e]
        by_cases e' : j < m
        · rw [if_pos e', if_pos (by omega)]
        · rw [if_neg e', if_neg (by omega)]
    · obtain rfl : m = n := by omega
      go_wp2
      go_ret
      exact ⟨rfl, Y.congr fun j hj => if_pos hj, K⟩

set_option maxHeartbeats 1000000 in
theorem markPodS_any (A : Option Addr) (n c g : Nat) (k0 : Int) (x : Nat → Int) (w : World) (hA : 0 < n → A = some ⟨g, 0, none⟩) (R : RowF w g (n * 4) x) (hn : n ≤ 1048576) (h0 : 0 ≤ k0) (h1 : k0 ≤ 8388608) :
    Calls Tryz.prog 57 #[.slice A n c, .int .i64 k0] w fun e w' => e = .returned (.int .i64 (k0 + 4 * n)) ∧ Keeps (· = g) w w' := by
  have HN := Lib.hid hn
  have hn' : n ≤ 2 ^ 63 - 1 := by omega
  have HA := Lib.hid hA
  clear hn hA
  go_enter Tryz.func57, Tryz.ntmps57
  go_wp2
  go_loopw [1, 5] (fun kk i wr => ∃ m : Nat, m ≤ n ∧ i = .int .i64 m ∧ kk = .int .i64 (k0 + 4 * m) ∧ Ints wr g (n * 4) ∧ Keeps (· = g) w wr) (fun _ i _ => n - (intOf i).toNat)
  case atStart => exact ⟨0, Nat.zero_le _, rfl, by simp, ⟨x, R⟩, Keeps.refl _ _⟩
  case round =>
    obtain ⟨m, hm, rfl, rfl, Y, K⟩ := hrel
    by_cases hlt : m < n
    · obtain rfl := HA.out (by omega)
      obtain ⟨v0, t0, f0⟩ := Y.at_ (j := m * 4) (by omega)
      obtain ⟨v1, t1, f1⟩ := Y.at_ (j := m * 4 + 1) (by omega)
      obtain ⟨v2, t2, f2⟩ := Y.at_ (j := m * 4 + 2) (by omega)
      obtain ⟨v3, t3, f3⟩ := Y.at_ (j := m * 4 + 3) (by omega)
      have hb := HN.out
      go_wp2
      exact ⟨⟨m + 1, by omega, by go_num, by congr 1; omega, Y.set.set.set.set, (((K.set rfl _).set rfl _).set rfl _).set rfl _⟩, by simp [intOf]; omega⟩
    · obtain rfl : m = n := by omega
      go_wp2
      go_ret
      exact ⟨rfl, K⟩

set_option maxHeartbeats 1000000 in
theorem markMountS_any (A : Option Addr) (n c g : Nat) (k0 : Int) (x : Nat → Int) (w : World) (hA : 0 < n → A = some ⟨g, 0, none⟩) (R : RowF w g (n * 2) x) (hn : n ≤ 1048576) (h0 : 0 ≤ k0) (h1 : k0 ≤ 8388608) :
    Calls Tryz.prog 59 #[.slice A n c, .int .i64 k0] w fun e w' => e = .returned (.int .i64 (k0 + 2 * n)) ∧ Keeps (· = g) w w' := by
  have HN := Lib.hid hn
  have hn' : n ≤ 2 ^ 63 - 1 := by omega
  have HA := Lib.hid hA
  clear hn hA
  go_enter Tryz.func59, Tryz.ntmps59
  go_wp2
  go_loopw [1, 5] (fun kk i wr => ∃ m : Nat, m ≤ n ∧ i = .int .i64 m ∧ kk = .int .i64 (k0 + 2 * m) ∧ Ints wr g (n * 2) ∧ Keeps (· = g) w wr) (fun _ i _ => n - (intOf i).toNat)
  case atStart => exact ⟨0, Nat.zero_le _, rfl, by simp, ⟨x, R⟩, Keeps.refl _ _⟩
  case round =>
    obtain ⟨m, hm, rfl, rfl, Y, K⟩ := hrel
    by_cases hlt : m < n
    · obtain rfl := HA.out (by omega)
      obtain ⟨v0, t0, f0⟩ := Y.at_ (j := m * 2) (by omega)
      obtain ⟨v1, t1, f1⟩ := Y.at_ (j := m * 2 + 1) (by omega)
      have hb := HN.out
      go_wp2
      exact ⟨⟨m + 1, by omega, by go_num, by congr 1; omega, Y.set.set, (K.set rfl _).set rfl _⟩, by simp [intOf]; omega⟩
    · obtain rfl : m = n := by omega
      go_wp2
      go_ret
      exact ⟨rfl, K⟩

set_option maxHeartbeats 1000000 in
theorem markDeviceS_any (A : Option Addr) (n c g : Nat) (k0 : Int) (x : Nat → Int) (w : World) (hA : 0 < n → A = some ⟨g, 0, none⟩) (R : RowF w g (n) x) (hn : n ≤ 1048576) (h0 : 0 ≤ k0) (h1 : k0 ≤ 8388608) :
    Calls Tryz.prog 60 #[.slice A n c, .int .i64 k0] w fun e w' => e = .returned (.int .i64 (k0 + n)) ∧ Keeps (· = g) w w' := by
  have HN := Lib.hid hn
  have hn' : n ≤ 2 ^ 63 - 1 := by omega
  have HA := Lib.hid hA
  clear hn hA
  go_enter Tryz.func60, Tryz.ntmps60
  go_wp2
  go_loopw [1, 5] (fun kk i wr => ∃ m : Nat, m ≤ n ∧ i = .int .i64 m ∧ kk = .int .i64 (k0 + m) ∧ Ints wr g (n) ∧ Keeps (· = g) w wr) (fun _ i _ => n - (intOf i).toNat)
  case atStart => exact ⟨0, Nat.zero_le _, rfl, by simp, ⟨x, R⟩, Keeps.refl _ _⟩
  case round =>
    obtain ⟨m, hm, rfl, rfl, Y, K⟩ := hrel
    by_cases hlt : m < n
    · obtain rfl := HA.out (by omega)
      obtain ⟨v0, t0, f0⟩ := Y.at_ (j := m) (by omega)
      have hb := HN.out
      go_wp2
      exact ⟨⟨m + 1, by omega, by go_num, by congr 1; omega, Y.set, K.set rfl _⟩, by simp [intOf]; omega⟩
    · obtain rfl : m = n := by omega
      go_wp2
      go_ret
      exact ⟨rfl, K⟩

end Go.Proofs.YtdphpjnecjofeaaGreatDoor
/- PmA -/
set_option linter.unusedVariables false
namespace Go.Proofs.YtdphpjnecjofeaaGreatDoor
open Go.RowKit
theorem NewPlan.below {w0 w w' : World} {d : PlanD} {g0 g1 g2 g3 : Nat} (h : NewPlan w0 w d g0 g1 g2 g3) (hb : Below w.heap.size w w') : NewPlan w0 w' d g0 g1 g2 g3 := by
  obtain ⟨l0, l1, l2, l3, l4, R0, R1, R2, R3⟩ := h
  exact ⟨l0, l1, l2, l3, Nat.lt_of_lt_of_le l4 hb.size, R0.below hb (by omega), R1.below hb (by omega), R2.below hb (by omega), R3.below hb (by omega)⟩

end Go.Proofs.YtdphpjnecjofeaaGreatDoor
/- Ph -/
set_option linter.unusedVariables false
namespace Go.Proofs.YtdphpjnecjofeaaGreatDoor
open Go.ChangeShapes Go.WideShapes Go.ChangeAt Go.RowKit Go.Deep

theorem fields_plan : ∃ fs, Tryz.prog.underlying 27 = some (.struct fs) ∧ oneCellFields Tryz.prog fs = true ∧ Tryz.prog.cellsOf 27 = fs.size ∧ fs.size = 7 ∧
    fs.map (·.type) = #[22, 23, 24, 25, 2, 2, 2] :=
  ⟨_, Tryz.underlying27, by kernel_rfl, by kernel_rfl, by kernel_rfl, by kernel_rfl⟩

theorem fs_pod : ∃ fs, Tryz.prog.underlying 147 = some (.struct fs) ∧ oneCellFields Tryz.prog fs = true ∧ intFields Tryz.prog fs = true ∧ fs.size = 4 := ⟨_, Tryz.underlying147, by kernel_rfl, by kernel_rfl, by kernel_rfl⟩
theorem fs_mount : ∃ fs, Tryz.prog.underlying 151 = some (.struct fs) ∧ oneCellFields Tryz.prog fs = true ∧ intFields Tryz.prog fs = true ∧ fs.size = 2 := ⟨_, Tryz.underlying151, by kernel_rfl, by kernel_rfl, by kernel_rfl⟩
theorem fs_device : ∃ fs, Tryz.prog.underlying 155 = some (.struct fs) ∧ oneCellFields Tryz.prog fs = true ∧ intFields Tryz.prog fs = true ∧ fs.size = 1 := ⟨_, Tryz.underlying155, by kernel_rfl, by kernel_rfl, by kernel_rfl⟩

set_option maxRecDepth 100000 in
theorem open_plan {H : Type} {enc : TypeId × Value → H} {W : World} {spare : Nat → Bool} {held : Bool} {r : Reach} {b0 : Nat} {v : Value} {d : DataW H} {p : List MemPlace}
    (hv : Value.okWide Tryz.prog W r b0 27 v) (h : DataW.Trod enc Tryz.prog W 0 spare held 27 v d p) : ∃ D : PlanD, IsPlan W W.heap.size v D := by
  obtain ⟨fs, hu, hone, hC, h7, hts⟩ := fields_plan
  obtain ⟨cs, rfl, hsz, n, hf⟩ := agg_of_trod hu hone hC hv h
  rw [h7] at hsz
  obtain ⟨f0, j0, t0⟩ := at_of_map hts (j := 0) rfl
  obtain ⟨f1, j1, t1⟩ := at_of_map hts (j := 1) rfl
  obtain ⟨f2, j2, t2⟩ := at_of_map hts (j := 2) rfl
  obtain ⟨f3, j3, t3⟩ := at_of_map hts (j := 3) rfl
  obtain ⟨f4, j4, t4⟩ := at_of_map hts (j := 4) rfl
  obtain ⟨f5, j5, t5⟩ := at_of_map hts (j := 5) rfl
  obtain ⟨f6, j6, t6⟩ := at_of_map hts (j := 6) rfl
  obtain ⟨y0, h0⟩ := hf 0 f0 j0
  obtain ⟨y1, h1⟩ := hf 1 f1 j1
  obtain ⟨y2, h2⟩ := hf 2 f2 j2
  obtain ⟨y3, h3⟩ := hf 3 f3 j3
  obtain ⟨y4, h4⟩ := hf 4 f4 j4
  obtain ⟨y5, h5⟩ := hf 5 f5 j5
  obtain ⟨y6, h6⟩ := hf 6 f6 j6
  rw [t0] at h0
  rw [t1] at h1
  rw [t2] at h2
  rw [t3] at h3
  rw [t4] at h4
  rw [t5] at h5
  rw [t6] at h6
  obtain ⟨ps, ps1, ps2, ps3, ps4⟩ := fs_pod
  obtain ⟨ms, ms1, ms2, ms3, ms4⟩ := fs_mount
  obtain ⟨ds, ds1, ds2, ds3, ds4⟩ := fs_device
  obtain ⟨A0, n0, c0, X0, e0, b0, s0⟩ := sl_structs Tryz.underlying22 ps1 ps2 ps3 (by kernel_rfl) ps4 (by omega) h0
  obtain ⟨A1, n1, c1, X1, e1, b1, s1⟩ := sl_ints Tryz.underlying23 Tryz.underlying2 (by kernel_rfl) h1
  obtain ⟨A2, n2, c2, X2, e2, b2, s2⟩ := sl_structs Tryz.underlying24 ms1 ms2 ms3 (by kernel_rfl) ms4 (by omega) h2
  obtain ⟨A3, n3, c3, X3, e3, b3, s3⟩ := sl_structs Tryz.underlying25 ds1 ds2 ds3 (by kernel_rfl) ds4 (by omega) h3
  obtain ⟨l, e4, _, _⟩ := DataW.trod_int Tryz.underlying2 h4
  obtain ⟨p, e5, _, _⟩ := DataW.trod_int Tryz.underlying2 h5
  obtain ⟨t, e6, _, _⟩ := DataW.trod_int Tryz.underlying2 h6
  injection e4 with e4 _
  injection e5 with e5 _
  injection e6 with e6 _
  refine ⟨⟨n0, n1, n2, n3, X0, X1, X2, X3, l, p, t⟩, ⟨A0, A1, A2, A3, c0, c1, c2, c3, ?_, s0, s1, s2, s3⟩, b0, b1, b2, b3⟩
  congr 1
  apply Array.ext (by simp [hsz])
  intro i hi _
  match i, hi with
  | 0, _ => exact e0
  | 1, _ => exact e1
  | 2, _ => exact e2
  | 3, _ => exact e3
  | 4, _ => exact e4
  | 5, _ => exact e5
  | 6, _ => exact e6
  | k + 7, hi => omega

end Go.Proofs.YtdphpjnecjofeaaGreatDoor
/- Qa -/
set_option linter.unusedVariables false
namespace Go.Proofs.YtdphpjnecjofeaaGreatDoor
open Go.RowKit

/-- The numbers below n at which p is true, rising. -/
def picks (n : Nat) (p : Nat → Bool) : List Int := ((List.range n).filter p).map (fun i : Nat => (i : Int))
theorem picks_yes {n : Nat} {p : Nat → Bool} (h : p n = true) : picks (n + 1) p = picks n p ++ [(n : Int)] := by
  simp [picks, List.range_succ, List.filter_append, h]
theorem picks_no {n : Nat} {p : Nat → Bool} (h : p n = false) : picks (n + 1) p = picks n p := by
  simp [picks, List.range_succ, List.filter_append, h]
theorem picks_le (n : Nat) (p : Nat → Bool) : (picks n p).length ≤ n := by
  have := List.length_filter_le p (List.range n)
  simpa [picks] using this
theorem picks_mem {n : Nat} {p : Nat → Bool} {x : Int} (h : x ∈ picks n p) : ∃ i : Nat, i < n ∧ x = i ∧ p i = true := by
  simp only [picks, List.mem_map, List.mem_filter, List.mem_range] at h
  obtain ⟨i, ⟨h1, h2⟩, h3⟩ := h
  exact ⟨i, h1, h3.symm, h2⟩
theorem picks_rise (n : Nat) (p : Nat → Bool) : (picks n p).Pairwise (· < ·) := by
  unfold picks
  rw [List.pairwise_map]
  exact ((List.pairwise_lt_range (n := n)).sublist List.filter_sublist).imp fun h => by omega
theorem hits_picks (n : Nat) (f : Nat → Int) (x : Int) : hits n f x = picks n (fun i => f i == x) := rfl

def podsL (d : PlanD) (b : Int) : List Int := found d d.n0 (fun i => d.x0 (i * 4 + 1)) b
theorem podsL_le (d : PlanD) (b : Int) : (podsL d b).length ≤ d.n0 := by
  unfold podsL found
  split
  · exact hits_le _ _ _
  · exact Nat.zero_le _
def hasB (d : PlanD) (b : Nat) : Bool := decide (0 < (podsL d b).length)
def bandsL (d : PlanD) : List Int := picks 6 (hasB d)
theorem bandsL_le (d : PlanD) : (bandsL d).length ≤ 6 := picks_le _ _
def firstOver (l : List Int) (b : Int) : Int := (l.find? (fun x => decide (b < x))).getD (-1)
def nextL (d : PlanD) (b : Int) : Int := firstOver (bandsL d) b
def timeOf (d : PlanD) (i : Nat) : Int := d.x0 (i * 4 + 3) + d.x0 (i * 4 + 2) + 4
def most (d : PlanD) (l : List Int) : Int := l.foldl (fun n i => max n (timeOf d i.toNat)) 0
def bandT (d : PlanD) (b : Int) : Int := if planOkB d then most d (podsL d b) else -1
def sumB : Nat → (Nat → Int) → Int
  | 0, _ => 0
  | k + 1, f => sumB k f + f k
theorem firstOver_none {l : List Int} {b : Int} (h : ∀ x ∈ l, x ≤ b) : firstOver l b = -1 := by
  unfold firstOver
  rw [List.find?_eq_none.2 (fun x hx => by have := h x hx; simp; omega)]
  rfl
theorem firstOver_at {l : List Int} {b : Int} {i : Nat} (hi : i < l.length) (h : ∀ j (hj : j < i), l[j]'(by omega) ≤ b) (hb : b < l[i]) : firstOver l b = l[i] := by
  unfold firstOver
  have e : l.find? (fun x => decide (b < x)) = some l[i] := by
    rw [List.find?_eq_some_iff_getElem]
    exact ⟨by simpa using hb, i, hi, rfl, fun j hj => by have := h j hj; simp; omega⟩
  rw [e]
  rfl

/-- The number ahead of the i-th, -1 ahead of the first. -/
def ahead (l : List Int) (i : Nat) : Int := if i = 0 then -1 else l.getD (i - 1) 0
theorem firstOver_ahead {l : List Int} (hp : l.Pairwise (· < ·)) (h0 : ∀ x ∈ l, 0 ≤ x) {i : Nat} (hi : i < l.length) : firstOver l (ahead l i) = l.getD i 0 := by
  have hlt := List.pairwise_iff_getElem.1 hp
  have hg : l.getD i 0 = l[i] := by simp [List.getD, hi]
  rw [hg]
  by_cases e : i = 0
  · subst e
    exact firstOver_at hi (fun j hj => absurd hj (by omega)) (by have := h0 _ (List.getElem_mem hi); simp [ahead]; omega)
  · have ha : ahead l i = l[i - 1]'(by omega) := by simp only [ahead, if_neg e]; simp [List.getD, show i - 1 < l.length by omega]
    rw [ha]
    refine firstOver_at hi (fun j hj => ?_) (hlt _ _ (by omega) hi (by omega))
    by_cases e2 : j = i - 1
    · subst e2; exact Int.le_refl _
    · exact Int.le_of_lt (hlt j (i - 1) (by omega) (by omega) (by omega))
theorem firstOver_end {l : List Int} (hp : l.Pairwise (· < ·)) : firstOver l (ahead l l.length) = -1 := by
  have hlt := List.pairwise_iff_getElem.1 hp
  refine firstOver_none fun x hx => ?_
  obtain ⟨j, hj, rfl⟩ := List.getElem_of_mem hx
  have e : l.length ≠ 0 := by omega
  have ha : ahead l l.length = l[l.length - 1]'(by omega) := by simp only [ahead, if_neg e]; simp [List.getD, show l.length - 1 < l.length by omega]
  rw [ha]
  by_cases e2 : j = l.length - 1
  · subst e2; exact Int.le_refl _
  · exact Int.le_of_lt (hlt j (l.length - 1) hj (by omega) (by omega))

theorem getD_at {l : List Int} {i : Nat} (hi : i < l.length) : l.getD i 0 = l[i] := by simp [List.getD, hi]
theorem planOk_pods {d : PlanD} (h : planOkB d = true) : ∀ i, i < d.n0 → podB d.n1 d.x0 i = true := by
  simp only [planOkB, Bool.and_eq_true] at h
  exact allB_true.1 h.1.1.1.2
theorem planOk_band {d : PlanD} (h : planOkB d = true) {i : Nat} (hi : i < d.n0) : 0 ≤ d.x0 (i * 4 + 1) ∧ d.x0 (i * 4 + 1) ≤ 5 := by
  have := planOk_pods h i hi
  simp only [podB, Bool.and_eq_true, inB_true] at this
  exact this.1.1.2
theorem planOk_lock {d : PlanD} (h : planOkB d = true) : 0 ≤ d.l ∧ d.l ≤ 500 ∧ d.n0 ≤ 12 ∧ d.n1 ≤ 4 ∧ d.n2 ≤ 12 ∧ d.n3 ≤ 12 := by
  simp only [planOkB, timesB, sizesB, Bool.and_eq_true, inB_true, decide_eq_true_eq] at h
  obtain ⟨⟨⟨⟨⟨h1, h2⟩, -⟩, -⟩, -⟩, -⟩ := h
  omega

theorem hits_mem {n : Nat} {f : Nat → Int} {b x : Int} (h : x ∈ hits n f b) : ∃ i : Nat, i < n ∧ x = i ∧ f i = b := by
  rw [hits_picks] at h
  obtain ⟨i, h1, h2, h3⟩ := picks_mem h
  exact ⟨i, h1, h2, by simpa using h3⟩
theorem podsL_mem {d : PlanD} {b x : Int} (h : x ∈ podsL d b) : ∃ i : Nat, i < d.n0 ∧ x = i ∧ d.x0 (i * 4 + 1) = b := by
  unfold podsL found at h
  split at h
  · exact hits_mem h
  · cases h
theorem podsL_at {d : PlanD} {b : Int} {j : Nat} (hj : j < (podsL d b).length) : ∃ i : Nat, i < d.n0 ∧ (podsL d b).getD j 0 = i ∧ d.x0 (i * 4 + 1) = b := by
  have e : (podsL d b).getD j 0 = (podsL d b)[j] := by simp [List.getD, hj]
  rw [e]
  exact podsL_mem (List.getElem_mem hj)

theorem bandsL_rise (d : PlanD) : (bandsL d).Pairwise (· < ·) := picks_rise _ _
theorem bandsL_nonneg (d : PlanD) : ∀ x ∈ bandsL d, 0 ≤ x := fun x hx => by
  obtain ⟨i, -, rfl, -⟩ := picks_mem hx
  omega
theorem bands_next {d : PlanD} {i : Nat} (hi : i < (bandsL d).length) : nextL d (ahead (bandsL d) i) = (bandsL d).getD i 0 := firstOver_ahead (bandsL_rise d) (bandsL_nonneg d) hi
theorem bands_end (d : PlanD) : nextL d (ahead (bandsL d) (bandsL d).length) = -1 := firstOver_end (bandsL_rise d)
end Go.Proofs.YtdphpjnecjofeaaGreatDoor
