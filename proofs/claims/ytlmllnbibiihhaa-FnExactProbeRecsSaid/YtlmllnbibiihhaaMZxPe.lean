/-
  The law's own small functions: sizes, copies, comparisons.
-/
import Derived.Test.YtlmllnbibiihhaaMZxPd
/- Pe -/
set_option linter.unusedVariables false
namespace Go.Proofs.Ytlmllnbibiihhaa
open Go.RowKit
set_option maxHeartbeats 400000 in
theorem toPod_any (a b c d : Int) (w : World) :
    Calls Try.prog 60 #[.agg #[.int .i64 a, .int .i64 b, .int .i64 c, .int .i64 d]] w fun e w' =>
      e = .returned (.agg #[.int .i64 a, .int .i64 b, .int .i64 c, .int .i64 d]) ∧ Below w.heap.size w w' := by
  go_enter Try.func60, Try.ntmps60
  go_wp2
  exact bodyPost_ret (v := .agg #[.int .i64 a, .int .i64 b, .int .i64 c, .int .i64 d]) (by simp [results, Try.results60, go_sem]) rfl ⟨rfl, (((Below.refl _ _).alloc (Nat.le_refl _) _).alloc (by simp) _).alloc (by simp; omega) _⟩
set_option maxHeartbeats 400000 in
theorem toMount_any (a b : Int) (w : World) :
    Calls Try.prog 61 #[.agg #[.int .i64 a, .int .i64 b]] w fun e w' =>
      e = .returned (.agg #[.int .i64 a, .int .i64 b]) ∧ Below w.heap.size w w' := by
  go_enter Try.func61, Try.ntmps61
  go_wp2
  exact bodyPost_ret (v := .agg #[.int .i64 a, .int .i64 b]) (by simp [results, Try.results61, go_sem]) rfl ⟨rfl, (((Below.refl _ _).alloc (Nat.le_refl _) _).alloc (by simp) _).alloc (by simp; omega) _⟩
set_option maxHeartbeats 400000 in
theorem toDevice_any (a : Int) (w : World) :
    Calls Try.prog 62 #[.agg #[.int .i64 a]] w fun e w' =>
      e = .returned (.agg #[.int .i64 a]) ∧ Below w.heap.size w w' := by
  go_enter Try.func62, Try.ntmps62
  go_wp2
  exact bodyPost_ret (v := .agg #[.int .i64 a]) (by simp [results, Try.results62, go_sem]) rfl ⟨rfl, (((Below.refl _ _).alloc (Nat.le_refl _) _).alloc (by simp) _).alloc (by simp; omega) _⟩
set_option maxHeartbeats 400000 in
theorem eqPod_same (a b c d : Int) (w : World) :
    Calls Try.prog 70 #[.agg #[.int .i64 a, .int .i64 b, .int .i64 c, .int .i64 d], .agg #[.int .i64 a, .int .i64 b, .int .i64 c, .int .i64 d]] w fun e w' =>
      e = .returned (.bool true) ∧ Below w.heap.size w w' := by
  go_enter Try.func70, Try.ntmps70
  go_wp2
  go_ret
  exact ⟨rfl, ((Below.refl _ _).alloc (Nat.le_refl _) _).alloc (by simp) _⟩
set_option maxHeartbeats 400000 in
theorem eqMount_same (a b : Int) (w : World) :
    Calls Try.prog 71 #[.agg #[.int .i64 a, .int .i64 b], .agg #[.int .i64 a, .int .i64 b]] w fun e w' =>
      e = .returned (.bool true) ∧ Below w.heap.size w w' := by
  go_enter Try.func71, Try.ntmps71
  go_wp2
  go_ret
  exact ⟨rfl, ((Below.refl _ _).alloc (Nat.le_refl _) _).alloc (by simp) _⟩
set_option maxHeartbeats 400000 in
theorem eqDevice_same (a : Int) (w : World) :
    Calls Try.prog 72 #[.agg #[.int .i64 a], .agg #[.int .i64 a]] w fun e w' =>
      e = .returned (.bool true) ∧ Below w.heap.size w w' := by
  go_enter Try.func72, Try.ntmps72
  go_wp2
  go_ret
  exact ⟨rfl, ((Below.refl _ _).alloc (Nat.le_refl _) _).alloc (by simp) _⟩

theorem info_pod : (Try.prog.info? 99).map (fun i => (i.zero, i.size, i.bytes)) = some (some (.agg #[.int .i64 0, .int .i64 0, .int .i64 0, .int .i64 0]), 4, 32) := by kernel_rfl
theorem info_i64 : (Try.prog.info? 2).map (fun i => (i.zero, i.size, i.bytes)) = some (some (.int .i64 0), 1, 8) := by kernel_rfl
theorem info_mount : (Try.prog.info? 103).map (fun i => (i.zero, i.size, i.bytes)) = some (some (.agg #[.int .i64 0, .int .i64 0]), 2, 16) := by kernel_rfl
theorem info_device : (Try.prog.info? 107).map (fun i => (i.zero, i.size, i.bytes)) = some (some (.agg #[.int .i64 0]), 1, 8) := by kernel_rfl

set_option maxHeartbeats 1000000 in
theorem toPodS_any (A : Option Addr) (n c : Nat) (x : Nat → Int) (w : World) (s : Sl w w.heap.size 4 A n x) (hn : n ≤ 1048576) :
    Calls Try.prog 31 #[.slice A n c] w (Made w (n * 4) n x) := by
  have S := Lib.hid s
  clear s
  obtain ⟨i0, hi, hz0, hz1, hz2⟩ := info_parts info_pod
  have HN := Lib.hid hn
  have hn' : n ≤ 2 ^ 63 - 1 := by omega
  clear hn
  go_enter Try.func31, Try.ntmps31
  go_wp2_with (at_make; refine wpList_make_full _ rfl _ _ 38 rfl w.heap.size 99 i0 (.agg #[.int .i64 0, .int .i64 0, .int .i64 0, .int .i64 0]) 4 Try.underlying38 hi hz0 hz1 _ _ _ _ n rfl rfl rfl rfl ?b2 ?b3 (Nat.le_refl _) ?_)
  case b2 => have := HN.out; rw [hz2]; omega
  case b3 => have := HN.out; unfold maxLen; omega
  intro w1 hown hgrow
  have X : Copying w w1 (n * 4) 0 x := ⟨(Below.refl _ _).grown hgrow (Nat.le_refl _) (fun k hk => by cases hk), (hown.lt _ rfl).2, _, made_row (by omega) rfl hown, fun j hj => absurd hj (by omega)⟩
  clear hown hgrow hz0 hz1 hz2 hi
  go_wp2
  go_loopw [4] (fun i wr => ∃ k : Nat, k ≤ n ∧ i = .int .i64 k ∧ Copying w wr (n * 4) (k * 4) x) (fun i _ => n - (intOf i).toNat)
  case atStart => exact ⟨0, Nat.zero_le _, rfl, by simpa using X⟩
  case round =>
    clear X
    obtain ⟨k, hk, rfl, X⟩ := hrel
    by_cases hlt : k < n
    · obtain ⟨b, off, rfl, hb, q0, q1, q2, q3⟩ := ((S.out.below X.K (Nat.le_refl _)).more X.K.size).cell4 hlt
      go_wp2_with (go_at_call 60; refine (toPod_any _ _ _ _ _).mono ?_; rintro e w2 ⟨rfl, hb2⟩; have X2 := X.step hb2; obtain ⟨v0, t0, f0⟩ := X2.at_ (j := k * 4) (by omega); obtain ⟨v1, t1, f1⟩ := X2.at_ (j := k * 4 + 1) (by omega); obtain ⟨v2, t2, f2⟩ := X2.at_ (j := k * 4 + 2) (by omega); obtain ⟨v3, t3, f3⟩ := X2.at_ (j := k * 4 + 3) (by omega); clear hb2)
      refine ⟨⟨k + 1, by omega, by go_num, ?_⟩, by simp [intOf]; omega⟩
      have e : (k + 1) * 4 = k * 4 + 1 + 1 + 1 + 1 := by omega
      rw [e]
      exact X2.set.set.set.set
    · obtain rfl : k = n := by omega
      go_wp2
      go_ret
      exact X.made

set_option maxHeartbeats 1000000 in
theorem toMountS_any (A : Option Addr) (n c : Nat) (x : Nat → Int) (w : World) (s : Sl w w.heap.size 2 A n x) (hn : n ≤ 1048576) :
    Calls Try.prog 33 #[.slice A n c] w (Made w (n * 2) n x) := by
  have S := Lib.hid s
  clear s
  obtain ⟨i0, hi, hz0, hz1, hz2⟩ := info_parts info_mount
  have HN := Lib.hid hn
  have hn' : n ≤ 2 ^ 63 - 1 := by omega
  clear hn
  go_enter Try.func33, Try.ntmps33
  go_wp2_with (at_make; refine wpList_make_full _ rfl _ _ 39 rfl w.heap.size 103 i0 (.agg #[.int .i64 0, .int .i64 0]) 2 Try.underlying39 hi hz0 hz1 _ _ _ _ n rfl rfl rfl rfl ?b2 ?b3 (Nat.le_refl _) ?_)
  case b2 => have := HN.out; rw [hz2]; omega
  case b3 => have := HN.out; unfold maxLen; omega
  intro w1 hown hgrow
  have X : Copying w w1 (n * 2) 0 x := ⟨(Below.refl _ _).grown hgrow (Nat.le_refl _) (fun k hk => by cases hk), (hown.lt _ rfl).2, _, made_row (by omega) rfl hown, fun j hj => absurd hj (by omega)⟩
  clear hown hgrow hz0 hz1 hz2 hi
  go_wp2
  go_loopw [4] (fun i wr => ∃ k : Nat, k ≤ n ∧ i = .int .i64 k ∧ Copying w wr (n * 2) (k * 2) x) (fun i _ => n - (intOf i).toNat)
  case atStart => exact ⟨0, Nat.zero_le _, rfl, by simpa using X⟩
  case round =>
    clear X
    obtain ⟨k, hk, rfl, X⟩ := hrel
    by_cases hlt : k < n
    · obtain ⟨b, off, rfl, hb, q0, q1⟩ := ((S.out.below X.K (Nat.le_refl _)).more X.K.size).cell2 hlt
      go_wp2_with (go_at_call 61; refine (toMount_any _ _ _).mono ?_; rintro e w2 ⟨rfl, hb2⟩; have X2 := X.step hb2; obtain ⟨v0, t0, f0⟩ := X2.at_ (j := k * 2) (by omega); obtain ⟨v1, t1, f1⟩ := X2.at_ (j := k * 2 + 1) (by omega); clear hb2)
      refine ⟨⟨k + 1, by omega, by go_num, ?_⟩, by simp [intOf]; omega⟩
      have e : (k + 1) * 2 = k * 2 + 1 + 1 := by omega
      rw [e]
      exact X2.set.set
    · obtain rfl : k = n := by omega
      go_wp2
      go_ret
      exact X.made

set_option maxHeartbeats 1000000 in
theorem toDeviceS_any (A : Option Addr) (n c : Nat) (x : Nat → Int) (w : World) (s : Sl w w.heap.size 1 A n x) (hn : n ≤ 1048576) :
    Calls Try.prog 34 #[.slice A n c] w (Made w n n x) := by
  have S := Lib.hid s
  clear s
  obtain ⟨i0, hi, hz0, hz1, hz2⟩ := info_parts info_device
  have HN := Lib.hid hn
  have hn' : n ≤ 2 ^ 63 - 1 := by omega
  clear hn
  go_enter Try.func34, Try.ntmps34
  go_wp2_with (at_make; refine wpList_make_full _ rfl _ _ 40 rfl w.heap.size 107 i0 (.agg #[.int .i64 0]) 1 Try.underlying40 hi hz0 hz1 _ _ _ _ n rfl rfl rfl rfl ?b2 ?b3 (Nat.le_refl _) ?_)
  case b2 => have := HN.out; rw [hz2]; omega
  case b3 => have := HN.out; unfold maxLen; omega
  intro w1 hown hgrow
  have X : Copying w w1 n 0 x := ⟨(Below.refl _ _).grown hgrow (Nat.le_refl _) (fun k hk => by cases hk), (hown.lt _ rfl).2, _, made_row1 hown, fun j hj => absurd hj (by omega)⟩
  clear hown hgrow hz0 hz1 hz2 hi
  go_wp2
  go_loopw [4] (fun i wr => ∃ k : Nat, k ≤ n ∧ i = .int .i64 k ∧ Copying w wr n k x) (fun i _ => n - (intOf i).toNat)
  case atStart => exact ⟨0, Nat.zero_le _, rfl, by simpa using X⟩
  case round =>
    clear X
    obtain ⟨k, hk, rfl, X⟩ := hrel
    by_cases hlt : k < n
    · obtain ⟨b, off, rfl, hb, q0⟩ := ((S.out.below X.K (Nat.le_refl _)).more X.K.size).cell1 hlt
      go_wp2_with (go_at_call 62; refine (toDevice_any _ _).mono ?_; rintro e w2 ⟨rfl, hb2⟩; have X2 := X.step hb2; obtain ⟨v0, t0, f0⟩ := X2.at_ (j := k) (by omega); clear hb2)
      exact ⟨⟨k + 1, by omega, by go_num, X2.set⟩, by simp [intOf]; omega⟩
    · obtain rfl : k = n := by omega
      go_wp2
      go_ret
      exact X.made

set_option maxHeartbeats 1000000 in
theorem toInt64S_any (A : Option Addr) (n c : Nat) (x : Nat → Int) (w : World) (s : Sl w w.heap.size 1 A n x) (hn : n ≤ 1048576) :
    Calls Try.prog 32 #[.slice A n c] w (Made w n n x) := by
  have S := Lib.hid s
  clear s
  obtain ⟨i0, hi, hz0, hz1, hz2⟩ := info_parts info_i64
  have HN := Lib.hid hn
  have hn' : n ≤ 2 ^ 63 - 1 := by omega
  clear hn
  go_enter Try.func32, Try.ntmps32
  go_wp2_with (at_make; refine wpList_make_full _ rfl _ _ 23 rfl w.heap.size 2 i0 (.int .i64 0) 1 Try.underlying23 hi hz0 hz1 _ _ _ _ n rfl rfl rfl rfl ?b2 ?b3 (Nat.le_refl _) ?_)
  case b2 => have := HN.out; rw [hz2]; omega
  case b3 => have := HN.out; unfold maxLen; omega
  intro w1 hown hgrow
  have X : Copying w w1 n 0 x := ⟨(Below.refl _ _).grown hgrow (Nat.le_refl _) (fun k hk => by cases hk), (hown.lt _ rfl).2, _, made_row1 hown, fun j hj => absurd hj (by omega)⟩
  clear hown hgrow hz0 hz1 hz2 hi
  go_wp2
  go_loopw [4] (fun i wr => ∃ k : Nat, k ≤ n ∧ i = .int .i64 k ∧ Copying w wr n k x) (fun i _ => n - (intOf i).toNat)
  case atStart => exact ⟨0, Nat.zero_le _, rfl, by simpa using X⟩
  case round =>
    clear X
    obtain ⟨k, hk, rfl, X⟩ := hrel
    by_cases hlt : k < n
    · obtain ⟨b, off, rfl, hb, q0⟩ := ((S.out.below X.K (Nat.le_refl _)).more X.K.size).cell1 hlt
      obtain ⟨v0, t0, f0⟩ := X.at_ (j := k) (by omega)
      go_wp2
      exact ⟨⟨k + 1, by omega, by go_num, X.set⟩, by simp [intOf]; omega⟩
    · obtain rfl : k = n := by omega
      go_wp2
      go_ret
      exact X.made
end Go.Proofs.Ytlmllnbibiihhaa
