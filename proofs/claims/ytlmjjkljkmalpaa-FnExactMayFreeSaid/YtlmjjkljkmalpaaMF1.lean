/-
  The laws' comparisons of the lists of a state.
-/
import Derived.Test.YtlmjjkljkmalpaaMF0
import Derived.BigQuiet
import Derived.Deep.QuietTactic
import Derived.StillTailTactics
import Derived.Deep.RegionHeld3
/- Ub -/
set_option linter.unusedVariables false
namespace Go.Proofs.Ytlmjjkljkmalpaa
open Go.RowKit

theorem info_podAt : (Try.prog.info? 70).map (fun i => (i.zero, i.size, i.bytes)) = some (some (.agg #[.int .i64 0, .int .i64 0]), 2, 16) := by kernel_rfl
theorem info_mountAt : (Try.prog.info? 68).map (fun i => (i.zero, i.size, i.bytes)) = some (some (.agg #[.bool false, .int .i64 0]), 2, 16) := by kernel_rfl
theorem info_bool : (Try.prog.info? 4).map (fun i => (i.zero, i.size, i.bytes)) = some (some (.bool false), 1, 1) := by kernel_rfl
theorem info_int : (Try.prog.info? 2).map (fun i => (i.zero, i.size, i.bytes)) = some (some (.int .i64 0), 1, 8) := by kernel_rfl

set_option maxHeartbeats 400000 in
theorem toPodAt_any (a b : Int) (w : World) :
    Calls Try.prog 51 #[.agg #[.int .i64 a, .int .i64 b]] w fun e w' => e = .returned (.agg #[.int .i64 a, .int .i64 b]) ∧ Below w.heap.size w w' := by
  go_enter Try.func51, Try.ntmps51
  go_wp2
  exact bodyPost_ret (v := .agg #[.int .i64 a, .int .i64 b]) (by simp [results, Try.results51, go_sem]) rfl ⟨rfl, (((Below.refl _ _).alloc (Nat.le_refl _) _).alloc (by simp) _).alloc (by simp; omega) _⟩
set_option maxHeartbeats 400000 in
theorem toMountAt_any (a : Bool) (b : Int) (w : World) :
    Calls Try.prog 52 #[.agg #[.bool a, .int .i64 b]] w fun e w' => e = .returned (.agg #[.bool a, .int .i64 b]) ∧ Below w.heap.size w w' := by
  go_enter Try.func52, Try.ntmps52
  go_wp2
  exact bodyPost_ret (v := .agg #[.bool a, .int .i64 b]) (by simp [results, Try.results52, go_sem]) rfl ⟨rfl, (((Below.refl _ _).alloc (Nat.le_refl _) _).alloc (by simp) _).alloc (by simp; omega) _⟩
set_option maxHeartbeats 400000 in
theorem eqPodAt_same (a b : Int) (w : World) :
    Calls Try.prog 59 #[.agg #[.int .i64 a, .int .i64 b], .agg #[.int .i64 a, .int .i64 b]] w fun e w' => e = .returned (.bool true) ∧ Below w.heap.size w w' := by
  go_enter Try.func59, Try.ntmps59
  go_wp2
  go_ret
  exact ⟨rfl, ((Below.refl _ _).alloc (Nat.le_refl _) _).alloc (by simp) _⟩
set_option maxHeartbeats 400000 in
theorem eqMountAt_same (a : Bool) (b : Int) (w : World) :
    Calls Try.prog 60 #[.agg #[.bool a, .int .i64 b], .agg #[.bool a, .int .i64 b]] w fun e w' => e = .returned (.bool true) ∧ Below w.heap.size w w' := by
  go_enter Try.func60, Try.ntmps60
  cases a
  all_goals
    go_wp2
    go_ret
    exact ⟨rfl, ((Below.refl _ _).alloc (Nat.le_refl _) _).alloc (by simp) _⟩

set_option maxHeartbeats 1000000 in
theorem toPodAtS_any (A : Option Addr) (c : Nat) (l : List (Int × Int)) (w : World) (h : SlV w w.heap.size 2 A l.length (podCs l)) (hn : l.length ≤ 1048576) :
    Calls Try.prog 29 #[.slice A l.length c] w (MadeV w l.length (podCs l)) := by
  have S := Lib.hid h
  clear h
  obtain ⟨i0, hi, hz0, hz1, hz2⟩ := info_parts info_podAt
  have hcl := podCs_len l
  generalize hq : l.length = n at *
  have HQ := Lib.hid hq
  have HN := Lib.hid hn
  have hn' : n ≤ 2 ^ 63 - 1 := by omega
  have HCL := Lib.hid hcl
  clear hn hq hcl
  go_enter Try.func29, Try.ntmps29
  go_wp2_with (at_make; refine wpList_make_full _ rfl _ _ 42 rfl w.heap.size 70 i0 (.agg #[.int .i64 0, .int .i64 0]) 2 Try.underlying42 hi hz0 hz1 _ _ _ _ n rfl rfl rfl rfl ?b2 ?b3 (Nat.le_refl _) ?_)
  case b2 => have := HN.out; rw [hz2]; omega
  case b3 => have := HN.out; unfold maxLen; omega
  intro w1 hown hgrow
  have X : CopyV w w1 0 (podCs l) := CopyV.start hown hgrow HCL.out
  clear hown hgrow hz0 hz1 hz2 hi
  go_wp2
  go_loopw [4] (fun i wr => ∃ k : Nat, k ≤ n ∧ i = .int .i64 k ∧ CopyV w wr (k * 2) (podCs l)) (fun i _ => n - (intOf i).toNat)
  case atStart => exact ⟨0, Nat.zero_le _, rfl, by simpa using X⟩
  case round =>
    clear X
    obtain ⟨k, hk, rfl, X⟩ := hrel
    by_cases hlt : k < n
    · obtain ⟨b, off, rfl, hb, hc⟩ := ((S.out.below X.K (Nat.le_refl _)).more X.K.size).cell hlt
      have hp := podCs_at l (i := k) (by rw [HQ.out]; exact hlt)
      have q0 := (hc 0 (by decide)).trans hp.1
      have q1 := (hc 1 (by decide)).trans hp.2
      rw [Nat.add_zero] at q0
      have HP := Lib.hid hp
      clear hc hp
      generalize podA l k = r at *
      obtain ⟨x, y⟩ := r
      dsimp only at q0 q1
      go_wp2_with (go_at_call 51; refine (toPodAt_any _ _ _).mono ?_; rintro e w2 ⟨rfl, hb2⟩; have X2 := X.step hb2; obtain ⟨v0, t0, f0⟩ := X2.at_ (j := k * 2) (by rw [HCL.out]; omega); obtain ⟨v1, t1, f1⟩ := X2.at_ (j := k * 2 + 1) (by rw [HCL.out]; omega); clear hb2)
      refine ⟨⟨k + 1, by omega, by go_num, ?_⟩, by simp [intOf]; omega⟩
      have e : (k + 1) * 2 = k * 2 + 1 + 1 := by omega
      rw [e]
      exact (X2.set HP.out.1).set HP.out.2
    · obtain rfl : k = n := by omega
      go_wp2
      go_ret
      exact X.made (by rw [HCL.out]; exact Nat.le_refl _)
set_option maxHeartbeats 1000000 in
theorem toMountAtS_any (A : Option Addr) (c : Nat) (l : List (Bool × Int)) (w : World) (h : SlV w w.heap.size 2 A l.length (mntCs l)) (hn : l.length ≤ 1048576) :
    Calls Try.prog 30 #[.slice A l.length c] w (MadeV w l.length (mntCs l)) := by
  have S := Lib.hid h
  clear h
  obtain ⟨i0, hi, hz0, hz1, hz2⟩ := info_parts info_mountAt
  have hcl := mntCs_len l
  generalize hq : l.length = n at *
  have HQ := Lib.hid hq
  have HN := Lib.hid hn
  have hn' : n ≤ 2 ^ 63 - 1 := by omega
  have HCL := Lib.hid hcl
  clear hn hq hcl
  go_enter Try.func30, Try.ntmps30
  go_wp2_with (at_make; refine wpList_make_full _ rfl _ _ 43 rfl w.heap.size 68 i0 (.agg #[.bool false, .int .i64 0]) 2 Try.underlying43 hi hz0 hz1 _ _ _ _ n rfl rfl rfl rfl ?b2 ?b3 (Nat.le_refl _) ?_)
  case b2 => have := HN.out; rw [hz2]; omega
  case b3 => have := HN.out; unfold maxLen; omega
  intro w1 hown hgrow
  have X : CopyV w w1 0 (mntCs l) := CopyV.start hown hgrow HCL.out
  clear hown hgrow hz0 hz1 hz2 hi
  go_wp2
  go_loopw [4] (fun i wr => ∃ k : Nat, k ≤ n ∧ i = .int .i64 k ∧ CopyV w wr (k * 2) (mntCs l)) (fun i _ => n - (intOf i).toNat)
  case atStart => exact ⟨0, Nat.zero_le _, rfl, by simpa using X⟩
  case round =>
    clear X
    obtain ⟨k, hk, rfl, X⟩ := hrel
    by_cases hlt : k < n
    · obtain ⟨b, off, rfl, hb, hc⟩ := ((S.out.below X.K (Nat.le_refl _)).more X.K.size).cell hlt
      have hp := mntCs_at l (i := k) (by rw [HQ.out]; exact hlt)
      have q0 := (hc 0 (by decide)).trans hp.1
      have q1 := (hc 1 (by decide)).trans hp.2
      rw [Nat.add_zero] at q0
      have HP := Lib.hid hp
      clear hc hp
      generalize mntA l k = r at *
      obtain ⟨x, y⟩ := r
      dsimp only at q0 q1
      go_wp2_with (go_at_call 52; refine (toMountAt_any _ _ _).mono ?_; rintro e w2 ⟨rfl, hb2⟩; have X2 := X.step hb2; obtain ⟨v0, t0, f0⟩ := X2.at_ (j := k * 2) (by rw [HCL.out]; omega); obtain ⟨v1, t1, f1⟩ := X2.at_ (j := k * 2 + 1) (by rw [HCL.out]; omega); clear hb2)
      refine ⟨⟨k + 1, by omega, by go_num, ?_⟩, by simp [intOf]; omega⟩
      have e : (k + 1) * 2 = k * 2 + 1 + 1 := by omega
      rw [e]
      exact (X2.set HP.out.1).set HP.out.2
    · obtain rfl : k = n := by omega
      go_wp2
      go_ret
      exact X.made (by rw [HCL.out]; exact Nat.le_refl _)
set_option maxHeartbeats 1000000 in
theorem toBoolS_any (A : Option Addr) (c : Nat) (l : List Bool) (w : World) (h : SlV w w.heap.size 1 A l.length (devCs l)) (hn : l.length ≤ 1048576) :
    Calls Try.prog 31 #[.slice A l.length c] w (MadeV w l.length (devCs l)) := by
  have S := Lib.hid h
  clear h
  obtain ⟨i0, hi, hz0, hz1, hz2⟩ := info_parts info_bool
  have hcl := devCs_len l
  generalize hq : l.length = n at *
  have HQ := Lib.hid hq
  have HN := Lib.hid hn
  have hn' : n ≤ 2 ^ 63 - 1 := by omega
  have HCL := Lib.hid hcl
  clear hn hq hcl
  go_enter Try.func31, Try.ntmps31
  go_wp2_with (at_make; refine wpList_make_full _ rfl _ _ 30 rfl w.heap.size 4 i0 (.bool false) 1 Try.underlying30 hi hz0 hz1 _ _ _ _ n rfl rfl rfl rfl ?b2 ?b3 (Nat.le_refl _) ?_)
  case b2 => have := HN.out; rw [hz2]; omega
  case b3 => have := HN.out; unfold maxLen; omega
  intro w1 hown hgrow
  have X : CopyV w w1 0 (devCs l) := CopyV.start hown hgrow HCL.out
  clear hown hgrow hz0 hz1 hz2 hi
  go_wp2
  go_loopw [4] (fun i wr => ∃ k : Nat, k ≤ n ∧ i = .int .i64 k ∧ CopyV w wr k (devCs l)) (fun i _ => n - (intOf i).toNat)
  case atStart => exact ⟨0, Nat.zero_le _, rfl, X⟩
  case round =>
    clear X
    obtain ⟨k, hk, rfl, X⟩ := hrel
    by_cases hlt : k < n
    · obtain ⟨b, off, rfl, hb, hc⟩ := ((S.out.below X.K (Nat.le_refl _)).more X.K.size).cell hlt
      have hp := devCs_at l (i := k) (by rw [HQ.out]; exact hlt)
      have q0 := hc 0 (by decide)
      rw [Nat.add_zero, Nat.mul_one, Nat.add_zero, hp] at q0
      have HP := Lib.hid hp
      clear hc hp
      generalize devA l k = x at *
      obtain ⟨v0, t0, f0⟩ := X.at_ (j := k) (by rw [HCL.out]; omega)
      go_wp2
      exact ⟨⟨k + 1, by omega, by go_num, X.set HP.out⟩, by simp [intOf]; omega⟩
    · obtain rfl : k = n := by omega
      go_wp2
      go_ret
      exact X.made (by rw [HCL.out]; omega)
set_option maxHeartbeats 1000000 in
theorem toInts_any (A : Option Addr) (c : Nat) (l : List Int) (w : World) (h : SlV w w.heap.size 1 A l.length (lkCs l)) (hn : l.length ≤ 1048576) :
    Calls Try.prog 26 #[.slice A l.length c] w (MadeV w l.length (lkCs l)) := by
  have S := Lib.hid h
  clear h
  obtain ⟨i0, hi, hz0, hz1, hz2⟩ := info_parts info_int
  have hcl := lkCs_len l
  generalize hq : l.length = n at *
  have HQ := Lib.hid hq
  have HN := Lib.hid hn
  have hn' : n ≤ 2 ^ 63 - 1 := by omega
  have HCL := Lib.hid hcl
  clear hn hq hcl
  go_enter Try.func26, Try.ntmps26
  go_wp2_with (at_make; refine wpList_make_full _ rfl _ _ 23 rfl w.heap.size 2 i0 (.int .i64 0) 1 Try.underlying23 hi hz0 hz1 _ _ _ _ n rfl rfl rfl rfl ?b2 ?b3 (Nat.le_refl _) ?_)
  case b2 => have := HN.out; rw [hz2]; omega
  case b3 => have := HN.out; unfold maxLen; omega
  intro w1 hown hgrow
  have X : CopyV w w1 0 (lkCs l) := CopyV.start hown hgrow HCL.out
  clear hown hgrow hz0 hz1 hz2 hi
  go_wp2
  go_loopw [4] (fun i wr => ∃ k : Nat, k ≤ n ∧ i = .int .i64 k ∧ CopyV w wr k (lkCs l)) (fun i _ => n - (intOf i).toNat)
  case atStart => exact ⟨0, Nat.zero_le _, rfl, X⟩
  case round =>
    clear X
    obtain ⟨k, hk, rfl, X⟩ := hrel
    by_cases hlt : k < n
    · obtain ⟨b, off, rfl, hb, hc⟩ := ((S.out.below X.K (Nat.le_refl _)).more X.K.size).cell hlt
      have hp := lkCs_at l (i := k) (by rw [HQ.out]; exact hlt)
      have q0 := hc 0 (by decide)
      rw [Nat.add_zero, Nat.mul_one, Nat.add_zero, hp] at q0
      have HP := Lib.hid hp
      clear hc hp
      generalize lkA l k = x at *
      obtain ⟨v0, t0, f0⟩ := X.at_ (j := k) (by rw [HCL.out]; omega)
      go_wp2
      exact ⟨⟨k + 1, by omega, by go_num, X.set HP.out⟩, by simp [intOf]; omega⟩
    · obtain rfl : k = n := by omega
      go_wp2
      go_ret
      exact X.made (by rw [HCL.out]; omega)
end Go.Proofs.Ytlmjjkljkmalpaa
/- Uc -/
set_option linter.unusedVariables false
namespace Go.Proofs.Ytlmjjkljkmalpaa
open Go.RowKit

set_option maxHeartbeats 1000000 in
theorem eqPodAtS_same (A A' : Option Addr) (c c' : Nat) (l : List (Int × Int)) (w : World) (h : SlV w w.heap.size 2 A l.length (podCs l)) (h' : SlV w w.heap.size 2 A' l.length (podCs l)) (hl : l.length ≤ maxLen) :
    Calls Try.prog 40 #[.slice A l.length c, .slice A' l.length c'] w fun e w' => e = .returned (.bool true) ∧ Below w.heap.size w w' := by
  have H := Lib.hid h
  have H' := Lib.hid h'
  have hl' : l.length ≤ 2 ^ 63 - 1 := by unfold maxLen at hl; omega
  clear hl h h'
  generalize hq : l.length = n at *
  have HQ := Lib.hid hq
  clear hq
  go_enter Try.func40, Try.ntmps40
  go_wp2
  go_loopw [5] (fun i wr => ∃ k : Nat, k ≤ n ∧ i = .int .i64 k ∧ Below w.heap.size w wr) (fun i _ => n - (intOf i).toNat)
  case atStart => exact ⟨0, Nat.zero_le _, rfl, Below.refl _ _⟩
  case round =>
    obtain ⟨k, hk, rfl, K⟩ := hrel
    by_cases hlt : k < n
    · obtain ⟨b, off, rfl, hb, hc⟩ := (H.out.below K (Nat.le_refl _)).cell hlt
      obtain ⟨b', off', rfl, hb', hc'⟩ := (H'.out.below K (Nat.le_refl _)).cell hlt
      have hp := podCs_at l (i := k) (by rw [HQ.out]; exact hlt)
      have q0 := (hc 0 (by decide)).trans hp.1
      have q1 := (hc 1 (by decide)).trans hp.2
      have r0 := (hc' 0 (by decide)).trans hp.1
      have r1 := (hc' 1 (by decide)).trans hp.2
      rw [Nat.add_zero] at q0 r0
      clear hc hc' hp
      generalize podA l k = r at *
      obtain ⟨x, y⟩ := r
      dsimp only at q0 q1 r0 r1
      have HBB := Lib.hid hb
      have HBB' := Lib.hid hb'
      clear hb hb'
      have S0 : (wr.cell? ⟨b, off + k * 2, none⟩ = some (.int .i64 x) ∧ wr.cell? ⟨b, off + k * 2 + 1, none⟩ = some (.int .i64 y)) ∧ (wr.cell? ⟨b', off' + k * 2, none⟩ = some (.int .i64 x) ∧ wr.cell? ⟨b', off' + k * 2 + 1, none⟩ = some (.int .i64 y)) ∧ Below w.heap.size w wr := ⟨⟨q0, q1⟩, ⟨r0, r1⟩, K⟩
      clear q0 q1 r0 r1
      go_wp2_with fail
      go_region_held3 (fun w' => (w'.cell? ⟨b, off + k * 2, none⟩ = some (.int .i64 x) ∧ w'.cell? ⟨b, off + k * 2 + 1, none⟩ = some (.int .i64 y)) ∧ (w'.cell? ⟨b', off' + k * 2, none⟩ = some (.int .i64 x) ∧ w'.cell? ⟨b', off' + k * 2 + 1, none⟩ = some (.int .i64 y)) ∧ Below w.heap.size w w')
        (first | exact S0 | exact S1 | exact ⟨S0.1, S0.2.1, S0.2.2.drew⟩)
        (first
          | (go_at_call 59
             refine (eqPodAt_same _ _ _).mono ?_
             rintro e w2 ⟨rfl, hb2⟩
             have L2 : wr.heap.size ≤ w2.heap.size := hb2.size
             have hs : w.heap.size ≤ wr.heap.size := K.size
             have S1 : (w2.cell? ⟨b, off + k * 2, none⟩ = some (.int .i64 x) ∧ w2.cell? ⟨b, off + k * 2 + 1, none⟩ = some (.int .i64 y)) ∧ (w2.cell? ⟨b', off' + k * 2, none⟩ = some (.int .i64 x) ∧ w2.cell? ⟨b', off' + k * 2 + 1, none⟩ = some (.int .i64 y)) ∧ Below w.heap.size w w2 :=
               ⟨⟨(hb2.cell (p := ⟨b, off + k * 2, none⟩) (Nat.lt_of_lt_of_le HBB.out hs)).trans S0.1.1, (hb2.cell (p := ⟨b, off + k * 2 + 1, none⟩) (Nat.lt_of_lt_of_le HBB.out hs)).trans S0.1.2⟩, ⟨(hb2.cell (p := ⟨b', off' + k * 2, none⟩) (Nat.lt_of_lt_of_le HBB'.out hs)).trans S0.2.1.1, (hb2.cell (p := ⟨b', off' + k * 2 + 1, none⟩) (Nat.lt_of_lt_of_le HBB'.out hs)).trans S0.2.1.2⟩, K.drew.trans (hb2.mono K.size)⟩))
      have K2 := S1.2.2
      clear S0 S1
      go_wp2
      exact ⟨⟨k + 1, by omega, by go_num, K2⟩, by simp [intOf]; omega⟩
    · obtain rfl : k = n := by omega
      go_wp2
      go_ret
      exact ⟨rfl, K⟩

set_option maxHeartbeats 1000000 in
theorem eqMountAtS_same (A A' : Option Addr) (c c' : Nat) (l : List (Bool × Int)) (w : World) (h : SlV w w.heap.size 2 A l.length (mntCs l)) (h' : SlV w w.heap.size 2 A' l.length (mntCs l)) (hl : l.length ≤ maxLen) :
    Calls Try.prog 41 #[.slice A l.length c, .slice A' l.length c'] w fun e w' => e = .returned (.bool true) ∧ Below w.heap.size w w' := by
  have H := Lib.hid h
  have H' := Lib.hid h'
  have hl' : l.length ≤ 2 ^ 63 - 1 := by unfold maxLen at hl; omega
  clear hl h h'
  generalize hq : l.length = n at *
  have HQ := Lib.hid hq
  clear hq
  go_enter Try.func41, Try.ntmps41
  go_wp2
  go_loopw [5] (fun i wr => ∃ k : Nat, k ≤ n ∧ i = .int .i64 k ∧ Below w.heap.size w wr) (fun i _ => n - (intOf i).toNat)
  case atStart => exact ⟨0, Nat.zero_le _, rfl, Below.refl _ _⟩
  case round =>
    obtain ⟨k, hk, rfl, K⟩ := hrel
    by_cases hlt : k < n
    · obtain ⟨b, off, rfl, hb, hc⟩ := (H.out.below K (Nat.le_refl _)).cell hlt
      obtain ⟨b', off', rfl, hb', hc'⟩ := (H'.out.below K (Nat.le_refl _)).cell hlt
      have hp := mntCs_at l (i := k) (by rw [HQ.out]; exact hlt)
      have q0 := (hc 0 (by decide)).trans hp.1
      have q1 := (hc 1 (by decide)).trans hp.2
      have r0 := (hc' 0 (by decide)).trans hp.1
      have r1 := (hc' 1 (by decide)).trans hp.2
      rw [Nat.add_zero] at q0 r0
      clear hc hc' hp
      generalize mntA l k = r at *
      obtain ⟨x, y⟩ := r
      dsimp only at q0 q1 r0 r1
      have HBB := Lib.hid hb
      have HBB' := Lib.hid hb'
      clear hb hb'
      have S0 : (wr.cell? ⟨b, off + k * 2, none⟩ = some (.bool x) ∧ wr.cell? ⟨b, off + k * 2 + 1, none⟩ = some (.int .i64 y)) ∧ (wr.cell? ⟨b', off' + k * 2, none⟩ = some (.bool x) ∧ wr.cell? ⟨b', off' + k * 2 + 1, none⟩ = some (.int .i64 y)) ∧ Below w.heap.size w wr := ⟨⟨q0, q1⟩, ⟨r0, r1⟩, K⟩
      clear q0 q1 r0 r1
      go_wp2_with fail
      go_region_held3 (fun w' => (w'.cell? ⟨b, off + k * 2, none⟩ = some (.bool x) ∧ w'.cell? ⟨b, off + k * 2 + 1, none⟩ = some (.int .i64 y)) ∧ (w'.cell? ⟨b', off' + k * 2, none⟩ = some (.bool x) ∧ w'.cell? ⟨b', off' + k * 2 + 1, none⟩ = some (.int .i64 y)) ∧ Below w.heap.size w w')
        (first | exact S0 | exact S1 | exact ⟨S0.1, S0.2.1, S0.2.2.drew⟩)
        (first
          | (go_at_call 60
             refine (eqMountAt_same _ _ _).mono ?_
             rintro e w2 ⟨rfl, hb2⟩
             have L2 : wr.heap.size ≤ w2.heap.size := hb2.size
             have hs : w.heap.size ≤ wr.heap.size := K.size
             have S1 : (w2.cell? ⟨b, off + k * 2, none⟩ = some (.bool x) ∧ w2.cell? ⟨b, off + k * 2 + 1, none⟩ = some (.int .i64 y)) ∧ (w2.cell? ⟨b', off' + k * 2, none⟩ = some (.bool x) ∧ w2.cell? ⟨b', off' + k * 2 + 1, none⟩ = some (.int .i64 y)) ∧ Below w.heap.size w w2 :=
               ⟨⟨(hb2.cell (p := ⟨b, off + k * 2, none⟩) (Nat.lt_of_lt_of_le HBB.out hs)).trans S0.1.1, (hb2.cell (p := ⟨b, off + k * 2 + 1, none⟩) (Nat.lt_of_lt_of_le HBB.out hs)).trans S0.1.2⟩, ⟨(hb2.cell (p := ⟨b', off' + k * 2, none⟩) (Nat.lt_of_lt_of_le HBB'.out hs)).trans S0.2.1.1, (hb2.cell (p := ⟨b', off' + k * 2 + 1, none⟩) (Nat.lt_of_lt_of_le HBB'.out hs)).trans S0.2.1.2⟩, K.drew.trans (hb2.mono K.size)⟩))
      have K2 := S1.2.2
      clear S0 S1
      go_wp2
      exact ⟨⟨k + 1, by omega, by go_num, K2⟩, by simp [intOf]; omega⟩
    · obtain rfl : k = n := by omega
      go_wp2
      go_ret
      exact ⟨rfl, K⟩

set_option maxHeartbeats 1000000 in
theorem eqBoolS_same (A A' : Option Addr) (c c' : Nat) (l : List Bool) (w : World) (h : SlV w w.heap.size 1 A l.length (devCs l)) (h' : SlV w w.heap.size 1 A' l.length (devCs l)) (hl : l.length ≤ maxLen) :
    Calls Try.prog 42 #[.slice A l.length c, .slice A' l.length c'] w fun e w' => e = .returned (.bool true) ∧ Below w.heap.size w w' := by
  have H := Lib.hid h
  have H' := Lib.hid h'
  have hl' : l.length ≤ 2 ^ 63 - 1 := by unfold maxLen at hl; omega
  clear hl h h'
  generalize hq : l.length = n at *
  have HQ := Lib.hid hq
  clear hq
  go_enter Try.func42, Try.ntmps42
  go_wp2
  go_loopw [5] (fun i wr => ∃ k : Nat, k ≤ n ∧ i = .int .i64 k ∧ Below w.heap.size w wr) (fun i _ => n - (intOf i).toNat)
  case atStart => exact ⟨0, Nat.zero_le _, rfl, Below.refl _ _⟩
  case round =>
    obtain ⟨k, hk, rfl, K⟩ := hrel
    by_cases hlt : k < n
    · obtain ⟨b, off, rfl, hb, hc⟩ := (H.out.below K (Nat.le_refl _)).cell hlt
      obtain ⟨b', off', rfl, hb', hc'⟩ := (H'.out.below K (Nat.le_refl _)).cell hlt
      have hp := devCs_at l (i := k) (by rw [HQ.out]; exact hlt)
      have q0 := hc 0 (by decide)
      have r0 := hc' 0 (by decide)
      rw [Nat.add_zero, Nat.mul_one, Nat.add_zero, hp] at q0 r0
      clear hc hc' hp
      generalize devA l k = x at *
      go_wp2_with fail
      go_quiet (fail)
      go_wp2
      exact ⟨⟨k + 1, by omega, by go_num, below_drewN K _⟩, by simp [intOf]; omega⟩
    · obtain rfl : k = n := by omega
      go_wp2
      go_ret
      exact ⟨rfl, K⟩

set_option maxHeartbeats 1000000 in
theorem eqInts_same (A A' : Option Addr) (c c' : Nat) (l : List Int) (w : World) (h : SlV w w.heap.size 1 A l.length (lkCs l)) (h' : SlV w w.heap.size 1 A' l.length (lkCs l)) (hl : l.length ≤ maxLen) :
    Calls Try.prog 37 #[.slice A l.length c, .slice A' l.length c'] w fun e w' => e = .returned (.bool true) ∧ Below w.heap.size w w' := by
  have H := Lib.hid h
  have H' := Lib.hid h'
  have hl' : l.length ≤ 2 ^ 63 - 1 := by unfold maxLen at hl; omega
  clear hl h h'
  generalize hq : l.length = n at *
  have HQ := Lib.hid hq
  clear hq
  go_enter Try.func37, Try.ntmps37
  go_wp2
  go_loopw [5] (fun i wr => ∃ k : Nat, k ≤ n ∧ i = .int .i64 k ∧ Below w.heap.size w wr) (fun i _ => n - (intOf i).toNat)
  case atStart => exact ⟨0, Nat.zero_le _, rfl, Below.refl _ _⟩
  case round =>
    obtain ⟨k, hk, rfl, K⟩ := hrel
    by_cases hlt : k < n
    · obtain ⟨b, off, rfl, hb, hc⟩ := (H.out.below K (Nat.le_refl _)).cell hlt
      obtain ⟨b', off', rfl, hb', hc'⟩ := (H'.out.below K (Nat.le_refl _)).cell hlt
      have hp := lkCs_at l (i := k) (by rw [HQ.out]; exact hlt)
      have q0 := hc 0 (by decide)
      have r0 := hc' 0 (by decide)
      rw [Nat.add_zero, Nat.mul_one, Nat.add_zero, hp] at q0 r0
      clear hc hc' hp
      generalize lkA l k = x at *
      go_wp2_with fail
      go_quiet (fail)
      go_wp2
      exact ⟨⟨k + 1, by omega, by go_num, below_drewN K _⟩, by simp [intOf]; omega⟩
    · obtain rfl : k = n := by omega
      go_wp2
      go_ret
      exact ⟨rfl, K⟩
end Go.Proofs.Ytlmjjkljkmalpaa
