/-
  The model's l6With, at a list that rises.
-/
import Derived.Test.YtdphpjnecjofeaaGreatMZ2
import Derived.BigQuiet
import Derived.Deep.QuietTactic
import Derived.StillTailTactics
import Derived.Deep.RegionHeld3
import Derived.Laws.AppendOwnNone
import Derived.Deep.AppendLies
import Derived.OwnWalk
import Derived.Test.YtdphpjnecjofeaaGreatMZ0
/- Ub -/
set_option linter.unusedVariables false
namespace Go.Proofs.YtdphpjnecjofeaaGreat
open Go.RowKit

theorem info_podAt : (Tryz.prog.info? 109).map (fun i => (i.zero, i.size, i.bytes)) = some (some (.agg #[.int .i64 0, .int .i64 0]), 2, 16) := by kernel_rfl
theorem info_mountAt : (Tryz.prog.info? 113).map (fun i => (i.zero, i.size, i.bytes)) = some (some (.agg #[.bool false, .int .i64 0]), 2, 16) := by kernel_rfl
theorem info_bool : (Tryz.prog.info? 4).map (fun i => (i.zero, i.size, i.bytes)) = some (some (.bool false), 1, 1) := by kernel_rfl
theorem info_int : (Tryz.prog.info? 2).map (fun i => (i.zero, i.size, i.bytes)) = some (some (.int .i64 0), 1, 8) := by kernel_rfl

set_option maxHeartbeats 400000 in
theorem toPodAt_any (a b : Int) (w : World) :
    Calls Tryz.prog 62 #[.agg #[.int .i64 a, .int .i64 b]] w fun e w' => e = .returned (.agg #[.int .i64 a, .int .i64 b]) ∧ Below w.heap.size w w' := by
  go_enter Tryz.func62, Tryz.ntmps62
  go_wp2
  exact bodyPost_ret (v := .agg #[.int .i64 a, .int .i64 b]) (by simp [results, Tryz.results62, go_sem]) rfl ⟨rfl, (((Below.refl _ _).alloc (Nat.le_refl _) _).alloc (by simp) _).alloc (by simp; omega) _⟩
set_option maxHeartbeats 400000 in
theorem toMountAt_any (a : Bool) (b : Int) (w : World) :
    Calls Tryz.prog 63 #[.agg #[.bool a, .int .i64 b]] w fun e w' => e = .returned (.agg #[.bool a, .int .i64 b]) ∧ Below w.heap.size w w' := by
  go_enter Tryz.func63, Tryz.ntmps63
  go_wp2
  exact bodyPost_ret (v := .agg #[.bool a, .int .i64 b]) (by simp [results, Tryz.results63, go_sem]) rfl ⟨rfl, (((Below.refl _ _).alloc (Nat.le_refl _) _).alloc (by simp) _).alloc (by simp; omega) _⟩
set_option maxHeartbeats 400000 in
theorem eqPodAt_same (a b : Int) (w : World) :
    Calls Tryz.prog 78 #[.agg #[.int .i64 a, .int .i64 b], .agg #[.int .i64 a, .int .i64 b]] w fun e w' => e = .returned (.bool true) ∧ Below w.heap.size w w' := by
  go_enter Tryz.func78, Tryz.ntmps78
  go_wp2
  go_ret
  exact ⟨rfl, ((Below.refl _ _).alloc (Nat.le_refl _) _).alloc (by simp) _⟩
set_option maxHeartbeats 400000 in
theorem eqMountAt_same (a : Bool) (b : Int) (w : World) :
    Calls Tryz.prog 79 #[.agg #[.bool a, .int .i64 b], .agg #[.bool a, .int .i64 b]] w fun e w' => e = .returned (.bool true) ∧ Below w.heap.size w w' := by
  go_enter Tryz.func79, Tryz.ntmps79
  cases a
  all_goals
    go_wp2
    go_ret
    exact ⟨rfl, ((Below.refl _ _).alloc (Nat.le_refl _) _).alloc (by simp) _⟩

set_option maxHeartbeats 1000000 in
theorem toPodAtS_any (A : Option Addr) (c : Nat) (l : List (Int × Int)) (w : World) (h : SlV w w.heap.size 2 A l.length (podCs l)) (hn : l.length ≤ 1048576) :
    Calls Tryz.prog 31 #[.slice A l.length c] w (MadeV w l.length (podCs l)) := by
  have S := Lib.hid h
  clear h
  obtain ⟨i0, hi, hz0, hz1, hz2⟩ := info_parts info_podAt
  have hcl := podCs_len l
  generalize hq : l.length = n at *
  have HQ := Lib.hid hq
  have HN := Lib.hid hn
  have hn' : n ≤ 2 ^ 63 - 1 := by omega
  have HCL := Lib.hid hcl
  clear hn hq hcl
  go_enter Tryz.func31, Tryz.ntmps31
  go_wp2_with (at_make; refine wpList_make_full _ rfl _ _ 44 rfl w.heap.size 109 i0 (.agg #[.int .i64 0, .int .i64 0]) 2 Tryz.underlying44 hi hz0 hz1 _ _ _ _ n rfl rfl rfl rfl ?b2 ?b3 (Nat.le_refl _) ?_)
  case b2 => have := HN.out; rw [hz2]; omega
  case b3 => have := HN.out; unfold maxLen; omega
  intro w1 hown hgrow
  have X : CopyV w w1 0 (podCs l) := CopyV.start hown hgrow HCL.out
  clear hown hgrow hz0 hz1 hz2 hi
  go_wp2
  go_loopw [4] (fun i wr => ∃ k : Nat, k ≤ n ∧ i = .int .i64 k ∧ CopyV w wr (k * 2) (podCs l)) (fun i _ => n - (intOf i).toNat)
  case atStart => exact ⟨0, Nat.zero_le _, rfl, by simpa using X⟩
  case round =>
    clear X
    obtain ⟨k, hk, rfl, X⟩ := hrel
    by_cases hlt : k < n
    · obtain ⟨b, off, rfl, hb, hc⟩ := ((S.out.below X.K (Nat.le_refl _)).more X.K.size).cell hlt
      have hp := podCs_at l (i := k) (by rw [HQ.out]; exact hlt)
      have q0 := (hc 0 (by decide)).trans hp.1
      have q1 := (hc 1 (by decide)).trans hp.2
      rw [Nat.add_zero] at q0
      have HP := Lib.hid hp
      clear hc hp
      generalize podA l k = r at *
      obtain ⟨x, y⟩ := r
      dsimp only at q0 q1
      go_wp2_with (go_at_call 62; refine (toPodAt_any _ _ _).mono ?_; rintro e w2 ⟨rfl, hb2⟩; have X2 := X.step hb2; obtain ⟨v0, t0, f0⟩ := X2.at_ (j := k * 2) (by rw [HCL.out]; omega); obtain ⟨v1, t1, f1⟩ := X2.at_ (j := k * 2 + 1) (by rw [HCL.out]; omega); clear hb2)
      refine ⟨⟨k + 1, by omega, by go_num, ?_⟩, by simp [intOf]; omega⟩
      have e : (k + 1) * 2 = k * 2 + 1 + 1 := by omega
      rw [e]
      exact (X2.set HP.out.1).set HP.out.2
    · obtain rfl : k = n := by omega
      go_wp2
      go_ret
      exact X.made (by rw [HCL.out]; exact Nat.le_refl _)
set_option maxHeartbeats 1000000 in
theorem toMountAtS_any (A : Option Addr) (c : Nat) (l : List (Bool × Int)) (w : World) (h : SlV w w.heap.size 2 A l.length (mntCs l)) (hn : l.length ≤ 1048576) :
    Calls Tryz.prog 32 #[.slice A l.length c] w (MadeV w l.length (mntCs l)) := by
  have S := Lib.hid h
  clear h
  obtain ⟨i0, hi, hz0, hz1, hz2⟩ := info_parts info_mountAt
  have hcl := mntCs_len l
  generalize hq : l.length = n at *
  have HQ := Lib.hid hq
  have HN := Lib.hid hn
  have hn' : n ≤ 2 ^ 63 - 1 := by omega
  have HCL := Lib.hid hcl
  clear hn hq hcl
  go_enter Tryz.func32, Tryz.ntmps32
  go_wp2_with (at_make; refine wpList_make_full _ rfl _ _ 45 rfl w.heap.size 113 i0 (.agg #[.bool false, .int .i64 0]) 2 Tryz.underlying45 hi hz0 hz1 _ _ _ _ n rfl rfl rfl rfl ?b2 ?b3 (Nat.le_refl _) ?_)
  case b2 => have := HN.out; rw [hz2]; omega
  case b3 => have := HN.out; unfold maxLen; omega
  intro w1 hown hgrow
  have X : CopyV w w1 0 (mntCs l) := CopyV.start hown hgrow HCL.out
  clear hown hgrow hz0 hz1 hz2 hi
  go_wp2
  go_loopw [4] (fun i wr => ∃ k : Nat, k ≤ n ∧ i = .int .i64 k ∧ CopyV w wr (k * 2) (mntCs l)) (fun i _ => n - (intOf i).toNat)
  case atStart => exact ⟨0, Nat.zero_le _, rfl, by simpa using X⟩
  case round =>
    clear X
    obtain ⟨k, hk, rfl, X⟩ := hrel
    by_cases hlt : k < n
    · obtain ⟨b, off, rfl, hb, hc⟩ := ((S.out.below X.K (Nat.le_refl _)).more X.K.size).cell hlt
      have hp := mntCs_at l (i := k) (by rw [HQ.out]; exact hlt)
      have q0 := (hc 0 (by decide)).trans hp.1
      have q1 := (hc 1 (by decide)).trans hp.2
      rw [Nat.add_zero] at q0
      have HP := Lib.hid hp
      clear hc hp
      generalize mntA l k = r at *
      obtain ⟨x, y⟩ := r
      dsimp only at q0 q1
      go_wp2_with (go_at_call 63; refine (toMountAt_any _ _ _).mono ?_; rintro e w2 ⟨rfl, hb2⟩; have X2 := X.step hb2; obtain ⟨v0, t0, f0⟩ := X2.at_ (j := k * 2) (by rw [HCL.out]; omega); obtain ⟨v1, t1, f1⟩ := X2.at_ (j := k * 2 + 1) (by rw [HCL.out]; omega); clear hb2)
      refine ⟨⟨k + 1, by omega, by go_num, ?_⟩, by simp [intOf]; omega⟩
      have e : (k + 1) * 2 = k * 2 + 1 + 1 := by omega
      rw [e]
      exact (X2.set HP.out.1).set HP.out.2
    · obtain rfl : k = n := by omega
      go_wp2
      go_ret
      exact X.made (by rw [HCL.out]; exact Nat.le_refl _)
set_option maxHeartbeats 1000000 in
theorem toBoolS_any (A : Option Addr) (c : Nat) (l : List Bool) (w : World) (h : SlV w w.heap.size 1 A l.length (devCs l)) (hn : l.length ≤ 1048576) :
    Calls Tryz.prog 33 #[.slice A l.length c] w (MadeV w l.length (devCs l)) := by
  have S := Lib.hid h
  clear h
  obtain ⟨i0, hi, hz0, hz1, hz2⟩ := info_parts info_bool
  have hcl := devCs_len l
  generalize hq : l.length = n at *
  have HQ := Lib.hid hq
  have HN := Lib.hid hn
  have hn' : n ≤ 2 ^ 63 - 1 := by omega
  have HCL := Lib.hid hcl
  clear hn hq hcl
  go_enter Tryz.func33, Tryz.ntmps33
  go_wp2_with (at_make; refine wpList_make_full _ rfl _ _ 30 rfl w.heap.size 4 i0 (.bool false) 1 Tryz.underlying30 hi hz0 hz1 _ _ _ _ n rfl rfl rfl rfl ?b2 ?b3 (Nat.le_refl _) ?_)
  case b2 => have := HN.out; rw [hz2]; omega
  case b3 => have := HN.out; unfold maxLen; omega
  intro w1 hown hgrow
  have X : CopyV w w1 0 (devCs l) := CopyV.start hown hgrow HCL.out
  clear hown hgrow hz0 hz1 hz2 hi
  go_wp2
  go_loopw [4] (fun i wr => ∃ k : Nat, k ≤ n ∧ i = .int .i64 k ∧ CopyV w wr k (devCs l)) (fun i _ => n - (intOf i).toNat)
  case atStart => exact ⟨0, Nat.zero_le _, rfl, X⟩
  case round =>
    clear X
    obtain ⟨k, hk, rfl, X⟩ := hrel
    by_cases hlt : k < n
    · obtain ⟨b, off, rfl, hb, hc⟩ := ((S.out.below X.K (Nat.le_refl _)).more X.K.size).cell hlt
      have hp := devCs_at l (i := k) (by rw [HQ.out]; exact hlt)
      have q0 := hc 0 (by decide)
      rw [Nat.add_zero, Nat.mul_one, Nat.add_zero, hp] at q0
      have HP := Lib.hid hp
      clear hc hp
      generalize devA l k = x at *
      obtain ⟨v0, t0, f0⟩ := X.at_ (j := k) (by rw [HCL.out]; omega)
      go_wp2
      exact ⟨⟨k + 1, by omega, by go_num, X.set HP.out⟩, by simp [intOf]; omega⟩
    · obtain rfl : k = n := by omega
      go_wp2
      go_ret
      exact X.made (by rw [HCL.out]; omega)
set_option maxHeartbeats 1000000 in
theorem toInts_any (A : Option Addr) (c : Nat) (l : List Int) (w : World) (h : SlV w w.heap.size 1 A l.length (lkCs l)) (hn : l.length ≤ 1048576) :
    Calls Tryz.prog 28 #[.slice A l.length c] w (MadeV w l.length (lkCs l)) := by
  have S := Lib.hid h
  clear h
  obtain ⟨i0, hi, hz0, hz1, hz2⟩ := info_parts info_int
  have hcl := lkCs_len l
  generalize hq : l.length = n at *
  have HQ := Lib.hid hq
  have HN := Lib.hid hn
  have hn' : n ≤ 2 ^ 63 - 1 := by omega
  have HCL := Lib.hid hcl
  clear hn hq hcl
  go_enter Tryz.func28, Tryz.ntmps28
  go_wp2_with (at_make; refine wpList_make_full _ rfl _ _ 23 rfl w.heap.size 2 i0 (.int .i64 0) 1 Tryz.underlying23 hi hz0 hz1 _ _ _ _ n rfl rfl rfl rfl ?b2 ?b3 (Nat.le_refl _) ?_)
  case b2 => have := HN.out; rw [hz2]; omega
  case b3 => have := HN.out; unfold maxLen; omega
  intro w1 hown hgrow
  have X : CopyV w w1 0 (lkCs l) := CopyV.start hown hgrow HCL.out
  clear hown hgrow hz0 hz1 hz2 hi
  go_wp2
  go_loopw [4] (fun i wr => ∃ k : Nat, k ≤ n ∧ i = .int .i64 k ∧ CopyV w wr k (lkCs l)) (fun i _ => n - (intOf i).toNat)
  case atStart => exact ⟨0, Nat.zero_le _, rfl, X⟩
  case round =>
    clear X
    obtain ⟨k, hk, rfl, X⟩ := hrel
    by_cases hlt : k < n
    · obtain ⟨b, off, rfl, hb, hc⟩ := ((S.out.below X.K (Nat.le_refl _)).more X.K.size).cell hlt
      have hp := lkCs_at l (i := k) (by rw [HQ.out]; exact hlt)
      have q0 := hc 0 (by decide)
      rw [Nat.add_zero, Nat.mul_one, Nat.add_zero, hp] at q0
      have HP := Lib.hid hp
      clear hc hp
      generalize lkA l k = x at *
      obtain ⟨v0, t0, f0⟩ := X.at_ (j := k) (by rw [HCL.out]; omega)
      go_wp2
      exact ⟨⟨k + 1, by omega, by go_num, X.set HP.out⟩, by simp [intOf]; omega⟩
    · obtain rfl : k = n := by omega
      go_wp2
      go_ret
      exact X.made (by rw [HCL.out]; omega)
end Go.Proofs.YtdphpjnecjofeaaGreat
/- Uc -/
set_option linter.unusedVariables false
namespace Go.Proofs.YtdphpjnecjofeaaGreat
open Go.RowKit

set_option maxHeartbeats 1000000 in
theorem eqPodAtS_same (A A' : Option Addr) (c c' : Nat) (l : List (Int × Int)) (w : World) (h : SlV w w.heap.size 2 A l.length (podCs l)) (h' : SlV w w.heap.size 2 A' l.length (podCs l)) (hl : l.length ≤ maxLen) :
    Calls Tryz.prog 43 #[.slice A l.length c, .slice A' l.length c'] w fun e w' => e = .returned (.bool true) ∧ Below w.heap.size w w' := by
  have H := Lib.hid h
  have H' := Lib.hid h'
  have hl' : l.length ≤ 2 ^ 63 - 1 := by unfold maxLen at hl; omega
  clear hl h h'
  generalize hq : l.length = n at *
  have HQ := Lib.hid hq
  clear hq
  go_enter Tryz.func43, Tryz.ntmps43
  go_wp2
  go_loopw [5] (fun i wr => ∃ k : Nat, k ≤ n ∧ i = .int .i64 k ∧ Below w.heap.size w wr) (fun i _ => n - (intOf i).toNat)
  case atStart => exact ⟨0, Nat.zero_le _, rfl, Below.refl _ _⟩
  case round =>
    obtain ⟨k, hk, rfl, K⟩ := hrel
    by_cases hlt : k < n
    · obtain ⟨b, off, rfl, hb, hc⟩ := (H.out.below K (Nat.le_refl _)).cell hlt
      obtain ⟨b', off', rfl, hb', hc'⟩ := (H'.out.below K (Nat.le_refl _)).cell hlt
      have hp := podCs_at l (i := k) (by rw [HQ.out]; exact hlt)
      have q0 := (hc 0 (by decide)).trans hp.1
      have q1 := (hc 1 (by decide)).trans hp.2
      have r0 := (hc' 0 (by decide)).trans hp.1
      have r1 := (hc' 1 (by decide)).trans hp.2
      rw [Nat.add_zero] at q0 r0
      clear hc hc' hp
      generalize podA l k = r at *
      obtain ⟨x, y⟩ := r
      dsimp only at q0 q1 r0 r1
      have HBB := Lib.hid hb
      have HBB' := Lib.hid hb'
      clear hb hb'
      have S0 : (wr.cell? ⟨b, off + k * 2, none⟩ = some (.int .i64 x) ∧ wr.cell? ⟨b, off + k * 2 + 1, none⟩ = some (.int .i64 y)) ∧ (wr.cell? ⟨b', off' + k * 2, none⟩ = some (.int .i64 x) ∧ wr.cell? ⟨b', off' + k * 2 + 1, none⟩ = some (.int .i64 y)) ∧ Below w.heap.size w wr := ⟨⟨q0, q1⟩, ⟨r0, r1⟩, K⟩
      clear q0 q1 r0 r1
      go_wp2_with fail
      go_region_held3 (fun w' => (w'.cell? ⟨b, off + k * 2, none⟩ = some (.int .i64 x) ∧ w'.cell? ⟨b, off + k * 2 + 1, none⟩ = some (.int .i64 y)) ∧ (w'.cell? ⟨b', off' + k * 2, none⟩ = some (.int .i64 x) ∧ w'.cell? ⟨b', off' + k * 2 + 1, none⟩ = some (.int .i64 y)) ∧ Below w.heap.size w w')
        (first | exact S0 | exact S1 | exact ⟨S0.1, S0.2.1, S0.2.2.drew⟩)
        (first
          | (go_at_call 78
             refine (eqPodAt_same _ _ _).mono ?_
             rintro e w2 ⟨rfl, hb2⟩
             have L2 : wr.heap.size ≤ w2.heap.size := hb2.size
             have hs : w.heap.size ≤ wr.heap.size := K.size
             have S1 : (w2.cell? ⟨b, off + k * 2, none⟩ = some (.int .i64 x) ∧ w2.cell? ⟨b, off + k * 2 + 1, none⟩ = some (.int .i64 y)) ∧ (w2.cell? ⟨b', off' + k * 2, none⟩ = some (.int .i64 x) ∧ w2.cell? ⟨b', off' + k * 2 + 1, none⟩ = some (.int .i64 y)) ∧ Below w.heap.size w w2 :=
               ⟨⟨(hb2.cell (p := ⟨b, off + k * 2, none⟩) (Nat.lt_of_lt_of_le HBB.out hs)).trans S0.1.1, (hb2.cell (p := ⟨b, off + k * 2 + 1, none⟩) (Nat.lt_of_lt_of_le HBB.out hs)).trans S0.1.2⟩, ⟨(hb2.cell (p := ⟨b', off' + k * 2, none⟩) (Nat.lt_of_lt_of_le HBB'.out hs)).trans S0.2.1.1, (hb2.cell (p := ⟨b', off' + k * 2 + 1, none⟩) (Nat.lt_of_lt_of_le HBB'.out hs)).trans S0.2.1.2⟩, K.drew.trans (hb2.mono K.size)⟩))
      have K2 := S1.2.2
      clear S0 S1
      go_wp2
      exact ⟨⟨k + 1, by omega, by go_num, K2⟩, by simp [intOf]; omega⟩
    · obtain rfl : k = n := by omega
      go_wp2
      go_ret
      exact ⟨rfl, K⟩

set_option maxHeartbeats 1000000 in
theorem eqMountAtS_same (A A' : Option Addr) (c c' : Nat) (l : List (Bool × Int)) (w : World) (h : SlV w w.heap.size 2 A l.length (mntCs l)) (h' : SlV w w.heap.size 2 A' l.length (mntCs l)) (hl : l.length ≤ maxLen) :
    Calls Tryz.prog 44 #[.slice A l.length c, .slice A' l.length c'] w fun e w' => e = .returned (.bool true) ∧ Below w.heap.size w w' := by
  have H := Lib.hid h
  have H' := Lib.hid h'
  have hl' : l.length ≤ 2 ^ 63 - 1 := by unfold maxLen at hl; omega
  clear hl h h'
  generalize hq : l.length = n at *
  have HQ := Lib.hid hq
  clear hq
  go_enter Tryz.func44, Tryz.ntmps44
  go_wp2
  go_loopw [5] (fun i wr => ∃ k : Nat, k ≤ n ∧ i = .int .i64 k ∧ Below w.heap.size w wr) (fun i _ => n - (intOf i).toNat)
  case atStart => exact ⟨0, Nat.zero_le _, rfl, Below.refl _ _⟩
  case round =>
    obtain ⟨k, hk, rfl, K⟩ := hrel
    by_cases hlt : k < n
    · obtain ⟨b, off, rfl, hb, hc⟩ := (H.out.below K (Nat.le_refl _)).cell hlt
      obtain ⟨b', off', rfl, hb', hc'⟩ := (H'.out.below K (Nat.le_refl _)).cell hlt
      have hp := mntCs_at l (i := k) (by rw [HQ.out]; exact hlt)
      have q0 := (hc 0 (by decide)).trans hp.1
      have q1 := (hc 1 (by decide)).trans hp.2
      have r0 := (hc' 0 (by decide)).trans hp.1
      have r1 := (hc' 1 (by decide)).trans hp.2
      rw [Nat.add_zero] at q0 r0
      clear hc hc' hp
      generalize mntA l k = r at *
      obtain ⟨x, y⟩ := r
      dsimp only at q0 q1 r0 r1
      have HBB := Lib.hid hb
      have HBB' := Lib.hid hb'
      clear hb hb'
      have S0 : (wr.cell? ⟨b, off + k * 2, none⟩ = some (.bool x) ∧ wr.cell? ⟨b, off + k * 2 + 1, none⟩ = some (.int .i64 y)) ∧ (wr.cell? ⟨b', off' + k * 2, none⟩ = some (.bool x) ∧ wr.cell? ⟨b', off' + k * 2 + 1, none⟩ = some (.int .i64 y)) ∧ Below w.heap.size w wr := ⟨⟨q0, q1⟩, ⟨r0, r1⟩, K⟩
      clear q0 q1 r0 r1
      go_wp2_with fail
      go_region_held3 (fun w' => (w'.cell? ⟨b, off + k * 2, none⟩ = some (.bool x) ∧ w'.cell? ⟨b, off + k * 2 + 1, none⟩ = some (.int .i64 y)) ∧ (w'.cell? ⟨b', off' + k * 2, none⟩ = some (.bool x) ∧ w'.cell? ⟨b', off' + k * 2 + 1, none⟩ = some (.int .i64 y)) ∧ Below w.heap.size w w')
        (first | exact S0 | exact S1 | exact ⟨S0.1, S0.2.1, S0.2.2.drew⟩)
        (first
          | (go_at_call 79
             refine (eqMountAt_same _ _ _).mono ?_
             rintro e w2 ⟨rfl, hb2⟩
             have L2 : wr.heap.size ≤ w2.heap.size := hb2.size
             have hs : w.heap.size ≤ wr.heap.size := K.size
             have S1 : (w2.cell? ⟨b, off + k * 2, none⟩ = some (.bool x) ∧ w2.cell? ⟨b, off + k * 2 + 1, none⟩ = some (.int .i64 y)) ∧ (w2.cell? ⟨b', off' + k * 2, none⟩ = some (.bool x) ∧ w2.cell? ⟨b', off' + k * 2 + 1, none⟩ = some (.int .i64 y)) ∧ Below w.heap.size w w2 :=
               ⟨⟨(hb2.cell (p := ⟨b, off + k * 2, none⟩) (Nat.lt_of_lt_of_le HBB.out hs)).trans S0.1.1, (hb2.cell (p := ⟨b, off + k * 2 + 1, none⟩) (Nat.lt_of_lt_of_le HBB.out hs)).trans S0.1.2⟩, ⟨(hb2.cell (p := ⟨b', off' + k * 2, none⟩) (Nat.lt_of_lt_of_le HBB'.out hs)).trans S0.2.1.1, (hb2.cell (p := ⟨b', off' + k * 2 + 1, none⟩) (Nat.lt_of_lt_of_le HBB'.out hs)).trans S0.2.1.2⟩, K.drew.trans (hb2.mono K.size)⟩))
      have K2 := S1.2.2
      clear S0 S1
      go_wp2
      exact ⟨⟨k + 1, by omega, by go_num, K2⟩, by simp [intOf]; omega⟩
    · obtain rfl : k = n := by omega
      go_wp2
      go_ret
      exact ⟨rfl, K⟩

set_option maxHeartbeats 1000000 in
theorem eqBoolS_same (A A' : Option Addr) (c c' : Nat) (l : List Bool) (w : World) (h : SlV w w.heap.size 1 A l.length (devCs l)) (h' : SlV w w.heap.size 1 A' l.length (devCs l)) (hl : l.length ≤ maxLen) :
    Calls Tryz.prog 45 #[.slice A l.length c, .slice A' l.length c'] w fun e w' => e = .returned (.bool true) ∧ Below w.heap.size w w' := by
  have H := Lib.hid h
  have H' := Lib.hid h'
  have hl' : l.length ≤ 2 ^ 63 - 1 := by unfold maxLen at hl; omega
  clear hl h h'
  generalize hq : l.length = n at *
  have HQ := Lib.hid hq
  clear hq
  go_enter Tryz.func45, Tryz.ntmps45
  go_wp2
  go_loopw [5] (fun i wr => ∃ k : Nat, k ≤ n ∧ i = .int .i64 k ∧ Below w.heap.size w wr) (fun i _ => n - (intOf i).toNat)
  case atStart => exact ⟨0, Nat.zero_le _, rfl, Below.refl _ _⟩
  case round =>
    obtain ⟨k, hk, rfl, K⟩ := hrel
    by_cases hlt : k < n
    · obtain ⟨b, off, rfl, hb, hc⟩ := (H.out.below K (Nat.le_refl _)).cell hlt
      obtain ⟨b', off', rfl, hb', hc'⟩ := (H'.out.below K (Nat.le_refl _)).cell hlt
      have hp := devCs_at l (i := k) (by rw [HQ.out]; exact hlt)
      have q0 := hc 0 (by decide)
      have r0 := hc' 0 (by decide)
      rw [Nat.add_zero, Nat.mul_one, Nat.add_zero, hp] at q0 r0
      clear hc hc' hp
      generalize devA l k = x at *
      go_wp2_with fail
      go_quiet (fail)
      go_wp2
      exact ⟨⟨k + 1, by omega, by go_num, below_drewN K _⟩, by simp [intOf]; omega⟩
    · obtain rfl : k = n := by omega
      go_wp2
      go_ret
      exact ⟨rfl, K⟩

set_option maxHeartbeats 1000000 in
theorem eqInts_same (A A' : Option Addr) (c c' : Nat) (l : List Int) (w : World) (h : SlV w w.heap.size 1 A l.length (lkCs l)) (h' : SlV w w.heap.size 1 A' l.length (lkCs l)) (hl : l.length ≤ maxLen) :
    Calls Tryz.prog 40 #[.slice A l.length c, .slice A' l.length c'] w fun e w' => e = .returned (.bool true) ∧ Below w.heap.size w w' := by
  have H := Lib.hid h
  have H' := Lib.hid h'
  have hl' : l.length ≤ 2 ^ 63 - 1 := by unfold maxLen at hl; omega
  clear hl h h'
  generalize hq : l.length = n at *
  have HQ := Lib.hid hq
  clear hq
  go_enter Tryz.func40, Tryz.ntmps40
  go_wp2
  go_loopw [5] (fun i wr => ∃ k : Nat, k ≤ n ∧ i = .int .i64 k ∧ Below w.heap.size w wr) (fun i _ => n - (intOf i).toNat)
  case atStart => exact ⟨0, Nat.zero_le _, rfl, Below.refl _ _⟩
  case round =>
    obtain ⟨k, hk, rfl, K⟩ := hrel
    by_cases hlt : k < n
    · obtain ⟨b, off, rfl, hb, hc⟩ := (H.out.below K (Nat.le_refl _)).cell hlt
      obtain ⟨b', off', rfl, hb', hc'⟩ := (H'.out.below K (Nat.le_refl _)).cell hlt
      have hp := lkCs_at l (i := k) (by rw [HQ.out]; exact hlt)
      have q0 := hc 0 (by decide)
      have r0 := hc' 0 (by decide)
      rw [Nat.add_zero, Nat.mul_one, Nat.add_zero, hp] at q0 r0
      clear hc hc' hp
      generalize lkA l k = x at *
      go_wp2_with fail
      go_quiet (fail)
      go_wp2
      exact ⟨⟨k + 1, by omega, by go_num, below_drewN K _⟩, by simp [intOf]; omega⟩
    · obtain rfl : k = n := by omega
      go_wp2
      go_ret
      exact ⟨rfl, K⟩
end Go.Proofs.YtdphpjnecjofeaaGreat
/- Ud -/
set_option linter.unusedVariables false
namespace Go.Proofs.YtdphpjnecjofeaaGreat
open Go.RowKit

theorem szPodAtS_any (A : Option Addr) (n c : Nat) (left : Int) (w : World) (hn : n ≤ maxLen) (h0 : 0 ≤ left) (h1 : left ≤ 1048576) :
    Calls Tryz.prog 21 #[.slice A n c, .int .i64 left] w fun e w' => e = .returned (.int .i64 (szI left n)) ∧ w = w' := by
  unfold maxLen at hn
  go_enter Tryz.func21, Tryz.ntmps21
  go_wp2
  · go_ret
    exact ⟨by rw [szI_neg (by omega)]; rfl, rfl⟩
  · go_ret
    exact ⟨by rw [szI_pos (by omega)]; rfl, rfl⟩
theorem szMountAtS_any (A : Option Addr) (n c : Nat) (left : Int) (w : World) (hn : n ≤ maxLen) (h0 : 0 ≤ left) (h1 : left ≤ 1048576) :
    Calls Tryz.prog 22 #[.slice A n c, .int .i64 left] w fun e w' => e = .returned (.int .i64 (szI left n)) ∧ w = w' := by
  unfold maxLen at hn
  go_enter Tryz.func22, Tryz.ntmps22
  go_wp2
  · go_ret
    exact ⟨by rw [szI_neg (by omega)]; rfl, rfl⟩
  · go_ret
    exact ⟨by rw [szI_pos (by omega)]; rfl, rfl⟩
theorem szBoolS_any (A : Option Addr) (n c : Nat) (left : Int) (w : World) (hn : n ≤ maxLen) (h0 : 0 ≤ left) (h1 : left ≤ 1048576) :
    Calls Tryz.prog 23 #[.slice A n c, .int .i64 left] w fun e w' => e = .returned (.int .i64 (szI left n)) ∧ w = w' := by
  unfold maxLen at hn
  go_enter Tryz.func23, Tryz.ntmps23
  go_wp2
  · go_ret
    exact ⟨by rw [szI_neg (by omega)]; rfl, rfl⟩
  · go_ret
    exact ⟨by rw [szI_pos (by omega)]; rfl, rfl⟩

/-- What is left behind a state. -/
def szS (left : Int) (s : StD) : Int := if (s.pods.length + s.mnts.length + s.devs.length + s.lks.length : Nat) ≤ left then left - (s.pods.length + s.mnts.length + s.devs.length + s.lks.length : Nat) else -1
set_option maxHeartbeats 2000000 in
theorem szState_any (v : Value) (s : StD) (left : Int) (w : World) (h : IsSt w w.heap.size v s) (hl0 : 0 ≤ left) (hl1 : left ≤ 1048576) :
    Calls Tryz.prog 5 #[v, .int .i64 left] w fun e w' => e = .returned (.int .i64 (szS left s)) ∧ Below w.heap.size w w' := by
  obtain ⟨⟨A0, A1, A2, A3, c0, c1, c2, c3, rfl, -, -, -, -⟩, b0, b1, b2, b3⟩ := h
  obtain ⟨ph, co, ck, bo, ba, lb, l0, l1, l2, l3, gd, pr⟩ := s
  dsimp only at *
  have hp : (l0.length + l1.length + l2.length + l3.length : Nat) ≤ left → szS left ⟨ph, co, ck, bo, ba, lb, l0, l1, l2, l3, gd, pr⟩ = left - (l0.length + l1.length + l2.length + l3.length : Nat) := fun h => if_pos h
  have hm : ¬ (l0.length + l1.length + l2.length + l3.length : Nat) ≤ left → szS left ⟨ph, co, ck, bo, ba, lb, l0, l1, l2, l3, gd, pr⟩ = -1 := fun h => if_neg h
  generalize szS left ⟨ph, co, ck, bo, ba, lb, l0, l1, l2, l3, gd, pr⟩ = z at *
  have HP := Lib.hid hp
  have HM := Lib.hid hm
  clear hp hm
  generalize l0.length = n0 at *
  generalize l1.length = n1 at *
  generalize l2.length = n2 at *
  generalize l3.length = n3 at *
  go_enter Tryz.func5, Tryz.ntmps5
  go_wp2_with fail
  refine (szPodAtS_any _ _ _ _ _ b0 (by omega) (by omega)).mono ?_
  rintro e w2 ⟨rfl, rfl⟩
  by_cases h0 : (n0 : Int) ≤ left
  · rw [szI_pos h0]
    go_wp2_with fail
    refine (szMountAtS_any _ _ _ _ _ b1 (by omega) (by omega)).mono ?_
    rintro e w2 ⟨rfl, rfl⟩
    by_cases h1 : (n1 : Int) ≤ left - n0
    · rw [szI_pos h1]
      go_wp2_with fail
      refine (szBoolS_any _ _ _ _ _ b2 (by omega) (by omega)).mono ?_
      rintro e w2 ⟨rfl, rfl⟩
      by_cases h2 : (n2 : Int) ≤ left - n0 - n1
      · rw [szI_pos h2]
        go_wp2_with fail
        refine (szInt64S_any _ _ _ _ _ b3 (by omega) (by omega)).mono ?_
        rintro e w2 ⟨rfl, rfl⟩
        by_cases h3 : (n3 : Int) ≤ left - n0 - n1 - n2
        · rw [szI_pos h3]
          go_wp2_with fail
          go_ret
          exact ⟨ret_int (by rw [HP.out (by omega)]; push_cast; omega), (Below.refl _ _).alloc (Nat.le_refl _) _⟩
        · rw [szI_neg h3]
          go_wp2
          go_ret
          exact ⟨ret_int (by rw [HM.out (by omega)]), (Below.refl _ _).alloc (Nat.le_refl _) _⟩
      · rw [szI_neg h2]
        go_wp2
        go_ret
        exact ⟨ret_int (by rw [HM.out (by omega)]), (Below.refl _ _).alloc (Nat.le_refl _) _⟩
    · rw [szI_neg h1]
      go_wp2
      go_ret
      exact ⟨ret_int (by rw [HM.out (by omega)]), (Below.refl _ _).alloc (Nat.le_refl _) _⟩
  · rw [szI_neg h0]
    go_wp2
    go_ret
    exact ⟨ret_int (by rw [HM.out (by omega)]), (Below.refl _ _).alloc (Nat.le_refl _) _⟩

/-- A state of new memory, all lists in blocks of their own. -/
structure NewSt (w w' : World) (s : StD) (g0 g1 g2 g3 : Nat) : Prop where
  l0 : w.heap.size ≤ g0
  l1 : g0 < g1
  l2 : g1 < g2
  l3 : g2 < g3
  l4 : g3 < w'.heap.size
  R0 : RowV w' g0 (podCs s.pods)
  R1 : RowV w' g1 (mntCs s.mnts)
  R2 : RowV w' g2 (devCs s.devs)
  R3 : RowV w' g3 (lkCs s.lks)
abbrev newStV (s : StD) (g0 g1 g2 g3 : Nat) : Value := .agg (stC (some ⟨g0, 0, none⟩) (some ⟨g1, 0, none⟩) (some ⟨g2, 0, none⟩) (some ⟨g3, 0, none⟩) s.pods.length s.pods.length s.mnts.length s.mnts.length s.devs.length s.devs.length s.lks.length s.lks.length s.ph s.co s.ck s.bo s.ba s.lb s.gd s.pr)
def MadeSt (w : World) (s : StD) (e : Ending) (w' : World) : Prop :=
  ∃ g0 g1 g2 g3, e = .returned (newStV s g0 g1 g2 g3) ∧ NewSt w w' s g0 g1 g2 g3 ∧ Below w.heap.size w w'
/-- How many cells a state's lists are at most. -/
structure StFits (s : StD) (m : Nat) : Prop where
  f0 : s.pods.length ≤ m
  f1 : s.mnts.length ≤ m
  f2 : s.devs.length ≤ m
  f3 : s.lks.length ≤ m
theorem NewSt.is {w w' : World} {s : StD} {g0 g1 g2 g3 : Nat} (h : NewSt w w' s g0 g1 g2 g3) (hf : StFits s 1048576) : IsSt w' w'.heap.size (newStV s g0 g1 g2 g3) s := by
  obtain ⟨l0, l1, l2, l3, l4, R0, R1, R2, R3⟩ := h
  obtain ⟨f0, f1, f2, f3⟩ := hf
  have hm : 1048576 ≤ maxLen := by unfold maxLen; decide
  exact ⟨⟨_, _, _, _, _, _, _, _, rfl, R0.slv (podCs_len _) (by omega), R1.slv (mntCs_len _) (by omega), R2.slv (devCs_len _) (by omega), R3.slv (lkCs_len _) (by omega)⟩, by omega, by omega, by omega, by omega⟩

set_option maxHeartbeats 4000000 in
theorem toState_any (v : Value) (s : StD) (w : World) (h : IsSt w w.heap.size v s) (hf : StFits s 1048576) :
    Calls Tryz.prog 8 #[v] w (MadeSt w s) := by
  obtain ⟨⟨A0, A1, A2, A3, c0, c1, c2, c3, rfl, s0, s1, s2, s3⟩, -, -, -, -⟩ := h
  obtain ⟨h0, h1, h2, h3⟩ := hf
  obtain ⟨ph, co, ck, bo, ba, lb, l0, l1, l2, l3, gd, pr⟩ := s
  dsimp only at *
  have S0 := Lib.hid s0
  have S1 := Lib.hid s1
  have S2 := Lib.hid s2
  have S3 := Lib.hid s3
  have B0 := Lib.hid h0
  have B1 := Lib.hid h1
  have B2 := Lib.hid h2
  have B3 := Lib.hid h3
  clear s0 s1 s2 s3 h0 h1 h2 h3
  go_enter Tryz.func8, Tryz.ntmps8
  go_wp2_with fail
  have T1 := TP.start w (stC A0 A1 A2 A3 l0.length c0 l1.length c1 l2.length c2 l3.length c3 ph co ck bo ba lb gd pr) (stC none none none none 0 0 0 0 0 0 0 0 0 false 0 0 0 0 0 0) (stC none none none none 0 0 0 0 0 0 0 0 ph co ck bo ba lb 0 0) 32 47 47
  refine (toPodAtS_any _ _ l0 _ ((S0.out.below T1.A.K (Nat.le_refl _)).more T1.A.K.size) B0.out).mono ?_
  rintro e w2 ⟨g0, rfl, hg0, hz0, R0, hb2⟩
  have T2 := T1.step hb2
  have m0 : w.heap.size + 1 + 1 < g0 := Nat.lt_of_lt_of_le T1.O.z hg0
  clear hb2 hg0 T1
  have hC := T2.A.C
  have hD := T2.O.C
  have hF := T2.O.F
  go_wp2_with fail
  have T1 := T2.set (i := 6) (by simp) (.slice (some ⟨g0, 0, none⟩) l0.length l0.length)
  replace R0 := R0.far (p := ⟨w.heap.size + 1 + 1, 6, none⟩) (by simp; omega) (.slice (some ⟨g0, 0, none⟩) l0.length l0.length)
  refine (toMountAtS_any _ _ l1 _ ((S1.out.below T1.A.K (Nat.le_refl _)).more T1.A.K.size) B1.out).mono ?_
  rintro e w3 ⟨g1, rfl, hg1, hz1, R1, hb2⟩
  clear hC hD hF T2
  have T2 := T1.step hb2
  have m1 : g0 < g1 := by simp [World.setCell] at hg1; omega
  replace R0 := R0.below hb2 (by simp [World.setCell]; omega)
  clear hb2 hg1 T1 hz0
  have hC := T2.A.C
  have hD := T2.O.C
  have hF := T2.O.F
  go_wp2_with fail
  have T1 := T2.set (i := 7) (by simp) (.slice (some ⟨g1, 0, none⟩) l1.length l1.length)
  replace R0 := R0.far (p := ⟨w.heap.size + 1 + 1, 7, none⟩) (by simp; omega) (.slice (some ⟨g1, 0, none⟩) l1.length l1.length)
  replace R1 := R1.far (p := ⟨w.heap.size + 1 + 1, 7, none⟩) (by simp; omega) (.slice (some ⟨g1, 0, none⟩) l1.length l1.length)
  refine (toBoolS_any _ _ l2 _ ((S2.out.below T1.A.K (Nat.le_refl _)).more T1.A.K.size) B2.out).mono ?_
  rintro e w4 ⟨g2, rfl, hg2, hz2, R2, hb2⟩
  clear hC hD hF T2
  have T2 := T1.step hb2
  have m2 : g1 < g2 := by simp [World.setCell] at hg2; omega
  replace R0 := R0.below hb2 (by simp [World.setCell]; omega)
  replace R1 := R1.below hb2 (by simp [World.setCell]; omega)
  clear hb2 hg2 T1 hz1
  have hC := T2.A.C
  have hD := T2.O.C
  have hF := T2.O.F
  go_wp2_with fail
  have T1 := T2.set (i := 8) (by simp) (.slice (some ⟨g2, 0, none⟩) l2.length l2.length)
  replace R0 := R0.far (p := ⟨w.heap.size + 1 + 1, 8, none⟩) (by simp; omega) (.slice (some ⟨g2, 0, none⟩) l2.length l2.length)
  replace R1 := R1.far (p := ⟨w.heap.size + 1 + 1, 8, none⟩) (by simp; omega) (.slice (some ⟨g2, 0, none⟩) l2.length l2.length)
  replace R2 := R2.far (p := ⟨w.heap.size + 1 + 1, 8, none⟩) (by simp; omega) (.slice (some ⟨g2, 0, none⟩) l2.length l2.length)
  refine (toInts_any _ _ l3 _ ((S3.out.below T1.A.K (Nat.le_refl _)).more T1.A.K.size) B3.out).mono ?_
  rintro e w5 ⟨g3, rfl, hg3, hz3, R3, hb2⟩
  clear hC hD hF T2
  have T2 := T1.step hb2
  have m3 : g2 < g3 := by simp [World.setCell] at hg3; omega
  replace R0 := R0.below hb2 (by simp [World.setCell]; omega)
  replace R1 := R1.below hb2 (by simp [World.setCell]; omega)
  replace R2 := R2.below hb2 (by simp [World.setCell]; omega)
  clear hb2 hg3 T1 hz2
  have T2 : TP w w5 (stC A0 A1 A2 A3 l0.length c0 l1.length c1 l2.length c2 l3.length c3 ph co ck bo ba lb gd pr) (stC none none none none 0 0 0 0 0 0 0 0 0 false 0 0 0 0 0 0) (stC (some ⟨g0, 0, none⟩) (some ⟨g1, 0, none⟩) (some ⟨g2, 0, none⟩) none l0.length l0.length l1.length l1.length l2.length l2.length 0 0 ph co ck bo ba lb 0 0) := T2
  have hC := T2.A.C
  have hD := T2.O.C
  have hF := T2.O.F
  have hE := T2.Z.C
  have hG := T2.Z.F
  go_wp2_with fail
  refine bodyPost_ret (v := newStV ⟨ph, co, ck, bo, ba, lb, l0, l1, l2, l3, gd, pr⟩ g0 g1 g2 g3) ?_ rfl ⟨g0, g1, g2, g3, rfl, ⟨by omega, m1, m2, m3, by simp [World.setCell]; exact hz3, ?_, ?_, ?_, ?_⟩, ?_⟩
  · simp [results, Tryz.results8, go_sem, hE]
  · iterate 15 (refine RowV.far ?_ (by simp; omega) _)
    exact R0
  · iterate 15 (refine RowV.far ?_ (by simp; omega) _)
    exact R1
  · iterate 15 (refine RowV.far ?_ (by simp; omega) _)
    exact R2
  · iterate 15 (refine RowV.far ?_ (by simp; omega) _)
    exact R3
  · iterate 15 (refine Below.setCell ?_ (by simp <;> omega) _)
    exact T2.A.K

set_option maxHeartbeats 2000000 in
theorem eqState_same (v v' : Value) (s : StD) (w : World) (h : IsSt w w.heap.size v s) (h' : IsSt w w.heap.size v' s) :
    Calls Tryz.prog 12 #[v, v'] w fun e w' => e = .returned (.bool true) ∧ Below w.heap.size w w' := by
  obtain ⟨⟨A0, A1, A2, A3, c0, c1, c2, c3, rfl, s0, s1, s2, s3⟩, b0, b1, b2, b3⟩ := h
  obtain ⟨⟨A0', A1', A2', A3', c0', c1', c2', c3', rfl, s0', s1', s2', s3'⟩, -, -, -, -⟩ := h'
  obtain ⟨ph, co, ck, bo, ba, lb, l0, l1, l2, l3, gd, pr⟩ := s
  dsimp only at *
  have S0 := Lib.hid s0
  have S0' := Lib.hid s0'
  have B0 := Lib.hid b0
  have S1 := Lib.hid s1
  have S1' := Lib.hid s1'
  have B1 := Lib.hid b1
  have S2 := Lib.hid s2
  have S2' := Lib.hid s2'
  have B2 := Lib.hid b2
  have S3 := Lib.hid s3
  have S3' := Lib.hid s3'
  have B3 := Lib.hid b3
  clear s0 s1 s2 s3 s0' s1' s2' s3' b0 b1 b2 b3
  go_enter Tryz.func12, Tryz.ntmps12
  cases co
  · go_wp2_with fail
    have T1 := Two.start w (stC A0 A1 A2 A3 l0.length c0 l1.length c1 l2.length c2 l3.length c3 ph false ck bo ba lb gd pr) (stC A0' A1' A2' A3' l0.length c0' l1.length c1' l2.length c2' l3.length c3' ph false ck bo ba lb gd pr) 47 47
    refine (eqPodAtS_same _ _ _ _ l0 _ ((S0.out.below T1.A.K (Nat.le_refl _)).more T1.A.K.size) ((S0'.out.below T1.A.K (Nat.le_refl _)).more T1.A.K.size) B0.out).mono ?_
    rintro e w2 ⟨rfl, hb⟩
    replace T1 := T1.step hb
    clear hb
    have hC := T1.A.C
    have hD := T1.O.C
    go_wp2_with fail
    clear hC hD
    refine (eqMountAtS_same _ _ _ _ l1 _ ((S1.out.below T1.A.K (Nat.le_refl _)).more T1.A.K.size) ((S1'.out.below T1.A.K (Nat.le_refl _)).more T1.A.K.size) B1.out).mono ?_
    rintro e w3 ⟨rfl, hb⟩
    replace T1 := T1.step hb
    clear hb
    have hC := T1.A.C
    have hD := T1.O.C
    go_wp2_with fail
    clear hC hD
    refine (eqBoolS_same _ _ _ _ l2 _ ((S2.out.below T1.A.K (Nat.le_refl _)).more T1.A.K.size) ((S2'.out.below T1.A.K (Nat.le_refl _)).more T1.A.K.size) B2.out).mono ?_
    rintro e w4 ⟨rfl, hb⟩
    replace T1 := T1.step hb
    clear hb
    have hC := T1.A.C
    have hD := T1.O.C
    go_wp2_with fail
    clear hC hD
    refine (eqInts_same _ _ _ _ l3 _ ((S3.out.below T1.A.K (Nat.le_refl _)).more T1.A.K.size) ((S3'.out.below T1.A.K (Nat.le_refl _)).more T1.A.K.size) B3.out).mono ?_
    rintro e w5 ⟨rfl, hb⟩
    replace T1 := T1.step hb
    clear hb
    have hC := T1.A.C
    have hD := T1.O.C
    go_wp2_with fail
    go_ret
    exact ⟨rfl, T1.A.K⟩
  · go_wp2_with fail
    have T1 := Two.start w (stC A0 A1 A2 A3 l0.length c0 l1.length c1 l2.length c2 l3.length c3 ph true ck bo ba lb gd pr) (stC A0' A1' A2' A3' l0.length c0' l1.length c1' l2.length c2' l3.length c3' ph true ck bo ba lb gd pr) 47 47
    refine (eqPodAtS_same _ _ _ _ l0 _ ((S0.out.below T1.A.K (Nat.le_refl _)).more T1.A.K.size) ((S0'.out.below T1.A.K (Nat.le_refl _)).more T1.A.K.size) B0.out).mono ?_
    rintro e w2 ⟨rfl, hb⟩
    replace T1 := T1.step hb
    clear hb
    have hC := T1.A.C
    have hD := T1.O.C
    go_wp2_with fail
    clear hC hD
    refine (eqMountAtS_same _ _ _ _ l1 _ ((S1.out.below T1.A.K (Nat.le_refl _)).more T1.A.K.size) ((S1'.out.below T1.A.K (Nat.le_refl _)).more T1.A.K.size) B1.out).mono ?_
    rintro e w3 ⟨rfl, hb⟩
    replace T1 := T1.step hb
    clear hb
    have hC := T1.A.C
    have hD := T1.O.C
    go_wp2_with fail
    clear hC hD
    refine (eqBoolS_same _ _ _ _ l2 _ ((S2.out.below T1.A.K (Nat.le_refl _)).more T1.A.K.size) ((S2'.out.below T1.A.K (Nat.le_refl _)).more T1.A.K.size) B2.out).mono ?_
    rintro e w4 ⟨rfl, hb⟩
    replace T1 := T1.step hb
    clear hb
    have hC := T1.A.C
    have hD := T1.O.C
    go_wp2_with fail
    clear hC hD
    refine (eqInts_same _ _ _ _ l3 _ ((S3.out.below T1.A.K (Nat.le_refl _)).more T1.A.K.size) ((S3'.out.below T1.A.K (Nat.le_refl _)).more T1.A.K.size) B3.out).mono ?_
    rintro e w5 ⟨rfl, hb⟩
    replace T1 := T1.step hb
    clear hb
    have hC := T1.A.C
    have hD := T1.O.C
    go_wp2_with fail
    go_ret
    exact ⟨rfl, T1.A.K⟩
end Go.Proofs.YtdphpjnecjofeaaGreat
/- Ue -/
set_option linter.unusedVariables false
namespace Go.Proofs.YtdphpjnecjofeaaGreat
open Go.RowKit

def m3 (k : Int) : Bool := k % 3 == 0
def mkPods (k : Int) (n : Nat) : List (Int × Int) := (List.range n).map fun (i : Nat) => (k + 2 * i, k + 2 * i + 1)
def mkMnts (k : Int) (n : Nat) : List (Bool × Int) := (List.range n).map fun (i : Nat) => (m3 (k + 2 * i), k + 2 * i + 1)
def mkDevs (k : Int) (n : Nat) : List Bool := (List.range n).map fun (i : Nat) => m3 (k + i)
def mkLks (k : Int) (n : Nat) : List Int := (List.range n).map fun (i : Nat) => k + i
theorem mkPods_len (k : Int) (n : Nat) : (mkPods k n).length = n := by simp [mkPods]
theorem mkMnts_len (k : Int) (n : Nat) : (mkMnts k n).length = n := by simp [mkMnts]
theorem mkDevs_len (k : Int) (n : Nat) : (mkDevs k n).length = n := by simp [mkDevs]
theorem mkLks_len (k : Int) (n : Nat) : (mkLks k n).length = n := by simp [mkLks]
theorem mkPods_at {k : Int} {n i : Nat} (h : i < n) : podA (mkPods k n) i = (k + 2 * i, k + 2 * i + 1) := by simp [podA, mkPods, List.getD, h]
theorem mkMnts_at {k : Int} {n i : Nat} (h : i < n) : mntA (mkMnts k n) i = (m3 (k + 2 * i), k + 2 * i + 1) := by simp [mntA, mkMnts, List.getD, h]
theorem mkDevs_at {k : Int} {n i : Nat} (h : i < n) : devA (mkDevs k n) i = m3 (k + i) := by simp [devA, mkDevs, List.getD, h]
theorem mkLks_at {k : Int} {n i : Nat} (h : i < n) : lkA (mkLks k n) i = k + i := by simp [lkA, mkLks, List.getD, h]
theorem lkCs_set (l : List Int) (i : Nat) (q : Int) : lkCs (l.set i q) = (lkCs l).set i (.int .i64 q) := by unfold lkCs; rw [List.map_set]
theorem getD_set_ {α : Type} (l : List α) (d x : α) (i j : Nat) (hi : i < l.length) : (l.set i x).getD j d = if j = i then x else l.getD j d := by
  simp only [List.getD]
  by_cases e : j = i
  · subst e
    simp [hi]
  · rw [if_neg e, List.getElem?_set_ne (fun h => e h.symm)]
theorem ext_getD {α : Type} {l m : List α} (d : α) (h : l.length = m.length) (e : ∀ j, j < l.length → l.getD j d = m.getD j d) : l = m := by
  refine List.ext_getElem h fun j hj hj' => ?_
  have := e j hj
  simpa [List.getD, hj, hj'] using this

set_option maxHeartbeats 1000000 in
theorem markPodAtS_any (A : Option Addr) (n c g : Nat) (k0 : Int) (l : List (Int × Int)) (w : World) (hl : l.length = n) (hA : 0 < n → A = some ⟨g, 0, none⟩) (R : RowV w g (podCs l)) (hn : n ≤ 1048576) (h0 : 0 ≤ k0) (h1 : k0 ≤ 8388608) :
    Calls Tryz.prog 50 #[.slice A n c, .int .i64 k0] w fun e w' => e = .returned (.int .i64 (k0 + 2 * n)) ∧ RowV w' g (podCs (mkPods k0 n)) ∧ Keeps (· = g) w w' := by
  have HN := Lib.hid hn
  have hn' : n ≤ 2 ^ 63 - 1 := by omega
  have HA := Lib.hid hA
  have HR := Lib.hid R
  have HLN := Lib.hid hl
  clear hn hA R hl
  go_enter Tryz.func50, Tryz.ntmps50
  go_wp2
  go_loopw [1, 5] (fun kk i wr => ∃ (m : Nat) (l : List (Int × Int)), m ≤ n ∧ i = .int .i64 m ∧ kk = .int .i64 (k0 + 2 * m) ∧ Hid (l.length = n) ∧ RowV wr g (podCs l) ∧ Hid (∀ j, j < m → podA l j = (k0 + 2 * j, k0 + 2 * j + 1)) ∧ Keeps (· = g) w wr) (fun _ i _ => n - (intOf i).toNat)
  case atStart => exact ⟨0, l, Nat.zero_le _, rfl, by simp, HLN, HR.out, Lib.hid (fun j hj => absurd hj (by omega)), Keeps.refl _ _⟩
  case round =>
    clear HR HLN
    obtain ⟨m, l, hm, rfl, rfl, HL, Y, HE, K⟩ := hrel
    by_cases hlt : m < n
    · obtain rfl := HA.out (by omega)
      have hml : m < l.length := by rw [HL.out]; exact hlt
      have y0 := Y (m * 2) (by rw [podCs_len, HL.out]; omega)
      have y1 := Y (m * 2 + 1) (by rw [podCs_len, HL.out]; omega)
      obtain ⟨p0, p1⟩ := podCs_at l hml
      rw [p0] at y0
      rw [p1] at y1
      obtain ⟨t0, f0⟩ := y0
      obtain ⟨t1, f1⟩ := y1
      have hb := HN.out
      have HY := Lib.hid Y
      have HML := Lib.hid hml
      clear Y p0 p1 hml
      generalize podA l m = r at *
      obtain ⟨r0, r1⟩ := r
      dsimp only at t0 t1
      go_wp2
      refine ⟨⟨m + 1, l.set m (k0 + 2 * m, k0 + 2 * m + 1), by omega, by go_num, by congr 1; omega, Lib.hid (by rw [List.length_set]; exact HL.out), ?_, Lib.hid fun j hj => ?_, (K.set rfl _).set rfl _⟩, by simp [intOf]; omega⟩
      · rw [podCs_set _ HML.out]
        exact (HY.out.set (i := m * 2) (by rw [podCs_len, HL.out]; omega) _).set (i := m * 2 + 1) (by rw [List.length_set, podCs_len, HL.out]; omega) _
      · have HE' := HE.out j
        unfold podA at HE' ⊢
        rw [getD_set_ _ _ _ _ _ HML.out]
        by_cases e : j = m
        · subst e; rw [if_pos rfl]
        · rw [if_neg e]; exact HE' (by omega)
    · obtain rfl : m = n := by omega
      have e9 : l = mkPods k0 m := ext_getD (0, 0) (by rw [HL.out, mkPods_len]) fun j hj => by
        have := HE.out j (by rw [← HL.out]; exact hj)
        unfold podA at this
        rw [this]
        exact (mkPods_at (k := k0) (n := m) (i := j) (by rw [← HL.out]; exact hj)).symm
      have HY := Lib.hid (e9 ▸ Y)
      clear Y e9
      go_wp2
      go_ret
      exact ⟨rfl, HY.out, K⟩
set_option maxHeartbeats 1000000 in
theorem markMountAtS_any (A : Option Addr) (n c g : Nat) (k0 : Int) (l : List (Bool × Int)) (w : World) (hl : l.length = n) (hA : 0 < n → A = some ⟨g, 0, none⟩) (R : RowV w g (mntCs l)) (hn : n ≤ 1048576) (h0 : 0 ≤ k0) (h1 : k0 ≤ 8388608) :
    Calls Tryz.prog 51 #[.slice A n c, .int .i64 k0] w fun e w' => e = .returned (.int .i64 (k0 + 2 * n)) ∧ RowV w' g (mntCs (mkMnts k0 n)) ∧ Keeps (· = g) w w' := by
  have HN := Lib.hid hn
  have hn' : n ≤ 2 ^ 63 - 1 := by omega
  have HA := Lib.hid hA
  have HR := Lib.hid R
  have HLN := Lib.hid hl
  clear hn hA R hl
  go_enter Tryz.func51, Tryz.ntmps51
  go_wp2
  go_loopw [1, 5] (fun kk i wr => ∃ (m : Nat) (l : List (Bool × Int)), m ≤ n ∧ i = .int .i64 m ∧ kk = .int .i64 (k0 + 2 * m) ∧ Hid (l.length = n) ∧ RowV wr g (mntCs l) ∧ Hid (∀ j, j < m → mntA l j = (m3 (k0 + 2 * j), k0 + 2 * j + 1)) ∧ Keeps (· = g) w wr) (fun _ i _ => n - (intOf i).toNat)
  case atStart => exact ⟨0, l, Nat.zero_le _, rfl, by simp, HLN, HR.out, Lib.hid (fun j hj => absurd hj (by omega)), Keeps.refl _ _⟩
  case round =>
    clear HR HLN
    obtain ⟨m, l, hm, rfl, rfl, HL, Y, HE, K⟩ := hrel
    by_cases hlt : m < n
    · obtain rfl := HA.out (by omega)
      have hml : m < l.length := by rw [HL.out]; exact hlt
      have y0 := Y (m * 2) (by rw [mntCs_len, HL.out]; omega)
      have y1 := Y (m * 2 + 1) (by rw [mntCs_len, HL.out]; omega)
      obtain ⟨p0, p1⟩ := mntCs_at l hml
      rw [p0] at y0
      rw [p1] at y1
      obtain ⟨t0, f0⟩ := y0
      obtain ⟨t1, f1⟩ := y1
      have hb := HN.out
      have HY := Lib.hid Y
      have HML := Lib.hid hml
      clear Y p0 p1 hml
      generalize mntA l m = r at *
      obtain ⟨r0, r1⟩ := r
      dsimp only at t0 t1
      go_wp2
      refine ⟨⟨m + 1, l.set m (m3 (k0 + 2 * m), k0 + 2 * m + 1), by omega, by go_num, by congr 1; omega, Lib.hid (by rw [List.length_set]; exact HL.out), ?_, Lib.hid fun j hj => ?_, (K.set rfl _).set rfl _⟩, by simp [intOf]; omega⟩
      · rw [mntCs_set _ HML.out]
        exact (HY.out.set (i := m * 2) (by rw [mntCs_len, HL.out]; omega) _).set (i := m * 2 + 1) (by rw [List.length_set, mntCs_len, HL.out]; omega) _
      · have HE' := HE.out j
        unfold mntA at HE' ⊢
        rw [getD_set_ _ _ _ _ _ HML.out]
        by_cases e : j = m
        · subst e; rw [if_pos rfl]
        · rw [if_neg e]; exact HE' (by omega)
    · obtain rfl : m = n := by omega
      have e9 : l = mkMnts k0 m := ext_getD (false, 0) (by rw [HL.out, mkMnts_len]) fun j hj => by
        have := HE.out j (by rw [← HL.out]; exact hj)
        unfold mntA at this
        rw [this]
        exact (mkMnts_at (k := k0) (n := m) (i := j) (by rw [← HL.out]; exact hj)).symm
      have HY := Lib.hid (e9 ▸ Y)
      clear Y e9
      go_wp2
      go_ret
      exact ⟨rfl, HY.out, K⟩
set_option maxHeartbeats 1000000 in
theorem markBoolS_any (A : Option Addr) (n c g : Nat) (k0 : Int) (l : List Bool) (w : World) (hl : l.length = n) (hA : 0 < n → A = some ⟨g, 0, none⟩) (R : RowV w g (devCs l)) (hn : n ≤ 1048576) (h0 : 0 ≤ k0) (h1 : k0 ≤ 8388608) :
    Calls Tryz.prog 52 #[.slice A n c, .int .i64 k0] w fun e w' => e = .returned (.int .i64 (k0 + n)) ∧ RowV w' g (devCs (mkDevs k0 n)) ∧ Keeps (· = g) w w' := by
  have HN := Lib.hid hn
  have hn' : n ≤ 2 ^ 63 - 1 := by omega
  have HA := Lib.hid hA
  have HR := Lib.hid R
  have HLN := Lib.hid hl
  clear hn hA R hl
  go_enter Tryz.func52, Tryz.ntmps52
  go_wp2
  go_loopw [1, 5] (fun kk i wr => ∃ (m : Nat) (l : List Bool), m ≤ n ∧ i = .int .i64 m ∧ kk = .int .i64 (k0 + m) ∧ Hid (l.length = n) ∧ RowV wr g (devCs l) ∧ Hid (∀ j, j < m → devA l j = m3 (k0 + j)) ∧ Keeps (· = g) w wr) (fun _ i _ => n - (intOf i).toNat)
  case atStart => exact ⟨0, l, Nat.zero_le _, rfl, by simp, HLN, HR.out, Lib.hid (fun j hj => absurd hj (by omega)), Keeps.refl _ _⟩
  case round =>
    clear HR HLN
    obtain ⟨m, l, hm, rfl, rfl, HL, Y, HE, K⟩ := hrel
    by_cases hlt : m < n
    · obtain rfl := HA.out (by omega)
      have hml : m < l.length := by rw [HL.out]; exact hlt
      have y0 := Y m (by rw [devCs_len, HL.out]; omega)
      rw [devCs_at l hml] at y0
      obtain ⟨t0, f0⟩ := y0
      have hb := HN.out
      have HY := Lib.hid Y
      have HML := Lib.hid hml
      clear Y hml
      generalize devA l m = r at *
      go_wp2
      refine ⟨⟨m + 1, l.set m (m3 (k0 + m)), by omega, by go_num, by go_num, Lib.hid (by rw [List.length_set]; exact HL.out), ?_, Lib.hid fun j hj => ?_, K.set rfl _⟩, by simp [intOf]; omega⟩
      · rw [devCs_set]
        exact HY.out.set (i := m) (by rw [devCs_len, HL.out]; omega) _
      · have HE' := HE.out j
        unfold devA at HE' ⊢
        rw [getD_set_ _ _ _ _ _ HML.out]
        by_cases e : j = m
        · subst e; rw [if_pos rfl]
        · rw [if_neg e]; exact HE' (by omega)
    · obtain rfl : m = n := by omega
      have e9 : l = mkDevs k0 m := ext_getD false (by rw [HL.out, mkDevs_len]) fun j hj => by
        have := HE.out j (by rw [← HL.out]; exact hj)
        unfold devA at this
        rw [this]
        exact (mkDevs_at (k := k0) (n := m) (i := j) (by rw [← HL.out]; exact hj)).symm
      have HY := Lib.hid (e9 ▸ Y)
      clear Y e9
      go_wp2
      go_ret
      exact ⟨rfl, HY.out, K⟩
set_option maxHeartbeats 1000000 in
theorem markInts_any (A : Option Addr) (n c g : Nat) (k0 : Int) (l : List Int) (w : World) (hl : l.length = n) (hA : 0 < n → A = some ⟨g, 0, none⟩) (R : RowV w g (lkCs l)) (hn : n ≤ 1048576) (h0 : 0 ≤ k0) (h1 : k0 ≤ 8388608) :
    Calls Tryz.prog 47 #[.slice A n c, .int .i64 k0] w fun e w' => e = .returned (.int .i64 (k0 + n)) ∧ RowV w' g (lkCs (mkLks k0 n)) ∧ Keeps (· = g) w w' := by
  have HN := Lib.hid hn
  have hn' : n ≤ 2 ^ 63 - 1 := by omega
  have HA := Lib.hid hA
  have HR := Lib.hid R
  have HLN := Lib.hid hl
  clear hn hA R hl
  go_enter Tryz.func47, Tryz.ntmps47
  go_wp2
  go_loopw [1, 5] (fun kk i wr => ∃ (m : Nat) (l : List Int), m ≤ n ∧ i = .int .i64 m ∧ kk = .int .i64 (k0 + m) ∧ Hid (l.length = n) ∧ RowV wr g (lkCs l) ∧ Hid (∀ j, j < m → lkA l j = k0 + j) ∧ Keeps (· = g) w wr) (fun _ i _ => n - (intOf i).toNat)
  case atStart => exact ⟨0, l, Nat.zero_le _, rfl, by simp, HLN, HR.out, Lib.hid (fun j hj => absurd hj (by omega)), Keeps.refl _ _⟩
  case round =>
    clear HR HLN
    obtain ⟨m, l, hm, rfl, rfl, HL, Y, HE, K⟩ := hrel
    by_cases hlt : m < n
    · obtain rfl := HA.out (by omega)
      have hml : m < l.length := by rw [HL.out]; exact hlt
      have y0 := Y m (by rw [lkCs_len, HL.out]; omega)
      rw [lkCs_at l hml] at y0
      obtain ⟨t0, f0⟩ := y0
      have hb := HN.out
      have HY := Lib.hid Y
      have HML := Lib.hid hml
      clear Y hml
      generalize lkA l m = r at *
      go_wp2
      refine ⟨⟨m + 1, l.set m (k0 + m), by omega, by go_num, by go_num, Lib.hid (by rw [List.length_set]; exact HL.out), ?_, Lib.hid fun j hj => ?_, K.set rfl _⟩, by simp [intOf]; omega⟩
      · rw [lkCs_set]
        exact HY.out.set (i := m) (by rw [lkCs_len, HL.out]; omega) _
      · have HE' := HE.out j
        unfold lkA at HE' ⊢
        rw [getD_set_ _ _ _ _ _ HML.out]
        by_cases e : j = m
        · subst e; rw [if_pos rfl]
        · rw [if_neg e]; exact HE' (by omega)
    · obtain rfl : m = n := by omega
      have e9 : l = mkLks k0 m := ext_getD 0 (by rw [HL.out, mkLks_len]) fun j hj => by
        have := HE.out j (by rw [← HL.out]; exact hj)
        unfold lkA at this
        rw [this]
        exact (mkLks_at (k := k0) (n := m) (i := j) (by rw [← HL.out]; exact hj)).symm
      have HY := Lib.hid (e9 ▸ Y)
      clear Y e9
      go_wp2
      go_ret
      exact ⟨rfl, HY.out, K⟩
end Go.Proofs.YtdphpjnecjofeaaGreat
/- Uf -/
set_option linter.unusedVariables false
namespace Go.Proofs.YtdphpjnecjofeaaGreat
open Go.RowKit

theorem RowV.keepsC {S : Nat → Prop} {w w' : World} {g : Nat} {xs : List Value} (h : RowV w g xs) (k : Keeps S w w') (hg : 0 < xs.length → g < w.heap.size) (hn : ¬ S g) : RowV w' g xs := fun j hj => RowV.keeps h k (hg (by omega)) hn j hj
/-- A state whose four lists lie in blocks of their own, all writable. -/
structure Rows4 (w : World) (v : Value) (s : StD) (g0 g1 g2 g3 : Nat) : Prop where
  val : ∃ A0 A1 A2 A3 c0 c1 c2 c3, v = .agg (stC A0 A1 A2 A3 s.pods.length c0 s.mnts.length c1 s.devs.length c2 s.lks.length c3 s.ph s.co s.ck s.bo s.ba s.lb s.gd s.pr) ∧
    (0 < s.pods.length → A0 = some ⟨g0, 0, none⟩) ∧ (0 < s.mnts.length → A1 = some ⟨g1, 0, none⟩) ∧ (0 < s.devs.length → A2 = some ⟨g2, 0, none⟩) ∧ (0 < s.lks.length → A3 = some ⟨g3, 0, none⟩)
  z0 : 0 < s.pods.length → g0 < w.heap.size
  R0 : RowV w g0 (podCs s.pods)
  z1 : 0 < s.mnts.length → g1 < w.heap.size
  R1 : RowV w g1 (mntCs s.mnts)
  z2 : 0 < s.devs.length → g2 < w.heap.size
  R2 : RowV w g2 (devCs s.devs)
  z3 : 0 < s.lks.length → g3 < w.heap.size
  R3 : RowV w g3 (lkCs s.lks)
  d01 : g0 ≠ g1
  d02 : g0 ≠ g2
  d03 : g0 ≠ g3
  d12 : g1 ≠ g2
  d13 : g1 ≠ g3
  d23 : g2 ≠ g3
theorem NewSt.rows {w w' : World} {s : StD} {g0 g1 g2 g3 : Nat} (h : NewSt w w' s g0 g1 g2 g3) : Rows4 w' (newStV s g0 g1 g2 g3) s g0 g1 g2 g3 := by
  obtain ⟨l0, l1, l2, l3, l4, R0, R1, R2, R3⟩ := h
  exact { val := ⟨_, _, _, _, _, _, _, _, rfl, fun _ => rfl, fun _ => rfl, fun _ => rfl, fun _ => rfl⟩, z0 := fun _ => by omega, z1 := fun _ => by omega, z2 := fun _ => by omega, z3 := fun _ => by omega, R0 := R0, R1 := R1, R2 := R2, R3 := R3, d01 := by omega, d02 := by omega, d03 := by omega, d12 := by omega, d13 := by omega, d23 := by omega }
theorem row_type {w : World} {B B' e e' k k' n n' g : Nat} {v v' : Value} {xs xs' : List Value} (h : w.ownsRow B e k v n xs) (h' : w.ownsRow B' e' k' v' n' xs') (hv : v.ownBlock = some g) (hv' : v'.ownBlock = some g) : e = e' := by
  rcases h.2 with ⟨rfl, _⟩ | ⟨g1, c1, cur1, rfl, _, hh1, _⟩
  · simp [Value.ownBlock] at hv
  · rcases h'.2 with ⟨rfl, _⟩ | ⟨g2, c2, cur2, rfl, _, hh2, _⟩
    · simp [Value.ownBlock] at hv'
    · obtain rfl : g1 = g := by simpa [Value.ownBlock] using hv
      obtain rfl : g2 = g1 := by simpa [Value.ownBlock] using hv'
      rw [hh1] at hh2
      injection hh2 with hh2
      injection hh2 with _ h2 _
/-- A row of the call's own, its block named; a number of choice where it has none. -/
theorem row_named {w : World} {B e k n : Nat} {v : Value} {xs : List Value} (h : w.ownsRow B e k v n xs) (hB : B ≤ w.heap.size) (m : Nat) (hm : w.heap.size ≤ m) :
    ∃ A c g, v = .slice A n c ∧ (0 < n → A = some ⟨g, 0, none⟩) ∧ B ≤ g ∧ (0 < n → g < w.heap.size) ∧ RowV w g xs ∧ ((v.ownBlock = some g ∧ g < w.heap.size) ∨ g = m) := by
  obtain ⟨A, c, g, hv, hA, hnc, hb, hg, hR, hS, hx⟩ := open_row h
  by_cases hn : 0 < n
  · refine ⟨A, c, g, hv, hA, hb, hg, hR, .inl ⟨?_, hg hn⟩⟩
    rw [hv, hA hn]
    rfl
  · refine ⟨A, c, m, hv, fun h => absurd h hn, by omega, fun h => absurd h hn, fun j hj => ?_, .inr rfl⟩
    have := h.1
    obtain rfl : n = 0 := by omega
    omega
theorem OwnSt.rows {w : World} {B : Nat} {v : Value} {s : StD} (h : OwnSt w B v s) (hB : B ≤ w.heap.size) : ∃ g0 g1 g2 g3, Rows4 w v s g0 g1 g2 g3 ∧ B ≤ g0 ∧ B ≤ g1 ∧ B ≤ g2 ∧ B ≤ g3 := by
  obtain ⟨v0, v1, v2, v3, rfl, h0, h1, h2, h3⟩ := h.it
  obtain ⟨A0, c0, g0, e0, a0, b0, z0, R0, o0⟩ := row_named h0 hB (w.heap.size + 0) (by omega)
  obtain ⟨A1, c1, g1, e1, a1, b1, z1, R1, o1⟩ := row_named h1 hB (w.heap.size + 1) (by omega)
  obtain ⟨A2, c2, g2, e2, a2, b2, z2, R2, o2⟩ := row_named h2 hB (w.heap.size + 2) (by omega)
  obtain ⟨A3, c3, g3, e3, a3, b3, z3, R3, o3⟩ := row_named h3 hB (w.heap.size + 3) (by omega)
  have d01 : g0 ≠ g1 := fun e => by
    rcases o0 with ⟨p, q⟩ | p
    · rcases o1 with ⟨p', q'⟩ | p'
      · exact absurd (row_type h0 h1 p (by rw [e]; exact p')) (by decide)
      · omega
    · rcases o1 with ⟨p', q'⟩ | p'
      · omega
      · omega
  have d02 : g0 ≠ g2 := fun e => by
    rcases o0 with ⟨p, q⟩ | p
    · rcases o2 with ⟨p', q'⟩ | p'
      · exact absurd (row_type h0 h2 p (by rw [e]; exact p')) (by decide)
      · omega
    · rcases o2 with ⟨p', q'⟩ | p'
      · omega
      · omega
  have d03 : g0 ≠ g3 := fun e => by
    rcases o0 with ⟨p, q⟩ | p
    · rcases o3 with ⟨p', q'⟩ | p'
      · exact absurd (row_type h0 h3 p (by rw [e]; exact p')) (by decide)
      · omega
    · rcases o3 with ⟨p', q'⟩ | p'
      · omega
      · omega
  have d12 : g1 ≠ g2 := fun e => by
    rcases o1 with ⟨p, q⟩ | p
    · rcases o2 with ⟨p', q'⟩ | p'
      · exact absurd (row_type h1 h2 p (by rw [e]; exact p')) (by decide)
      · omega
    · rcases o2 with ⟨p', q'⟩ | p'
      · omega
      · omega
  have d13 : g1 ≠ g3 := fun e => by
    rcases o1 with ⟨p, q⟩ | p
    · rcases o3 with ⟨p', q'⟩ | p'
      · exact absurd (row_type h1 h3 p (by rw [e]; exact p')) (by decide)
      · omega
    · rcases o3 with ⟨p', q'⟩ | p'
      · omega
      · omega
  have d23 : g2 ≠ g3 := fun e => by
    rcases o2 with ⟨p, q⟩ | p
    · rcases o3 with ⟨p', q'⟩ | p'
      · exact absurd (row_type h2 h3 p (by rw [e]; exact p')) (by decide)
      · omega
    · rcases o3 with ⟨p', q'⟩ | p'
      · omega
      · omega
  subst e0 e1 e2 e3
  exact ⟨g0, g1, g2, g3, { val := ⟨A0, A1, A2, A3, c0, c1, c2, c3, rfl, a0, a1, a2, a3⟩, z0 := z0, z1 := z1, z2 := z2, z3 := z3, R0 := R0, R1 := R1, R2 := R2, R3 := R3, d01 := d01, d02 := d02, d03 := d03, d12 := d12, d13 := d13, d23 := d23 }, b0, b1, b2, b3⟩
theorem keep_none {S : Nat → Prop} {w w' : World} (k : Keeps (· = w.heap.size) w w') : Keeps S w w' := ⟨k.os, k.tape, k.output, k.size, fun b hb _ => k.block b hb (by omega)⟩
theorem rowv_nil (w : World) (g : Nat) : RowV w g [] := fun j hj => by simp at hj
theorem markPodAtS_at (A : Option Addr) (n c g : Nat) (k0 : Int) (l : List (Int × Int)) (w : World) (hl : l.length = n) (hA : 0 < n → A = some ⟨g, 0, none⟩) (R : RowV w g (podCs l)) (hn : n ≤ 1048576) (h0 : 0 ≤ k0) (h1 : k0 ≤ 8388608) :
    Calls Tryz.prog 50 #[.slice A n c, .int .i64 k0] w fun e w' => e = .returned (.int .i64 (k0 + 2 * n)) ∧ RowV w' g (podCs (mkPods k0 n)) ∧ Keeps (fun b => b = g ∧ 0 < n) w w' := by
  by_cases h : 0 < n
  · refine (markPodAtS_any A n c g k0 l w hl hA R hn h0 h1).mono fun e w' hh => ⟨hh.1, hh.2.1, hh.2.2.mono fun b hb => ⟨hb, h⟩⟩
  · obtain rfl : n = 0 := by omega
    have e : l = [] := List.eq_nil_of_length_eq_zero hl
    subst e
    refine (markPodAtS_any A 0 c w.heap.size k0 [] w rfl (fun h => absurd h (by omega)) (rowv_nil _ _) hn h0 h1).mono fun e w' hh => ⟨hh.1, rowv_nil _ _, keep_none hh.2.2⟩
theorem markMountAtS_at (A : Option Addr) (n c g : Nat) (k0 : Int) (l : List (Bool × Int)) (w : World) (hl : l.length = n) (hA : 0 < n → A = some ⟨g, 0, none⟩) (R : RowV w g (mntCs l)) (hn : n ≤ 1048576) (h0 : 0 ≤ k0) (h1 : k0 ≤ 8388608) :
    Calls Tryz.prog 51 #[.slice A n c, .int .i64 k0] w fun e w' => e = .returned (.int .i64 (k0 + 2 * n)) ∧ RowV w' g (mntCs (mkMnts k0 n)) ∧ Keeps (fun b => b = g ∧ 0 < n) w w' := by
  by_cases h : 0 < n
  · refine (markMountAtS_any A n c g k0 l w hl hA R hn h0 h1).mono fun e w' hh => ⟨hh.1, hh.2.1, hh.2.2.mono fun b hb => ⟨hb, h⟩⟩
  · obtain rfl : n = 0 := by omega
    have e : l = [] := List.eq_nil_of_length_eq_zero hl
    subst e
    refine (markMountAtS_any A 0 c w.heap.size k0 [] w rfl (fun h => absurd h (by omega)) (rowv_nil _ _) hn h0 h1).mono fun e w' hh => ⟨hh.1, rowv_nil _ _, keep_none hh.2.2⟩
theorem markBoolS_at (A : Option Addr) (n c g : Nat) (k0 : Int) (l : List Bool) (w : World) (hl : l.length = n) (hA : 0 < n → A = some ⟨g, 0, none⟩) (R : RowV w g (devCs l)) (hn : n ≤ 1048576) (h0 : 0 ≤ k0) (h1 : k0 ≤ 8388608) :
    Calls Tryz.prog 52 #[.slice A n c, .int .i64 k0] w fun e w' => e = .returned (.int .i64 (k0 + n)) ∧ RowV w' g (devCs (mkDevs k0 n)) ∧ Keeps (fun b => b = g ∧ 0 < n) w w' := by
  by_cases h : 0 < n
  · refine (markBoolS_any A n c g k0 l w hl hA R hn h0 h1).mono fun e w' hh => ⟨hh.1, hh.2.1, hh.2.2.mono fun b hb => ⟨hb, h⟩⟩
  · obtain rfl : n = 0 := by omega
    have e : l = [] := List.eq_nil_of_length_eq_zero hl
    subst e
    refine (markBoolS_any A 0 c w.heap.size k0 [] w rfl (fun h => absurd h (by omega)) (rowv_nil _ _) hn h0 h1).mono fun e w' hh => ⟨hh.1, rowv_nil _ _, keep_none hh.2.2⟩
theorem markInts_at (A : Option Addr) (n c g : Nat) (k0 : Int) (l : List Int) (w : World) (hl : l.length = n) (hA : 0 < n → A = some ⟨g, 0, none⟩) (R : RowV w g (lkCs l)) (hn : n ≤ 1048576) (h0 : 0 ≤ k0) (h1 : k0 ≤ 8388608) :
    Calls Tryz.prog 47 #[.slice A n c, .int .i64 k0] w fun e w' => e = .returned (.int .i64 (k0 + n)) ∧ RowV w' g (lkCs (mkLks k0 n)) ∧ Keeps (fun b => b = g ∧ 0 < n) w w' := by
  by_cases h : 0 < n
  · refine (markInts_any A n c g k0 l w hl hA R hn h0 h1).mono fun e w' hh => ⟨hh.1, hh.2.1, hh.2.2.mono fun b hb => ⟨hb, h⟩⟩
  · obtain rfl : n = 0 := by omega
    have e : l = [] := List.eq_nil_of_length_eq_zero hl
    subst e
    refine (markInts_any A 0 c w.heap.size k0 [] w rfl (fun h => absurd h (by omega)) (rowv_nil _ _) hn h0 h1).mono fun e w' hh => ⟨hh.1, rowv_nil _ _, keep_none hh.2.2⟩
theorem Rows4.go {w w' : World} {v : Value} {s : StD} {g0 g1 g2 g3 : Nat} (h : Rows4 w v s g0 g1 g2 g3) (hb : Below w.heap.size w w') : Rows4 w' v s g0 g1 g2 g3 := by
  obtain ⟨hv, z0, R0, z1, R1, z2, R2, z3, R3, d01, d02, d03, d12, d13, d23⟩ := h
  exact ⟨hv, fun h => Nat.lt_of_lt_of_le (z0 h) hb.size, R0.go (fun h => z0 (by rw [podCs_len] at h; omega)) hb, fun h => Nat.lt_of_lt_of_le (z1 h) hb.size, R1.go (fun h => z1 (by rw [mntCs_len] at h; omega)) hb,
    fun h => Nat.lt_of_lt_of_le (z2 h) hb.size, R2.go (fun h => z2 (by rw [devCs_len] at h; omega)) hb, fun h => Nat.lt_of_lt_of_le (z3 h) hb.size, R3.go (fun h => z3 (by rw [lkCs_len] at h; omega)) hb, d01, d02, d03, d12, d13, d23⟩

/-- How many marks a state takes. -/
def totS (s : StD) : Nat := 2 * s.pods.length + 2 * s.mnts.length + s.devs.length + s.lks.length
/-- A state marked. -/
def markS (k : Int) (s : StD) : StD := { s with
  pods := mkPods k s.pods.length
  mnts := mkMnts (k + 2 * s.pods.length) s.mnts.length
  devs := mkDevs (k + 2 * s.pods.length + 2 * s.mnts.length) s.devs.length
  lks := mkLks (k + 2 * s.pods.length + 2 * s.mnts.length + s.devs.length) s.lks.length }
set_option maxHeartbeats 2000000 in
theorem markState_any (v : Value) (s : StD) (g0 g1 g2 g3 : Nat) (k : Int) (w : World) (h : Rows4 w v s g0 g1 g2 g3) (hf : StFits s 1048576) (hk0 : 0 ≤ k) (hk1 : k + totS s ≤ 8388608) :
    Calls Tryz.prog 14 #[v, .int .i64 k] w fun e w' => e = .returned (.int .i64 (k + totS s)) ∧ Rows4 w' v (markS k s) g0 g1 g2 g3 ∧ Keeps (fun b => b = g0 ∨ b = g1 ∨ b = g2 ∨ b = g3) w w' := by
  obtain ⟨⟨A0, A1, A2, A3, c0, c1, c2, c3, rfl, a0, a1, a2, a3⟩, z0, R0, z1, R1, z2, R2, z3, R3, d01, d02, d03, d12, d13, d23⟩ := h
  obtain ⟨f0, f1, f2, f3⟩ := hf
  obtain ⟨ph, co, ck, bo, ba, lb, l0, l1, l2, l3, gd, pr⟩ := s
  unfold totS at hk1 ⊢
  unfold markS
  dsimp only at *
  have HA0 := Lib.hid a0
  have HZ0 := Lib.hid z0
  have HA1 := Lib.hid a1
  have HZ1 := Lib.hid z1
  have HA2 := Lib.hid a2
  have HZ2 := Lib.hid z2
  have HA3 := Lib.hid a3
  have HZ3 := Lib.hid z3
  generalize hq0 : l0.length = n0 at *
  have HQ0 := Lib.hid hq0
  generalize hq1 : l1.length = n1 at *
  have HQ1 := Lib.hid hq1
  generalize hq2 : l2.length = n2 at *
  have HQ2 := Lib.hid hq2
  generalize hq3 : l3.length = n3 at *
  have HQ3 := Lib.hid hq3
  clear a0 a1 a2 a3 z0 z1 z2 z3 hq0 hq1 hq2 hq3
  have K0 : Keeps (fun b => b = g0 ∨ b = g1 ∨ b = g2 ∨ b = g3) w (w.alloc (.cells (stC A0 A1 A2 A3 n0 c0 n1 c1 n2 c2 n3 c3 ph co ck bo ba lb gd pr) 47)) := Keeps.of_below ((Below.refl _ _).alloc (Nat.le_refl _) _)
  go_enter Tryz.func14, Tryz.ntmps14
  go_wp2_with fail
  have KK := K0
  have hbox := cell_new w (stC A0 A1 A2 A3 n0 c0 n1 c1 n2 c2 n3 c3 ph co ck bo ba lb gd pr) 47
  have hsz : w.heap.size < (w.alloc (.cells (stC A0 A1 A2 A3 n0 c0 n1 c1 n2 c2 n3 c3 ph co ck bo ba lb gd pr) 47)).heap.size := by simp
  replace R0 := R0.go (fun h => HZ0.out (by rw [podCs_len, HQ0.out] at h; omega)) ((Below.refl _ _).alloc (Nat.le_refl _) (.cells (stC A0 A1 A2 A3 n0 c0 n1 c1 n2 c2 n3 c3 ph co ck bo ba lb gd pr) 47))
  replace R1 := R1.go (fun h => HZ1.out (by rw [mntCs_len, HQ1.out] at h; omega)) ((Below.refl _ _).alloc (Nat.le_refl _) (.cells (stC A0 A1 A2 A3 n0 c0 n1 c1 n2 c2 n3 c3 ph co ck bo ba lb gd pr) 47))
  replace R2 := R2.go (fun h => HZ2.out (by rw [devCs_len, HQ2.out] at h; omega)) ((Below.refl _ _).alloc (Nat.le_refl _) (.cells (stC A0 A1 A2 A3 n0 c0 n1 c1 n2 c2 n3 c3 ph co ck bo ba lb gd pr) 47))
  replace R3 := R3.go (fun h => HZ3.out (by rw [lkCs_len, HQ3.out] at h; omega)) ((Below.refl _ _).alloc (Nat.le_refl _) (.cells (stC A0 A1 A2 A3 n0 c0 n1 c1 n2 c2 n3 c3 ph co ck bo ba lb gd pr) 47))
  generalize hw1 : w.alloc (.cells (stC A0 A1 A2 A3 n0 c0 n1 c1 n2 c2 n3 c3 ph co ck bo ba lb gd pr) 47) = w1 at *
  clear hw1 K0
  refine (markPodAtS_at A0 n0 c0 g0 (k) l0 w1 HQ0.out HA0.out R0 f0 (by omega) (by omega)).mono ?_
  rintro e w2 ⟨rfl, X0, hk⟩
  replace R1 := RowV.keepsC R1 hk (fun h => Nat.lt_trans (HZ1.out (by rw [mntCs_len, HQ1.out] at h; omega)) hsz) (fun h => d01 h.1.symm)
  replace R2 := RowV.keepsC R2 hk (fun h => Nat.lt_trans (HZ2.out (by rw [devCs_len, HQ2.out] at h; omega)) hsz) (fun h => d02 h.1.symm)
  replace R3 := RowV.keepsC R3 hk (fun h => Nat.lt_trans (HZ3.out (by rw [lkCs_len, HQ3.out] at h; omega)) hsz) (fun h => d03 h.1.symm)
  replace hbox := fun o => (hk.cell (p := ⟨w.heap.size, o, none⟩) hsz (fun h => by have := HZ0.out h.2; have h9 : w.heap.size = g0 := h.1; omega)).trans (hbox o)
  replace KK := KK.trans (hk.mono (fun b h => by rcases h with ⟨h, _⟩; subst h; simp))
  replace hsz := Nat.lt_of_lt_of_le hsz hk.size
  clear hk
  go_wp2_with fail
  refine (markMountAtS_at A1 n1 c1 g1 (k + 2 * (n0 : Int)) l1 w2 HQ1.out HA1.out R1 f1 (by omega) (by omega)).mono ?_
  rintro e w3 ⟨rfl, X1, hk⟩
  replace X0 := RowV.keepsC X0 hk (fun h => Nat.lt_trans (HZ0.out (by rw [podCs_len, mkPods_len] at h; omega)) hsz) (fun h => d01 h.1)
  replace R2 := RowV.keepsC R2 hk (fun h => Nat.lt_trans (HZ2.out (by rw [devCs_len, HQ2.out] at h; omega)) hsz) (fun h => d12 h.1.symm)
  replace R3 := RowV.keepsC R3 hk (fun h => Nat.lt_trans (HZ3.out (by rw [lkCs_len, HQ3.out] at h; omega)) hsz) (fun h => d13 h.1.symm)
  replace hbox := fun o => (hk.cell (p := ⟨w.heap.size, o, none⟩) hsz (fun h => by have := HZ1.out h.2; have h9 : w.heap.size = g1 := h.1; omega)).trans (hbox o)
  replace KK := KK.trans (hk.mono (fun b h => by rcases h with ⟨h, _⟩; subst h; simp))
  replace hsz := Nat.lt_of_lt_of_le hsz hk.size
  clear hk
  go_wp2_with fail
  refine (markBoolS_at A2 n2 c2 g2 (k + 2 * (n0 : Int) + 2 * (n1 : Int)) l2 w3 HQ2.out HA2.out R2 f2 (by omega) (by omega)).mono ?_
  rintro e w4 ⟨rfl, X2, hk⟩
  replace X0 := RowV.keepsC X0 hk (fun h => Nat.lt_trans (HZ0.out (by rw [podCs_len, mkPods_len] at h; omega)) hsz) (fun h => d02 h.1)
  replace X1 := RowV.keepsC X1 hk (fun h => Nat.lt_trans (HZ1.out (by rw [mntCs_len, mkMnts_len] at h; omega)) hsz) (fun h => d12 h.1)
  replace R3 := RowV.keepsC R3 hk (fun h => Nat.lt_trans (HZ3.out (by rw [lkCs_len, HQ3.out] at h; omega)) hsz) (fun h => d23 h.1.symm)
  replace hbox := fun o => (hk.cell (p := ⟨w.heap.size, o, none⟩) hsz (fun h => by have := HZ2.out h.2; have h9 : w.heap.size = g2 := h.1; omega)).trans (hbox o)
  replace KK := KK.trans (hk.mono (fun b h => by rcases h with ⟨h, _⟩; subst h; simp))
  replace hsz := Nat.lt_of_lt_of_le hsz hk.size
  clear hk
  go_wp2_with fail
  refine (markInts_at A3 n3 c3 g3 (k + 2 * (n0 : Int) + 2 * (n1 : Int) + (n2 : Int)) l3 w4 HQ3.out HA3.out R3 f3 (by omega) (by omega)).mono ?_
  rintro e w5 ⟨rfl, X3, hk⟩
  replace X0 := RowV.keepsC X0 hk (fun h => Nat.lt_trans (HZ0.out (by rw [podCs_len, mkPods_len] at h; omega)) hsz) (fun h => d03 h.1)
  replace X1 := RowV.keepsC X1 hk (fun h => Nat.lt_trans (HZ1.out (by rw [mntCs_len, mkMnts_len] at h; omega)) hsz) (fun h => d13 h.1)
  replace X2 := RowV.keepsC X2 hk (fun h => Nat.lt_trans (HZ2.out (by rw [devCs_len, mkDevs_len] at h; omega)) hsz) (fun h => d23 h.1)
  replace hbox := fun o => (hk.cell (p := ⟨w.heap.size, o, none⟩) hsz (fun h => by have := HZ3.out h.2; have h9 : w.heap.size = g3 := h.1; omega)).trans (hbox o)
  replace KK := KK.trans (hk.mono (fun b h => by rcases h with ⟨h, _⟩; subst h; simp))
  replace hsz := Nat.lt_of_lt_of_le hsz hk.size
  clear hk
  go_wp2_with fail
  go_ret
  refine ⟨?_, ?_, KK⟩
  · show Ending.returned (Value.int .i64 _) = _
    congr 2
    push_cast
    omega
  · exact { val := ⟨A0, A1, A2, A3, c0, c1, c2, c3, by simp only [mkPods_len, mkMnts_len, mkDevs_len, mkLks_len], fun h => HA0.out (by simpa [mkPods_len] using h), fun h => HA1.out (by simpa [mkMnts_len] using h), fun h => HA2.out (by simpa [mkDevs_len] using h), fun h => HA3.out (by simpa [mkLks_len] using h)⟩, z0 := fun h => Nat.lt_trans (HZ0.out (by simpa [mkPods_len] using h)) hsz, z1 := fun h => Nat.lt_trans (HZ1.out (by simpa [mkMnts_len] using h)) hsz, z2 := fun h => Nat.lt_trans (HZ2.out (by simpa [mkDevs_len] using h)) hsz, z3 := fun h => Nat.lt_trans (HZ3.out (by simpa [mkLks_len] using h)) hsz, R0 := X0, R1 := X1, R2 := X2, R3 := X3, d01 := d01, d02 := d02, d03 := d03, d12 := d12, d13 := d13, d23 := d23 }

end Go.Proofs.YtdphpjnecjofeaaGreat
/- Um -/
set_option linter.unusedVariables false
namespace Go.Proofs.YtdphpjnecjofeaaGreat
open Go.RowKit

theorem wpList_append_slv {w : World} {ops : Array Oper} {rest : List Oper} {o : Oper} {a : Act} {Q : Exit → Act → World → Prop} (hgd : o.guard = none) (s x : Operand) (t e : TypeId) (i0 : TypeInfo) (z : Value) (k by' : Nat)
    (ho : o.op = .call { callee := .builtin .append, args := #[s, x], argTypes := #[t, t] }) (hu : Tryz.prog.underlying t = some (.slice e)) (hi : Tryz.prog.info? e = some i0) (hz0 : i0.zero = some z) (hz1 : i0.size = k) (hz2 : i0.bytes = by')
    (hzs : z.cells.size = k) (hk : 0 < k) (hby : by' ≤ 1024) (base : Nat) (v : Value) (n : Nat) (xs : List Value) (hs : a.eval s = v) (hown : w.ownsRow base e k v n xs)
    (A : Option Addr) (m c : Nat) (ys : List Value) (hx : a.eval x = .slice A m c) (hr : A = none → c = 0) {B : Nat} (hb : SlV w B k A m ys) (h1 : ∀ u ∈ ys, u.oneCell' = true) (hlen : n + m ≤ 8388608) (hbase : base ≤ w.heap.size)
    (h : ∀ v' w', w'.ownsRow base e k v' (n + m) (xs ++ ys) → w.grownBy w' v.ownBlock → wpList Tryz.prog ops Q rest (a.put o.dst v') w') : wpList Tryz.prog ops Q (o :: rest) a w := by
  cases A with
  | none =>
    obtain rfl := hr rfl
    have hm : m = 0 := by
      rcases Nat.eq_zero_or_pos m with h | hne
      · exact h
      · obtain ⟨b, off, e, _⟩ := hb.it hne
        cases e
    subst hm
    have hys : ys = [] := List.eq_nil_of_length_eq_zero (by rw [hb.len]; simp)
    subst hys
    refine wpList_append_own_none hgd s x t ho base e i0 k hu hi v n xs hs hown hx ?_
    have := h v w (by rw [List.append_nil]; exact hown) ⟨rfl, rfl, rfl, Nat.le_refl _, fun _ _ _ => rfl⟩
    exact this
  | some ad =>
    refine wpList_append_own w hgd s x t ho base e i0 z k by' hu hi hz0 hz1 hz2 hzs hk v n xs hs hown ad m c ys hx hb.len ?_ h1 (by unfold maxLen; omega) ?_ hbase ?_
    · intro j y hy
      have hj : j < ys.length := (List.getElem?_eq_some_iff.1 hy).1
      have hl := hb.len
      have hm : 0 < m := by
        rcases Nat.eq_zero_or_pos m with h | h
        · subst h; omega
        · exact h
      obtain ⟨b, off, e, hb1, q⟩ := hb.it hm
      cases e
      have ha : (⟨b, off, none⟩ : Addr).add j = ⟨b, off + j, none⟩ := by unfold Addr.add; split <;> simp_all
      rw [ha, q j (by omega), hy]
    · have : (n + m) * by' ≤ 8388608 * 1024 := Nat.mul_le_mul hlen hby
      omega
    · intro v' w' h1 h2 _
      exact h v' w' h1 h2

/-- An empty row just made. -/
theorem made_empty (w : World) (B e k : Nat) (hB : B ≤ w.heap.size) : (w.alloc (.cells #[] e)).ownsRow B e k (.slice (some ⟨w.heap.size, 0, none⟩) 0 0) 0 [] := by
  have := World.ownsRow_made (base := w.heap.size) (e := e) (size := k) w #[] 0 (by simp) (Nat.zero_le _) (by simp)
  exact ownsRow_base this hB
end Go.Proofs.YtdphpjnecjofeaaGreat
/- Un -/
set_option linter.unusedVariables false
namespace Go.Proofs.YtdphpjnecjofeaaGreat
open Go.RowKit

/-- A state that can be read, its lists real slices and small. -/
structure IsStR (w : World) (B : Nat) (v : Value) (s : StD) : Prop where
  it : ∃ A0 A1 A2 A3 c0 c1 c2 c3, v = .agg (stC A0 A1 A2 A3 s.pods.length c0 s.mnts.length c1 s.devs.length c2 s.lks.length c3 s.ph s.co s.ck s.bo s.ba s.lb s.gd s.pr) ∧
    (SlV w B 2 A0 s.pods.length (podCs s.pods) ∧ SlV w B 2 A1 s.mnts.length (mntCs s.mnts) ∧ SlV w B 1 A2 s.devs.length (devCs s.devs) ∧ SlV w B 1 A3 s.lks.length (lkCs s.lks)) ∧
    (A0 = none → c0 = 0) ∧ (A1 = none → c1 = 0) ∧ (A2 = none → c2 = 0) ∧ (A3 = none → c3 = 0)
  fit : StFits s 1048576
theorem IsStR.is {w : World} {B : Nat} {v : Value} {s : StD} (h : IsStR w B v s) : IsSt w B v s := by
  obtain ⟨⟨A0, A1, A2, A3, c0, c1, c2, c3, hv, ⟨h0, h1, h2, h3⟩, -⟩, f0, f1, f2, f3⟩ := h
  have hm : 1048576 ≤ maxLen := by unfold maxLen; decide
  exact ⟨⟨A0, A1, A2, A3, c0, c1, c2, c3, hv, h0, h1, h2, h3⟩, by omega, by omega, by omega, by omega⟩
theorem IsStR.below {w w' : World} {B B' : Nat} {v : Value} {s : StD} (h : IsStR w B v s) (hb : Below B' w w') (hB : B ≤ B') : IsStR w' B v s := by
  obtain ⟨⟨A0, A1, A2, A3, c0, c1, c2, c3, hv, ⟨h0, h1, h2, h3⟩, hr⟩, hf⟩ := h
  exact ⟨⟨A0, A1, A2, A3, c0, c1, c2, c3, hv, ⟨h0.below hb hB, h1.below hb hB, h2.below hb hB, h3.below hb hB⟩, hr⟩, hf⟩
theorem IsStR.more {w : World} {B B' : Nat} {v : Value} {s : StD} (h : IsStR w B v s) (hB : B ≤ B') : IsStR w B' v s := by
  obtain ⟨⟨A0, A1, A2, A3, c0, c1, c2, c3, hv, ⟨h0, h1, h2, h3⟩, hr⟩, hf⟩ := h
  exact ⟨⟨A0, A1, A2, A3, c0, c1, c2, c3, hv, ⟨h0.more hB, h1.more hB, h2.more hB, h3.more hB⟩, hr⟩, hf⟩
theorem IsStR.go {w w' : World} {v : Value} {s : StD} (h : IsStR w w.heap.size v s) (hb : Below w.heap.size w w') : IsStR w' w'.heap.size v s := (h.below hb (Nat.le_refl _)).more hb.size
theorem open_rowR {w : World} {B e k n : Nat} {v : Value} {xs : List Value} (h : w.ownsRow B e k v n xs) : ∃ A c, v = .slice A n c ∧ (A = none → c = 0) ∧ SlV w w.heap.size k A n xs := by
  obtain ⟨A, c, g, hv, -, -, -, -, -, hS, -⟩ := open_row h
  refine ⟨A, c, hv, fun hA => ?_, hS⟩
  rcases h.2 with ⟨h1, h2⟩ | ⟨g', cap, cur, h1, -⟩
  · rw [hv] at h1
    injection h1
  · rw [hv] at h1
    injection h1 with h1 _ _
    rw [hA] at h1
    cases h1
end Go.Proofs.YtdphpjnecjofeaaGreat
/- Up -/
set_option linter.unusedVariables false
namespace Go.Proofs.YtdphpjnecjofeaaGreat
open Go.RowKit

/-- A row of whole numbers of the call's own. -/
def LkR (w : World) (B : Nat) (v : Value) (l : List Int) : Prop := w.ownsRow B 2 1 v l.length (lkCs l)
theorem LkR.lt {w : World} {B : Nat} {v : Value} {l : List Int} (h : LkR w B v l) {r : Nat} (hr : v.ownBlock = some r) : B ≤ r ∧ r < w.heap.size := World.ownsRow.lt h r hr
theorem LkR.empty (w : World) (B : Nat) (hB : B ≤ w.heap.size) : LkR (w.alloc (.cells #[] 2)) B (.slice (some ⟨w.heap.size, 0, none⟩) 0 0) [] := made_empty w B _ _ hB

end Go.Proofs.YtdphpjnecjofeaaGreat
/- Uq -/
set_option linter.unusedVariables false
namespace Go.Proofs.YtdphpjnecjofeaaGreat
open Go.RowKit

theorem withN_low {x : Int} {P : List Int} (Q : List Int) (h : ∀ y ∈ P, y < x) : withN x (P ++ Q) = P ++ withN x Q := by
  induction P with
  | nil => rfl
  | cons y P ih =>
    have hy := h y (by simp)
    have e : withN x (y :: (P ++ Q)) = (if x < y then x :: y :: (P ++ Q) else if x = y then y :: (P ++ Q) else y :: withN x (P ++ Q)) := rfl
    show withN x (y :: (P ++ Q)) = _
    rw [e, if_neg (by omega), if_neg (by omega), ih fun z hz => h z (by simp [hz])]
    rfl
theorem withN_hi {x : Int} {P : List Int} (Q : List Int) (h : ∃ y ∈ P, x ≤ y) : withN x (P ++ Q) = withN x P ++ Q := by
  induction P with
  | nil => simp at h
  | cons y P ih =>
    show withN x (y :: (P ++ Q)) = _
    unfold withN
    by_cases h1 : x < y
    · rw [if_pos h1, if_pos h1]; rfl
    · rw [if_neg h1, if_neg h1]
      by_cases h2 : x = y
      · rw [if_pos h2, if_pos h2]; rfl
      · rw [if_neg h2, if_neg h2]
        obtain ⟨z, hz, hx⟩ := h
        rw [ih ⟨z, by
          rcases List.mem_cons.1 hz with rfl | hz
          · omega
          · exact hz, hx⟩]
        rfl
theorem withN_len (x : Int) (l : List Int) : (withN x l).length ≤ l.length + 1 := by
  induction l with
  | nil => simp [withN]
  | cons y l ih =>
    unfold withN
    split
    · simp
    · split
      · simp
      · simpa using ih
/-- What stands in the list that is being made, behind k elements. -/
def putAt (l : List Int) (x : Int) (k : Nat) (put : Bool) (m : List Int) : Prop :=
  if put then (∃ y ∈ l.take k, x ≤ y) ∧ m = withN x (l.take k) else (∀ y ∈ l.take k, y < x) ∧ m = l.take k
theorem putAt.len {l : List Int} {x : Int} {k : Nat} {put : Bool} {m : List Int} (h : putAt l x k put m) : m.length ≤ l.length + 1 := by
  unfold putAt at h
  split at h
  · rw [h.2]
    refine Nat.le_trans (withN_len _ _) ?_
    rw [List.length_take]
    omega
  · rw [h.2, List.length_take]
    omega
theorem putAt.low {l : List Int} {x y : Int} {k : Nat} {m : List Int} (h : putAt l x k false m) (ht : l.take (k + 1) = l.take k ++ [y]) (hy : y < x) : putAt l x (k + 1) false (m ++ [y]) := by
  obtain ⟨h1, h2⟩ := h
  refine ⟨fun z hz => ?_, by rw [h2, ht]⟩
  rw [ht, List.mem_append] at hz
  rcases hz with hz | hz
  · exact h1 z hz
  · simp at hz; omega
theorem putAt.same {l : List Int} {x : Int} {k : Nat} {m : List Int} (h : putAt l x k false m) (ht : l.take (k + 1) = l.take k ++ [x]) : putAt l x (k + 1) true (m ++ [x]) := by
  obtain ⟨h1, h2⟩ := h
  refine ⟨⟨x, by rw [ht]; simp, by omega⟩, ?_⟩
  rw [ht, withN_low _ h1, h2]
  simp [withN]
theorem putAt.more {l : List Int} {x y : Int} {k : Nat} {m : List Int} (h : putAt l x k true m) (ht : l.take (k + 1) = l.take k ++ [y]) : putAt l x (k + 1) true (m ++ [y]) := by
  obtain ⟨⟨z, hz, hx⟩, h2⟩ := h
  refine ⟨⟨z, by rw [ht]; simp [hz], hx⟩, ?_⟩
  rw [ht, withN_hi _ ⟨z, hz, hx⟩, h2]
end Go.Proofs.YtdphpjnecjofeaaGreat
