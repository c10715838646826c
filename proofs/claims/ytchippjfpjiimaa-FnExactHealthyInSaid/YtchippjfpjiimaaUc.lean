/-
  The laws' comparisons of the lists of a state.
-/
import Derived.Test.YtchippjfpjiimaaUb
import Derived.Deep.RegionHeld3
set_option linter.unusedVariables false
namespace Go.Proofs.Ytchippjfpjiimaa
open Go.RowKit

set_option maxHeartbeats 1000000 in
theorem eqPodAtS_same (A A' : Option Addr) (c c' : Nat) (l : List (Int × Int)) (w : World) (h : SlV w w.heap.size 2 A l.length (podCs l)) (h' : SlV w w.heap.size 2 A' l.length (podCs l)) (hl : l.length ≤ maxLen) :
    Calls Try.prog 38 #[.slice A l.length c, .slice A' l.length c'] w fun e w' => e = .returned (.bool true) ∧ Below w.heap.size w w' := by
  have H := Lib.hid h
  have H' := Lib.hid h'
  have hl' : l.length ≤ 2 ^ 63 - 1 := by unfold maxLen at hl; omega
  clear hl h h'
  generalize hq : l.length = n at *
  have HQ := Lib.hid hq
  clear hq
  go_enter Try.func38, Try.ntmps38
  go_wp2
  go_loopw [5] (fun i wr => ∃ k : Nat, k ≤ n ∧ i = .int .i64 k ∧ Below w.heap.size w wr) (fun i _ => n - (intOf i).toNat)
  case atStart => exact ⟨0, Nat.zero_le _, rfl, Below.refl _ _⟩
  case round =>
    obtain ⟨k, hk, rfl, K⟩ := hrel
    by_cases hlt : k < n
    · obtain ⟨b, off, rfl, hb, hc⟩ := (H.out.below K (Nat.le_refl _)).cell hlt
      obtain ⟨b', off', rfl, hb', hc'⟩ := (H'.out.below K (Nat.le_refl _)).cell hlt
      have hp := podCs_at l (i := k) (by rw [HQ.out]; exact hlt)
      have q0 := (hc 0 (by decide)).trans hp.1
      have q1 := (hc 1 (by decide)).trans hp.2
      have r0 := (hc' 0 (by decide)).trans hp.1
      have r1 := (hc' 1 (by decide)).trans hp.2
      rw [Nat.add_zero] at q0 r0
      clear hc hc' hp
      generalize podA l k = r at *
      obtain ⟨x, y⟩ := r
      dsimp only at q0 q1 r0 r1
      have HBB := Lib.hid hb
      have HBB' := Lib.hid hb'
      clear hb hb'
      have S0 : (wr.cell? ⟨b, off + k * 2, none⟩ = some (.int .i64 x) ∧ wr.cell? ⟨b, off + k * 2 + 1, none⟩ = some (.int .i64 y)) ∧ (wr.cell? ⟨b', off' + k * 2, none⟩ = some (.int .i64 x) ∧ wr.cell? ⟨b', off' + k * 2 + 1, none⟩ = some (.int .i64 y)) ∧ Below w.heap.size w wr := ⟨⟨q0, q1⟩, ⟨r0, r1⟩, K⟩
      clear q0 q1 r0 r1
      go_wp2_with fail
      go_region_held3 (fun w' => (w'.cell? ⟨b, off + k * 2, none⟩ = some (.int .i64 x) ∧ w'.cell? ⟨b, off + k * 2 + 1, none⟩ = some (.int .i64 y)) ∧ (w'.cell? ⟨b', off' + k * 2, none⟩ = some (.int .i64 x) ∧ w'.cell? ⟨b', off' + k * 2 + 1, none⟩ = some (.int .i64 y)) ∧ Below w.heap.size w w')
        (first | exact S0 | exact S1 | exact ⟨S0.1, S0.2.1, S0.2.2.drew⟩)
        (first
          | (go_at_call 56
             refine (eqPodAt_same _ _ _).mono ?_
             rintro e w2 ⟨rfl, hb2⟩
             have L2 : wr.heap.size ≤ w2.heap.size := hb2.size
             have hs : w.heap.size ≤ wr.heap.size := K.size
             have S1 : (w2.cell? ⟨b, off + k * 2, none⟩ = some (.int .i64 x) ∧ w2.cell? ⟨b, off + k * 2 + 1, none⟩ = some (.int .i64 y)) ∧ (w2.cell? ⟨b', off' + k * 2, none⟩ = some (.int .i64 x) ∧ w2.cell? ⟨b', off' + k * 2 + 1, none⟩ = some (.int .i64 y)) ∧ Below w.heap.size w w2 :=
               ⟨⟨(hb2.cell (p := ⟨b, off + k * 2, none⟩) (Nat.lt_of_lt_of_le HBB.out hs)).trans S0.1.1, (hb2.cell (p := ⟨b, off + k * 2 + 1, none⟩) (Nat.lt_of_lt_of_le HBB.out hs)).trans S0.1.2⟩, ⟨(hb2.cell (p := ⟨b', off' + k * 2, none⟩) (Nat.lt_of_lt_of_le HBB'.out hs)).trans S0.2.1.1, (hb2.cell (p := ⟨b', off' + k * 2 + 1, none⟩) (Nat.lt_of_lt_of_le HBB'.out hs)).trans S0.2.1.2⟩, K.drew.trans (hb2.mono K.size)⟩))
      have K2 := S1.2.2
      clear S0 S1
      go_wp2
      exact ⟨⟨k + 1, by omega, by go_num, K2⟩, by simp [intOf]; omega⟩
    · obtain rfl : k = n := by omega
      go_wp2
      go_ret
      exact ⟨rfl, K⟩

set_option maxHeartbeats 1000000 in
theorem eqMountAtS_same (A A' : Option Addr) (c c' : Nat) (l : List (Bool × Int)) (w : World) (h : SlV w w.heap.size 2 A l.length (mntCs l)) (h' : SlV w w.heap.size 2 A' l.length (mntCs l)) (hl : l.length ≤ maxLen) :
    Calls Try.prog 39 #[.slice A l.length c, .slice A' l.length c'] w fun e w' => e = .returned (.bool true) ∧ Below w.heap.size w w' := by
  have H := Lib.hid h
  have H' := Lib.hid h'
  have hl' : l.length ≤ 2 ^ 63 - 1 := by unfold maxLen at hl; omega
  clear hl h h'
  generalize hq : l.length = n at *
  have HQ := Lib.hid hq
  clear hq
  go_enter Try.func39, Try.ntmps39
  go_wp2
  go_loopw [5] (fun i wr => ∃ k : Nat, k ≤ n ∧ i = .int .i64 k ∧ Below w.heap.size w wr) (fun i _ => n - (intOf i).toNat)
  case atStart => exact ⟨0, Nat.zero_le _, rfl, Below.refl _ _⟩
  case round =>
    obtain ⟨k, hk, rfl, K⟩ := hrel
    by_cases hlt : k < n
    · obtain ⟨b, off, rfl, hb, hc⟩ := (H.out.below K (Nat.le_refl _)).cell hlt
      obtain ⟨b', off', rfl, hb', hc'⟩ := (H'.out.below K (Nat.le_refl _)).cell hlt
      have hp := mntCs_at l (i := k) (by rw [HQ.out]; exact hlt)
      have q0 := (hc 0 (by decide)).trans hp.1
      have q1 := (hc 1 (by decide)).trans hp.2
      have r0 := (hc' 0 (by decide)).trans hp.1
      have r1 := (hc' 1 (by decide)).trans hp.2
      rw [Nat.add_zero] at q0 r0
      clear hc hc' hp
      generalize mntA l k = r at *
      obtain ⟨x, y⟩ := r
      dsimp only at q0 q1 r0 r1
      have HBB := Lib.hid hb
      have HBB' := Lib.hid hb'
      clear hb hb'
      have S0 : (wr.cell? ⟨b, off + k * 2, none⟩ = some (.bool x) ∧ wr.cell? ⟨b, off + k * 2 + 1, none⟩ = some (.int .i64 y)) ∧ (wr.cell? ⟨b', off' + k * 2, none⟩ = some (.bool x) ∧ wr.cell? ⟨b', off' + k * 2 + 1, none⟩ = some (.int .i64 y)) ∧ Below w.heap.size w wr := ⟨⟨q0, q1⟩, ⟨r0, r1⟩, K⟩
      clear q0 q1 r0 r1
      go_wp2_with fail
      go_region_held3 (fun w' => (w'.cell? ⟨b, off + k * 2, none⟩ = some (.bool x) ∧ w'.cell? ⟨b, off + k * 2 + 1, none⟩ = some (.int .i64 y)) ∧ (w'.cell? ⟨b', off' + k * 2, none⟩ = some (.bool x) ∧ w'.cell? ⟨b', off' + k * 2 + 1, none⟩ = some (.int .i64 y)) ∧ Below w.heap.size w w')
        (first | exact S0 | exact S1 | exact ⟨S0.1, S0.2.1, S0.2.2.drew⟩)
        (first
          | (go_at_call 57
             refine (eqMountAt_same _ _ _).mono ?_
             rintro e w2 ⟨rfl, hb2⟩
             have L2 : wr.heap.size ≤ w2.heap.size := hb2.size
             have hs : w.heap.size ≤ wr.heap.size := K.size
             have S1 : (w2.cell? ⟨b, off + k * 2, none⟩ = some (.bool x) ∧ w2.cell? ⟨b, off + k * 2 + 1, none⟩ = some (.int .i64 y)) ∧ (w2.cell? ⟨b', off' + k * 2, none⟩ = some (.bool x) ∧ w2.cell? ⟨b', off' + k * 2 + 1, none⟩ = some (.int .i64 y)) ∧ Below w.heap.size w w2 :=
               ⟨⟨(hb2.cell (p := ⟨b, off + k * 2, none⟩) (Nat.lt_of_lt_of_le HBB.out hs)).trans S0.1.1, (hb2.cell (p := ⟨b, off + k * 2 + 1, none⟩) (Nat.lt_of_lt_of_le HBB.out hs)).trans S0.1.2⟩, ⟨(hb2.cell (p := ⟨b', off' + k * 2, none⟩) (Nat.lt_of_lt_of_le HBB'.out hs)).trans S0.2.1.1, (hb2.cell (p := ⟨b', off' + k * 2 + 1, none⟩) (Nat.lt_of_lt_of_le HBB'.out hs)).trans S0.2.1.2⟩, K.drew.trans (hb2.mono K.size)⟩))
      have K2 := S1.2.2
      clear S0 S1
      go_wp2
      exact ⟨⟨k + 1, by omega, by go_num, K2⟩, by simp [intOf]; omega⟩
    · obtain rfl : k = n := by omega
      go_wp2
      go_ret
      exact ⟨rfl, K⟩

set_option maxHeartbeats 1000000 in
theorem eqBoolS_same (A A' : Option Addr) (c c' : Nat) (l : List Bool) (w : World) (h : SlV w w.heap.size 1 A l.length (devCs l)) (h' : SlV w w.heap.size 1 A' l.length (devCs l)) (hl : l.length ≤ maxLen) :
    Calls Try.prog 40 #[.slice A l.length c, .slice A' l.length c'] w fun e w' => e = .returned (.bool true) ∧ Below w.heap.size w w' := by
  have H := Lib.hid h
  have H' := Lib.hid h'
  have hl' : l.length ≤ 2 ^ 63 - 1 := by unfold maxLen at hl; omega
  clear hl h h'
  generalize hq : l.length = n at *
  have HQ := Lib.hid hq
  clear hq
  go_enter Try.func40, Try.ntmps40
  go_wp2
  go_loopw [5] (fun i wr => ∃ k : Nat, k ≤ n ∧ i = .int .i64 k ∧ Below w.heap.size w wr) (fun i _ => n - (intOf i).toNat)
  case atStart => exact ⟨0, Nat.zero_le _, rfl, Below.refl _ _⟩
  case round =>
    obtain ⟨k, hk, rfl, K⟩ := hrel
    by_cases hlt : k < n
    · obtain ⟨b, off, rfl, hb, hc⟩ := (H.out.below K (Nat.le_refl _)).cell hlt
      obtain ⟨b', off', rfl, hb', hc'⟩ := (H'.out.below K (Nat.le_refl _)).cell hlt
      have hp := devCs_at l (i := k) (by rw [HQ.out]; exact hlt)
      have q0 := hc 0 (by decide)
      have r0 := hc' 0 (by decide)
      rw [Nat.add_zero, Nat.mul_one, Nat.add_zero, hp] at q0 r0
      clear hc hc' hp
      generalize devA l k = x at *
      go_wp2_with fail
      go_quiet (fail)
      go_wp2
      exact ⟨⟨k + 1, by omega, by go_num, below_drewN K _⟩, by simp [intOf]; omega⟩
    · obtain rfl : k = n := by omega
      go_wp2
      go_ret
      exact ⟨rfl, K⟩

set_option maxHeartbeats 1000000 in
theorem eqInts_same (A A' : Option Addr) (c c' : Nat) (l : List Int) (w : World) (h : SlV w w.heap.size 1 A l.length (lkCs l)) (h' : SlV w w.heap.size 1 A' l.length (lkCs l)) (hl : l.length ≤ maxLen) :
    Calls Try.prog 35 #[.slice A l.length c, .slice A' l.length c'] w fun e w' => e = .returned (.bool true) ∧ Below w.heap.size w w' := by
  have H := Lib.hid h
  have H' := Lib.hid h'
  have hl' : l.length ≤ 2 ^ 63 - 1 := by unfold maxLen at hl; omega
  clear hl h h'
  generalize hq : l.length = n at *
  have HQ := Lib.hid hq
  clear hq
  go_enter Try.func35, Try.ntmps35
  go_wp2
  go_loopw [5] (fun i wr => ∃ k : Nat, k ≤ n ∧ i = .int .i64 k ∧ Below w.heap.size w wr) (fun i _ => n - (intOf i).toNat)
  case atStart => exact ⟨0, Nat.zero_le _, rfl, Below.refl _ _⟩
  case round =>
    obtain ⟨k, hk, rfl, K⟩ := hrel
    by_cases hlt : k < n
    · obtain ⟨b, off, rfl, hb, hc⟩ := (H.out.below K (Nat.le_refl _)).cell hlt
      obtain ⟨b', off', rfl, hb', hc'⟩ := (H'.out.below K (Nat.le_refl _)).cell hlt
      have hp := lkCs_at l (i := k) (by rw [HQ.out]; exact hlt)
      have q0 := hc 0 (by decide)
      have r0 := hc' 0 (by decide)
      rw [Nat.add_zero, Nat.mul_one, Nat.add_zero, hp] at q0 r0
      clear hc hc' hp
      generalize lkA l k = x at *
      go_wp2_with fail
      go_quiet (fail)
      go_wp2
      exact ⟨⟨k + 1, by omega, by go_num, below_drewN K _⟩, by simp [intOf]; omega⟩
    · obtain rfl : k = n := by omega
      go_wp2
      go_ret
      exact ⟨rfl, K⟩
end Go.Proofs.Ytchippjfpjiimaa
