/-
  A slice of whole-number cells as a function on places; the plan's own checks of one pod, one least number, one mount, one device.
-/
import Derived.Test.YtlmjjkljkmalpaaMGxA1
import Derived.Test.YtlmjjkljkmalpaaMGxPa
import Derived.Deep.Draws
import Derived.Deep.QuietTactic
import Derived.BigQuiet
import Derived.WalkSmall
import Derived.Lib.Hide
/- Pb -/
set_option linter.unusedVariables false
namespace Go.Proofs.Ytlmjjkljkmalpaa
open Go.RowKit
def podB (n1 : Nat) (x : Nat → Int) (i : Nat) : Bool := inB (x (i * 4)) 0 (n1 - 1) && inB (x (i * 4 + 1)) 0 5 && inB (x (i * 4 + 2)) 0 500 && inB (x (i * 4 + 3)) 0 500

set_option maxHeartbeats 400000 in
theorem podRight_any (A0 A1 A2 A3 : Option Addr) (n0 c0 n1 c1 n2 c2 n3 c3 : Nat) (l p t : Int) (x0 : Nat → Int) (i : Nat) (w : World)
    (s0 : Sl w w.heap.size 4 A0 n0 x0) (hi : i < n0) (b0 : n0 ≤ maxLen) (b1 : n1 ≤ maxLen) :
    Calls Try.prog 66 #[planV A0 A1 A2 A3 n0 c0 n1 c1 n2 c2 n3 c3 l p t, .int .i64 i] w fun e w' =>
      e = .returned (.bool (podB n1 x0 i)) ∧ Below w.heap.size w w' := by
  unfold maxLen at b0 b1
  obtain ⟨b, off, rfl, hb, q0, q1, q2, q3⟩ := s0.cell4 hi
  clear s0
  go_enter Try.func66, Try.ntmps66
  go_wp2_with (first | (go_at_call 76; refine (within_any _ _ _ _).mono ?_; rintro e w' ⟨rfl, rfl⟩) | (go_at_call 33; refine (isIndex_any _ _ _).mono ?_; rintro e w' ⟨rfl, rfl⟩))
  all_goals (go_ret; refine ⟨ret_bool ?_, ((Below.refl _ _).alloc (Nat.le_refl _) _).alloc (by simp) _⟩)
  all_goals simp [podB, *]

def minB (x : Nat → Int) (i : Nat) : Bool := inB (x i) 0 12
set_option maxHeartbeats 400000 in
theorem minRight_any (A0 A1 A2 A3 : Option Addr) (n0 c0 n1 c1 n2 c2 n3 c3 : Nat) (l p t : Int) (x1 : Nat → Int) (i : Nat) (w : World)
    (s1 : Sl w w.heap.size 1 A1 n1 x1) (hi : i < n1) (b1 : n1 ≤ maxLen) :
    Calls Try.prog 67 #[planV A0 A1 A2 A3 n0 c0 n1 c1 n2 c2 n3 c3 l p t, .int .i64 i] w fun e w' =>
      e = .returned (.bool (minB x1 i)) ∧ Below w.heap.size w w' := by
  unfold maxLen at b1
  obtain ⟨b, off, rfl, hb, q0⟩ := s1.cell1 hi
  clear s1
  go_enter Try.func67, Try.ntmps67
  go_wp2_with (first | (go_at_call 76; refine (within_any _ _ _ _).mono ?_; rintro e w' ⟨rfl, rfl⟩))
  go_ret
  exact ⟨rfl, (Below.refl _ _).alloc (Nat.le_refl _) _⟩

def mountB (n0 : Nat) (x : Nat → Int) (i : Nat) : Bool := inB (x (i * 2)) 0 (n0 - 1) && inB (x (i * 2 + 1)) (-1) (i - 1)
theorem mountB_eq (n0 : Nat) (x : Nat → Int) (i : Nat) : mountB n0 x i = (inB (x (i * 2)) 0 (n0 - 1) && (x (i * 2 + 1) == -1 || inB (x (i * 2 + 1)) 0 (i - 1))) := by
  unfold mountB
  congr 1
  rw [Bool.eq_iff_iff]
  simp [inB]
  omega
set_option maxHeartbeats 400000 in
theorem mountRight_any (A0 A1 A2 A3 : Option Addr) (n0 c0 n1 c1 n2 c2 n3 c3 : Nat) (l p t : Int) (x2 : Nat → Int) (i : Nat) (w : World)
    (s2 : Sl w w.heap.size 2 A2 n2 x2) (hi : i < n2) (b0 : n0 ≤ maxLen) (b2 : n2 ≤ maxLen) :
    Calls Try.prog 68 #[planV A0 A1 A2 A3 n0 c0 n1 c1 n2 c2 n3 c3 l p t, .int .i64 i] w fun e w' =>
      e = .returned (.bool (mountB n0 x2 i)) ∧ Below w.heap.size w w' := by
  rw [mountB_eq]
  unfold maxLen at b0 b2
  obtain ⟨b, off, rfl, hb, q0, q1⟩ := s2.cell2 hi
  clear s2
  go_enter Try.func68, Try.ntmps68
  go_wp2_with (first | (go_at_call 33; refine (isIndex_any _ _ _).mono ?_; rintro e w' ⟨rfl, rfl⟩))
  all_goals (go_ret; refine ⟨ret_bool ?_, ((Below.refl _ _).alloc (Nat.le_refl _) _).alloc (by simp) _⟩)
  all_goals simp [*]

def deviceB (n2 : Nat) (x : Nat → Int) (i : Nat) : Bool := inB (x i) 0 (n2 - 1)
set_option maxHeartbeats 400000 in
theorem deviceRight_any (A0 A1 A2 A3 : Option Addr) (n0 c0 n1 c1 n2 c2 n3 c3 : Nat) (l p t : Int) (x3 : Nat → Int) (i : Nat) (w : World)
    (s3 : Sl w w.heap.size 1 A3 n3 x3) (hi : i < n3) (b2 : n2 ≤ maxLen) (b3 : n3 ≤ maxLen) :
    Calls Try.prog 69 #[planV A0 A1 A2 A3 n0 c0 n1 c1 n2 c2 n3 c3 l p t, .int .i64 i] w fun e w' =>
      e = .returned (.bool (deviceB n2 x3 i)) ∧ Below w.heap.size w w' := by
  unfold maxLen at b2 b3
  obtain ⟨b, off, rfl, hb, q0⟩ := s3.cell1 hi
  clear s3
  go_enter Try.func69, Try.ntmps69
  go_wp2_with fail
  go_quiet ((go_at_call 33; exact Calls.quiet_of_same ((isIndex_any _ _ _).mono fun e w' h => ⟨h.1, h.2.symm⟩)))
  go_wp2
  go_ret
  exact ⟨rfl, below_drewN ((Below.refl _ _).alloc (Nat.le_refl _) _) _⟩
end Go.Proofs.Ytlmjjkljkmalpaa
