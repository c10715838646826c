/-
  The small functions of numbers alone: what each one answers.
-/
import Derived.Test.YtmbblhnagohlhaaRows
import Derived.WalkKit
import Derived.WalkSpells
import Derived.WalkLawsBesides
namespace Go.Proofs.Ytmbblhnagohlhaa
open Go.RowKit

/-- lo ≤ x ≤ hi, as a Bool that stays shut. -/
def inB (x lo hi : Int) : Bool := decide (lo ≤ x) && decide (x ≤ hi)
theorem inB_true {x lo hi : Int} : inB x lo hi = true ↔ lo ≤ x ∧ x ≤ hi := by simp [inB]

set_option maxHeartbeats 400000 in
theorem in_any (x lo hi : Int) (w : World) :
    Calls Try.prog 67 #[.int .i64 x, .int .i64 lo, .int .i64 hi] w fun e w' => e = .returned (.bool (inB x lo hi)) ∧ w = w' := by
  by_cases h1 : lo ≤ x
  · go_enter Try.func67, Try.ntmps67
    go_wp2
    go_ret
    exact ⟨by simp [inB, h1], rfl⟩
  · go_enter Try.func67, Try.ntmps67
    go_wp2
    go_ret
    exact ⟨by simp [inB]; omega, rfl⟩

set_option maxHeartbeats 400000 in
theorem within_any (x lo hi : Int) (w : World) :
    Calls Try.prog 76 #[.int .i64 x, .int .i64 lo, .int .i64 hi] w fun e w' => e = .returned (.bool (inB x lo hi)) ∧ w = w' := by
  by_cases h1 : lo ≤ x
  · go_enter Try.func76, Try.ntmps76
    go_wp2
    go_ret
    exact ⟨by simp [inB, h1], rfl⟩
  · go_enter Try.func76, Try.ntmps76
    go_wp2
    go_ret
    exact ⟨by simp [inB]; omega, rfl⟩

set_option maxHeartbeats 400000 in
theorem isIndex_any (x n : Int) (w : World) :
    Calls Try.prog 77 #[.int .i64 x, .int .i64 n] w fun e w' => e = .returned (.bool (inB x 0 (n - 1))) ∧ w = w' := by
  have e : ∀ a b : Int, decide (a ≤ b - 1) = decide (a < b) := fun a b => by rw [Bool.eq_iff_iff]; simp; omega
  by_cases h1 : 0 ≤ x
  · go_enter Try.func77, Try.ntmps77
    go_wp2
    go_ret
    exact ⟨by simp [inB, h1, e], rfl⟩
  · go_enter Try.func77, Try.ntmps77
    go_wp2
    go_ret
    exact ⟨by simp [inB]; omega, rfl⟩

def szI (left : Int) (n : Nat) : Int := if left - n < 0 then -1 else left - n
theorem szI_pos {left : Int} {n : Nat} (h : (n : Int) ≤ left) : szI left n = left - n := by unfold szI; rw [if_neg (by omega)]
theorem szI_neg {left : Int} {n : Nat} (h : ¬ (n : Int) ≤ left) : szI left n = -1 := by unfold szI; rw [if_pos (by omega)]

set_option maxHeartbeats 400000 in
theorem szPodS_any (A : Option Addr) (n c : Nat) (left : Int) (w : World) (hn : n ≤ maxLen) (h0 : 0 ≤ left) (h1 : left ≤ 1048576) :
    Calls Try.prog 41 #[.slice A n c, .int .i64 left] w fun e w' => e = .returned (.int .i64 (szI left n)) ∧ w = w' := by
  unfold maxLen at hn
  go_enter Try.func41, Try.ntmps41
  go_wp2
  · go_ret
    exact ⟨by rw [szI_neg (by omega)]; rfl, rfl⟩
  · go_ret
    exact ⟨by rw [szI_pos (by omega)]; rfl, rfl⟩
set_option maxHeartbeats 400000 in
theorem szInt64S_any (A : Option Addr) (n c : Nat) (left : Int) (w : World) (hn : n ≤ maxLen) (h0 : 0 ≤ left) (h1 : left ≤ 1048576) :
    Calls Try.prog 42 #[.slice A n c, .int .i64 left] w fun e w' => e = .returned (.int .i64 (szI left n)) ∧ w = w' := by
  unfold maxLen at hn
  go_enter Try.func42, Try.ntmps42
  go_wp2
  · go_ret
    exact ⟨by rw [szI_neg (by omega)]; rfl, rfl⟩
  · go_ret
    exact ⟨by rw [szI_pos (by omega)]; rfl, rfl⟩
set_option maxHeartbeats 400000 in
theorem szMountS_any (A : Option Addr) (n c : Nat) (left : Int) (w : World) (hn : n ≤ maxLen) (h0 : 0 ≤ left) (h1 : left ≤ 1048576) :
    Calls Try.prog 43 #[.slice A n c, .int .i64 left] w fun e w' => e = .returned (.int .i64 (szI left n)) ∧ w = w' := by
  unfold maxLen at hn
  go_enter Try.func43, Try.ntmps43
  go_wp2
  · go_ret
    exact ⟨by rw [szI_neg (by omega)]; rfl, rfl⟩
  · go_ret
    exact ⟨by rw [szI_pos (by omega)]; rfl, rfl⟩
set_option maxHeartbeats 400000 in
theorem szDeviceS_any (A : Option Addr) (n c : Nat) (left : Int) (w : World) (hn : n ≤ maxLen) (h0 : 0 ≤ left) (h1 : left ≤ 1048576) :
    Calls Try.prog 44 #[.slice A n c, .int .i64 left] w fun e w' => e = .returned (.int .i64 (szI left n)) ∧ w = w' := by
  unfold maxLen at hn
  go_enter Try.func44, Try.ntmps44
  go_wp2
  · go_ret
    exact ⟨by rw [szI_neg (by omega)]; rfl, rfl⟩
  · go_ret
    exact ⟨by rw [szI_pos (by omega)]; rfl, rfl⟩

theorem ret_bool {a b : Bool} (h : a = b) : Ending.returned (.bool a) = .returned (.bool b) := by rw [h]
theorem ret_int {k : IntKind} {a b : Int} (h : a = b) : Ending.returned (.int k a) = .returned (.int k b) := by rw [h]

/-- the plan as a value: its four lists and three numbers -/
abbrev planV (A0 A1 A2 A3 : Option Addr) (n0 c0 n1 c1 n2 c2 n3 c3 : Nat) (l p t : Int) : Value :=
  .agg #[.slice A0 n0 c0, .slice A1 n1 c1, .slice A2 n2 c2, .slice A3 n3 c3, .int .i64 l, .int .i64 p, .int .i64 t]

def sizesB (n0 n1 n2 n3 : Nat) : Bool := decide (n0 ≤ 12) && decide (n1 ≤ 4) && decide (n2 ≤ 12) && decide (n3 ≤ 12)
def timesB (l p t : Int) : Bool := inB l 0 500 && inB p 1 9 && inB t p 30
set_option maxHeartbeats 400000 in
theorem sizesRight_any (A0 A1 A2 A3 : Option Addr) (n0 c0 n1 c1 n2 c2 n3 c3 : Nat) (l p t : Int) (w : World)
    (b0 : n0 ≤ maxLen) (b1 : n1 ≤ maxLen) (b2 : n2 ≤ maxLen) (b3 : n3 ≤ maxLen) :
    Calls Try.prog 55 #[planV A0 A1 A2 A3 n0 c0 n1 c1 n2 c2 n3 c3 l p t] w fun e w' =>
      e = .returned (.bool (sizesB n0 n1 n2 n3)) ∧ Below w.heap.size w w' := by
  unfold maxLen at b0 b1 b2 b3
  go_enter Try.func55, Try.ntmps55
  go_wp2
  all_goals (go_ret; refine ⟨ret_bool ?_, (Below.refl _ _).alloc (Nat.le_refl _) _⟩)
  all_goals (unfold sizesB; rw [Bool.eq_iff_iff]; simp; omega)

set_option maxHeartbeats 400000 in
theorem timesRight_any (A0 A1 A2 A3 : Option Addr) (n0 c0 n1 c1 n2 c2 n3 c3 : Nat) (l p t : Int) (w : World) :
    Calls Try.prog 56 #[planV A0 A1 A2 A3 n0 c0 n1 c1 n2 c2 n3 c3 l p t] w fun e w' =>
      e = .returned (.bool (timesB l p t)) ∧ Below w.heap.size w w' := by
  unfold timesB
  cases h1 : inB l 0 500
  · go_enter Try.func56, Try.ntmps56
    go_wp2_with (go_at_call 76; refine (within_any _ _ _ _).mono ?_; rintro e w' ⟨rfl, rfl⟩)
    go_ret
    exact ⟨rfl, (Below.refl _ _).alloc (Nat.le_refl _) _⟩
  · cases h2 : inB p 1 9
    · go_enter Try.func56, Try.ntmps56
      go_wp2_with (go_at_call 76; refine (within_any _ _ _ _).mono ?_; rintro e w' ⟨rfl, rfl⟩)
      go_ret
      exact ⟨rfl, (Below.refl _ _).alloc (Nat.le_refl _) _⟩
    · go_enter Try.func56, Try.ntmps56
      go_wp2_with (go_at_call 76; refine (within_any _ _ _ _).mono ?_; rintro e w' ⟨rfl, rfl⟩)
      go_ret
      exact ⟨ret_bool (by simp), (Below.refl _ _).alloc (Nat.le_refl _) _⟩
end Go.Proofs.Ytmbblhnagohlhaa
