/-
  Bytes as a string; lists of records compared by the law.
-/
import Derived.Test.YtdkmhaghnfhajaaGreatDoorMZ6
import Derived.Laws.BytesArg
import Derived.BigQuiet
import Derived.Deep.QuietTactic
/- Dk -/
set_option linter.unusedVariables false
namespace Go.Proofs.YtdkmhaghnfhajaaGreatDoor
open Go.RowKit

set_option maxRecDepth 100000 in
set_option maxHeartbeats 1000000 in
theorem likeRecs_same (v v' : Value) (l : List RecD) (w : World) (h : Rt w w.heap.size v l) (h' : Rt w w.heap.size v' l) :
    Calls Tryz.prog 13 #[v, v'] w fun e w' => e = .returned (.bool true) ∧ Below w.heap.size w w' := by
  have H := Lib.hid h
  have H' := Lib.hid h'
  obtain ⟨⟨A, c, rfl, -⟩, hl⟩ := h
  obtain ⟨⟨A', c', rfl, -⟩, -⟩ := h'
  have hl' : l.length ≤ 2 ^ 63 - 1 := by unfold maxLen at hl; omega
  clear hl
  generalize hq : l.length = n at *
  have HQ := Lib.hid hq
  clear hq
  go_enter Tryz.func13, Tryz.ntmps13
  go_wp2
  go_loopw [5] (fun i wr => ∃ k : Nat, k ≤ n ∧ i = .int .i64 k ∧ Below w.heap.size w wr) (fun i _ => n - (intOf i).toNat)
  case atStart => exact ⟨0, Nat.zero_le _, rfl, Below.refl _ _⟩
  case round =>
    obtain ⟨k, hk, rfl, K⟩ := hrel
    by_cases hlt : k < n
    · obtain ⟨b, off, rfl, hb, q0, q1, q2⟩ := (H.out.below K (Nat.le_refl _)).cell (i := k) (by rw [HQ.out]; exact hlt)
      obtain ⟨b', off', rfl, hb', r0, r1, r2⟩ := (H'.out.below K (Nat.le_refl _)).cell (i := k) (by rw [HQ.out]; exact hlt)
      generalize recAt l k = r at *
      obtain ⟨rk, ra, rb⟩ := r
      dsimp only at q0 q1 q2 r0 r1 r2
      go_wp2_with fail
      go_quiet (fail)
      go_wp2
      exact ⟨⟨k + 1, by omega, by go_num, below_drewN K _⟩, by simp [intOf]; omega⟩
    · obtain rfl : k = n := by omega
      go_wp2
      go_ret
      exact ⟨rfl, K⟩
end Go.Proofs.YtdkmhaghnfhajaaGreatDoor
