/-
  'All below n'.
-/
import Derived.Test.YtlmjjkljkmalpaaMGxA1
/- A2 -/
set_option linter.unusedVariables false
namespace Go.Proofs.Ytlmjjkljkmalpaa
open Go.RowKit

def allB (n : Nat) (f : Nat → Bool) : Bool := decide (∀ i, i < n → f i = true)

theorem allB_true {n : Nat} {f : Nat → Bool} : allB n f = true ↔ ∀ i, i < n → f i = true := by simp [allB]

theorem allB_false {n : Nat} {f : Nat → Bool} {i : Nat} (hi : i < n) (h : f i = false) : allB n f = false := by
  simp only [allB, decide_eq_false_iff_not]
  exact fun hh => by rw [hh i hi] at h; cases h

theorem step_all {f : Nat → Bool} {k : Nat} (h : ∀ j, j < k → f j = true) (hk : f k = true) : ∀ j, j < k + 1 → f j = true := fun j hj => by
  by_cases e : j = k
  · rw [e]; exact hk
  · exact h j (by omega)

set_option maxHeartbeats 400000 in
theorem allBelow_any (g : Nat) (pv : Value) (n : Nat) (f : Nat → Bool) (w : World) (hn : n ≤ maxLen)
    (hg : ∀ (x y : Value) (wr : World), (callFunc g #[x, y]).run Try.prog wr = .ok (.enter g #[x, y]) wr)
    (H : Hid (∀ i, i < n → ∀ wr, Below w.heap.size w wr → Calls Try.prog g #[pv, .int .i64 i] wr fun e w' => e = .returned (.bool (f i)) ∧ Below wr.heap.size wr w')) :
    Calls Try.prog 65 #[.int .i64 n, .func (.func g) #[pv] #[]] w fun e w' => e = .returned (.bool (allB n f)) ∧ Below w.heap.size w w' := by
  unfold maxLen at hn
  go_enter Try.func65, Try.ntmps65
  go_wp2
  go_loopw [7] (fun i wr => ∃ k : Nat, k ≤ n ∧ i = .int .i64 k ∧ (∀ j, j < k → f j = true) ∧ Below w.heap.size w wr) (fun i _ => n - (intOf i).toNat)
  case atStart => exact ⟨0, Nat.zero_le _, rfl, fun j hj => absurd hj (by omega), Below.refl _ _⟩
  case round =>
    obtain ⟨k, hk, rfl, hall, hb⟩ := hrel
    have HA := Lib.hid hall
    clear hall
    by_cases hlt : k < n
    · have hf := H.out k hlt _ hb
      cases hv : f k
      · rw [hv] at hf
        have Hv := Lib.hid hv
        clear hv
        go_wp2_with (refine hf.mono ?_; rintro e w1 ⟨rfl, hb1⟩)
        go_ret
        exact ⟨ret_bool (allB_false hlt Hv.out).symm, hb.trans (hb1.mono hb.size)⟩
      · rw [hv] at hf
        have Hv := Lib.hid hv
        clear hv
        go_wp2_with (refine hf.mono ?_; rintro e w1 ⟨rfl, hb1⟩)
        go_roundw
        case rel =>
          refine ⟨k + 1, by omega, by go_num, fun j hj => ?_, hb.trans (hb1.mono hb.size)⟩
          by_cases h : j = k
          · rw [h]; exact Hv.out
          · exact HA.out j (by omega)
        case measure => simp [intOf]; omega
    · obtain rfl : k = n := by omega
      go_wp2
      go_ret
      exact ⟨ret_bool (allB_true.2 HA.out).symm, hb⟩

theorem below_via {W W' w1 : World} (h : Below W.heap.size W w1) (k : Below w1.heap.size w1 W') : Below W.heap.size W W' := h.trans (k.mono h.size)

end Go.Proofs.Ytlmjjkljkmalpaa
