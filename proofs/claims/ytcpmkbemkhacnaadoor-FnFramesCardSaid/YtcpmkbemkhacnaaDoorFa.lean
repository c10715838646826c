/-
  The program's sum of bytes.
-/
import Derived.Test.YtcpmkbemkhacnaaDoorEa
set_option linter.unusedVariables false
namespace Go.Proofs.YtcpmkbemkhacnaaDoor
open Go.RowKit

theorem sumN_take' {L : List Nat} {k : Nat} (hk : k < L.length) : sumN (L.take (k + 1)) = (sumN (L.take k) * 31 + L.getD k 0) % 65521 := by
  rw [sumN_take hk, Nat.mul_comm]
set_option maxHeartbeats 1000000 in
theorem sumOf_any (v : Value) (L : List Nat) (w : World) (h : Bt w w.heap.size v L) :
    Calls Tryd.prog 19 #[v] w fun e w' => e = .returned (.int .i64 (sumN L)) ∧ w = w' := by
  have H := Lib.hid h
  obtain ⟨⟨A, c, rfl, hcap, -⟩, hl, hs⟩ := h
  have HS := Lib.hid hs
  have hl' : L.length ≤ 2 ^ 63 - 1 := by unfold maxLen at hl; omega
  clear hs hl hcap
  generalize hn : L.length = n at *
  have HN := Lib.hid hn
  clear hn
  go_enter Tryd.func19, Tryd.ntmps19
  go_wp2
  go_loop [3, 8] (fun s3 s8 => ∃ k : Nat, k ≤ n ∧ s8 = .int .i64 k ∧ s3 = .int .i64 (sumN (L.take k))) (fun _ s8 => n - (intOf s8).toNat)
  case atStart => exact ⟨0, Nat.zero_le _, rfl, rfl⟩
  case round =>
    obtain ⟨k, hk, rfl, rfl⟩ := hrel
    by_cases hlt : k < n
    · obtain ⟨b, off, rfl, hb, q⟩ := H.out.cell (k := k) (by rw [HN.out]; exact hlt)
      have zlt := HS.out.getD k
      have hsum := Lib.hid (sumN_take' (L := L) (k := k) (by rw [HN.out]; exact hlt))
      have slt := sumN_lt (L.take k)
      generalize L.getD k 0 = z at *
      generalize sumN (L.take k) = s at *
      go_wp2
      refine ⟨⟨k + 1, by omega, by go_num, ?_⟩, by simp [intOf]; omega⟩
      rw [hsum.out]
      go_num
    · obtain rfl : k = n := by omega
      have e1 := Lib.hid (show L.take k = L from List.take_of_length_le (by rw [HN.out]; exact Nat.le_refl _))
      go_wp2
      go_ret
      exact ⟨by rw [e1.out]; rfl, rfl⟩
end Go.Proofs.YtcpmkbemkhacnaaDoor
