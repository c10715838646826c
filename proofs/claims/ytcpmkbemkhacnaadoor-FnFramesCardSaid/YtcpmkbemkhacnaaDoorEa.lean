/-
  Frames: the model's sums and small numbers.
-/
import Derived.Test.YtcpmkbemkhacnaaDoorBa
import Derived.Test.YtcpmkbemkhacnaaDoorRb
import Derived.BigQuiet
import Derived.Deep.QuietTactic
set_option linter.unusedVariables false
namespace Go.Proofs.YtcpmkbemkhacnaaDoor
open Go.RowKit

theorem sumN_take {L : List Nat} {k : Nat} (hk : k < L.length) : sumN (L.take (k + 1)) = (31 * sumN (L.take k) + L.getD k 0) % 65521 := by
  rw [List.take_succ_eq_append_getElem hk]
  unfold sumN
  rw [List.foldl_append]
  simp [List.getD, hk]
theorem at2_drop (L : List Nat) (p i : Nat) : at2 (L.drop p) i = at2 L (p + i) := by
  unfold at2
  rw [getD_drop, getD_drop, Nat.add_assoc]
theorem at2_lt {L : List Nat} (h : SmallB L) (i : Nat) : at2 L i < 65536 := by
  have h0 := h.getD i
  have h1 := h.getD (i + 1)
  unfold at2
  omega

set_option maxHeartbeats 1000000 in
theorem specSumOf_any (v : Value) (L : List Nat) (w : World) (h : Bt w w.heap.size v L) :
    Calls Tryd.prog 20 #[v] w fun e w' => e = .returned (.int .i64 (sumN L)) ∧ w = w' := by
  have H := Lib.hid h
  obtain ⟨⟨A, c, rfl, hcap, -⟩, hl, hs⟩ := h
  have HS := Lib.hid hs
  have hl' : L.length ≤ 2 ^ 63 - 1 := by unfold maxLen at hl; omega
  clear hs hl hcap
  generalize hn : L.length = n at *
  have HN := Lib.hid hn
  clear hn
  go_enter Tryd.func20, Tryd.ntmps20
  go_wp2
  go_loop [3, 4] (fun s3 s4 => ∃ k : Nat, k ≤ n ∧ s4 = .int .i64 k ∧ s3 = .int .i64 (sumN (L.take k))) (fun _ s4 => n - (intOf s4).toNat)
  case atStart => exact ⟨0, Nat.zero_le _, rfl, rfl⟩
  case round =>
    obtain ⟨k, hk, rfl, rfl⟩ := hrel
    by_cases hlt : k < n
    · obtain ⟨b, off, rfl, hb, q⟩ := H.out.cell (k := k) (by rw [HN.out]; exact hlt)
      have zlt := HS.out.getD k
      have hsum := Lib.hid (sumN_take (L := L) (k := k) (by rw [HN.out]; exact hlt))
      have slt := sumN_lt (L.take k)
      generalize L.getD k 0 = z at *
      generalize sumN (L.take k) = s at *
      go_wp2
      refine ⟨⟨k + 1, by omega, by go_num, ?_⟩, by simp [intOf]; omega⟩
      rw [hsum.out]
      go_num
    · obtain rfl : k = n := by omega
      have e1 := Lib.hid (show L.take k = L from List.take_of_length_le (by rw [HN.out]; exact Nat.le_refl _))
      go_wp2
      go_ret
      exact ⟨by rw [e1.out]; rfl, rfl⟩

set_option maxHeartbeats 1000000 in
theorem l4Of_any (v : Value) (L : List Nat) (i : Nat) (q : Int) (hq : q = i) (w : World) (h : Bt w w.heap.size v L) (hi : i + 1 < L.length) :
    Calls Tryd.prog 38 #[v, .int .i64 q] w fun e w' => e = .returned (.int .i64 (at2 L i)) ∧ Below w.heap.size w w' := by
  subst hq
  have H := Lib.hid h
  obtain ⟨⟨A, c, rfl, hcap, -⟩, hl, hs⟩ := h
  have hl' : L.length ≤ 2 ^ 63 - 1 := by unfold maxLen at hl; omega
  obtain ⟨b, off, rfl, hb, q0⟩ := H.out.cell (k := i) (by omega)
  obtain ⟨b', off', e, hb', q1⟩ := H.out.cell (k := i + 1) (by omega)
  injection e with e
  injection e with e1 e2
  subst e1 e2
  have z0 := hs.getD i
  have z1 := hs.getD (i + 1)
  have hat := Lib.hid (show at2 L i = L.getD i 0 + 256 * L.getD (i + 1) 0 from rfl)
  generalize at2 L i = a at *
  generalize L.getD i 0 = x at *
  generalize L.getD (i + 1) 0 = y at *
  clear hs hl hcap
  generalize L.length = n at *
  go_enter Tryd.func38, Tryd.ntmps38
  go_wp2_with fail
  go_quiet (fail)
  go_wp2
  go_ret
  exact ⟨by rw [hat.out]; congr 1, below_drewN (Below.refl _ _) _⟩
end Go.Proofs.YtcpmkbemkhacnaaDoor
