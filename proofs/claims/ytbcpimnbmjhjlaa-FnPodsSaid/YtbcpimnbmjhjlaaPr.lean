/-
  The law's dice made; the model's cursor made; its small draws.
-/
import Derived.Test.YtbcpimnbmjhjlaaA5
import Derived.Test.YtbcpimnbmjhjlaaPq
import Derived.RegionTactic
import Derived.BigRegion
import Derived.StillTailTactics
set_option linter.unusedVariables false
namespace Go.Proofs.Ytbcpimnbmjhjlaa
open Go.RowKit
set_option maxRecDepth 100000 in
set_option maxHeartbeats 1000000 in
theorem roll_any (A : Option Addr) (n c : Nat) (s : Int) (w : World) (hB : Bytes w w.heap.size A n) (hn : n ≤ 4096) :
    Calls Try.prog 16 #[.slice A n c, .int .u64 s] w (Rolled 42 .u64 w) := by
  have HB := Lib.hid hB
  clear hB
  go_enter Try.func16, Try.ntmps16
  go_wp2
  go_loopw [6] (fun i wr => ∃ k : Nat, k ≤ n ∧ i = .int .i64 k ∧ Below w.heap.size w wr ∧ (∃ h, wr.heap[w.heap.size]? = some (.cells (curC .u64 A n c 0 h) 42 (0, 0)))) (fun i _ => n - (intOf i).toNat)
  case atStart => exact ⟨0, Nat.zero_le _, rfl, (Below.refl _ _).alloc (Nat.le_refl _) _, _, heap_alloc_new _ _⟩
  case round =>
    obtain ⟨k, hk, rfl, K, h, hg⟩ := hrel
    have q2 := cell_of_row wr w.heap.size 2 _ _ _ hg
    have f2 := frozen_of_row wr w.heap.size 2 _ _ hg
    simp at q2
    by_cases hlt : k < n
    · obtain ⟨b, off, rfl, hbg, hz⟩ := HB.out (by omega)
      obtain ⟨z, hz0, z0, z1⟩ := hz k hlt
      have hz0 := (K.cell (p := ⟨b, off + k, none⟩) hbg).trans hz0
      clear hz
      go_wp2_with fail
      go_still_tail 15, (by kernel_rfl)
      have K2 : Below w.heap.size w wr.drew := K.drew
      have hg2 : wr.drew.heap[w.heap.size]? = some (.cells (curC .u64 (some ⟨b, off, none⟩) n c 0 h) 42 (0, 0)) := hg
      have q2 : wr.drew.cell? ⟨w.heap.size, 2, none⟩ = some (.int .u64 h) := q2
      have f2 : wr.drew.frozen? ⟨w.heap.size, 2, none⟩ = false := f2
      change wpList _ _ _ _ _ wr.drew
      clear hg K hz0
      generalize wr.drew = w2 at K2 hg2 q2 f2 ⊢
      go_wp2_with fail
      exact ⟨⟨k + 1, by omega, by go_num, K2.setCell (Nat.le_refl _) _, _, heap_setCell_same _ _ 2 _ _ _ hg2⟩, by simp [intOf]; omega⟩
    · obtain rfl : k = n := by omega
      go_wp2
      go_ret
      refine ⟨_, rfl, Nat.le_refl _, ⟨A, k, c, 0, h, hg, by omega, by omega, hn, HB.out.below K (Nat.le_refl _)⟩, K⟩
end Go.Proofs.Ytbcpimnbmjhjlaa
