/-
  The law's dice and the model's cursor: a number below n, whatever the bytes.
-/
import Derived.Test.YtbcpimnbmjhjlaaA4
set_option linter.unusedVariables false
namespace Go.Proofs.Ytbcpimnbmjhjlaa
open Go.RowKit
set_option maxRecDepth 100000 in
set_option maxHeartbeats 1000000 in
theorem below_any (g : Nat) (n : Int) (w : World) (h : Cur 42 .u64 w g) (h0 : 0 < n) (h1 : n ≤ 1000000) :
    Calls Try.prog 17 #[.pointer (some ⟨g, 0, none⟩), .int .i64 n] w (Drawn 42 .u64 g n w) := by
  obtain ⟨A, m, c, i, hh, hg, i0, i1, hm, hB⟩ := h
  have q0 := cell_of_row w g 0 _ _ _ hg
  have q1 := cell_of_row w g 1 _ _ _ hg
  have q2 := cell_of_row w g 2 _ _ _ hg
  have f2 := frozen_of_row w g 2 _ _ hg
  have f1 := frozen_of_row w g 1 _ _ hg
  simp at q0 q1 q2
  have hr := and_u24 (IntKind.u64.wrap (IntKind.u64.wrap (hh * 6364136223846793005) + 1442695040888963407) / 8589934592)
  have HR := Lib.hid hr
  clear hr
  go_enter Try.func17, Try.ntmps17
  go_wp2_with fail
  rw [IntWalk.wrap64_in _ ⟨by have := HR.out.1; omega, by have := HR.out.2; omega⟩]
  generalize bits BinOp.and IntKind.u64 (IntKind.u64.wrap (IntKind.u64.wrap (hh * 6364136223846793005) + 1442695040888963407) / 8589934592) 16777215 = X at HR ⊢
  obtain ⟨X0, X1⟩ := HR.out
  by_cases hlt : i < m
  · obtain ⟨b, off, rfl, hbg, hz⟩ := hB (by omega)
    obtain ⟨i, rfl⟩ := Int.eq_ofNat_of_zero_le i0
    obtain ⟨z, hz0, z0, z1⟩ := hz i (by omega)
    clear hz
    go_quiet (fail)
    have HB := Lib.hid hB
    clear hB
    have e1 : IntKind.i64.wrap (X + z) = X + z := IntWalk.i64_in _ (by omega)
    have e2 : IntKind.i64.wrap z = z := IntWalk.i64_in _ (by omega)
    have p1 : 0 ≤ X + z := by omega
    go_wp2_with fail
    go_quiet (fail)
    clear e1 e2
    go_wp2_with fail
    go_ret
    have hgs : g < w.heap.size := (Array.getElem?_eq_some_iff.1 hg).1
    have K := (((Keeps.refl (· = g) w).set (p := ⟨g, 2, none⟩) rfl (.int .u64 (IntKind.u64.wrap (IntKind.u64.wrap (hh * 6364136223846793005) + 1442695040888963407)))).drewN nq)
    have K2 := K.set (p := ⟨g, 1, none⟩) rfl (.int .i64 ((i : Int) + 1))
    refine ⟨_, rfl, Int.emod_nonneg _ (by omega), Int.emod_lt_of_pos _ h0, Cur.of (i := (i : Int) + 1) HB.out hm ?_ hgs (heap_setCell_same _ g 1 _ _ _ (heap_setCell_same w g 2 _ _ _ hg)) (by omega) (by omega), ?_⟩
    · exact (((Keeps.refl (· = g) w).set (p := ⟨g, 2, none⟩) rfl _).drewN _).set (p := ⟨g, 1, none⟩) rfl _
    · exact (((Keeps.refl (· = g) w).set (p := ⟨g, 2, none⟩) rfl _).drewN _).set (p := ⟨g, 1, none⟩) rfl _
  · go_quiet (fail)
    go_wp2_with fail
    go_ret
    have hgs : g < w.heap.size := (Array.getElem?_eq_some_iff.1 hg).1
    refine ⟨_, rfl, Int.emod_nonneg _ (by omega), Int.emod_lt_of_pos _ h0, Cur.of (i := i) hB hm ?_ hgs (heap_setCell_same w g 2 _ _ _ hg) (by omega) (by omega), ?_⟩
    · exact ((Keeps.refl (· = g) w).set (p := ⟨g, 2, none⟩) rfl _).drewN _
    · exact ((Keeps.refl (· = g) w).set (p := ⟨g, 2, none⟩) rfl _).drewN _
end Go.Proofs.Ytbcpimnbmjhjlaa
