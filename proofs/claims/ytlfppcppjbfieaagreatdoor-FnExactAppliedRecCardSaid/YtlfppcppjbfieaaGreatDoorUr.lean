/-
  The model's l6There, l6Apply.
-/
import Derived.Test.YtlfppcppjbfieaaGreatDoorUq
import Derived.Test.YtlfppcppjbfieaaGreatDoorUh
set_option linter.unusedVariables false
namespace Go.Proofs.YtlfppcppjbfieaaGreatDoor
open Go.RowKit

abbrev recC (r : RecD) : Value := .agg #[.int .i64 r.k, .int .i64 r.a, .int .i64 r.b]
set_option maxHeartbeats 2000000 in
theorem l6There_any (v : Value) (s : StD) (r : RecD) (w : World) (h : IsSt w w.heap.size v s) :
    Calls Tryz.prog 32 #[v, recC r] w fun e w' => e = .returned (.bool (thereB s r)) ∧ Below w.heap.size w w' := by
  obtain ⟨⟨A0, A1, A2, A3, c0, c1, c2, c3, rfl, -, -, -, -⟩, b0, b1, b2, b3⟩ := h
  obtain ⟨ph, co, ck, bo, ba, lb, l0, l1, l2, l3, gd, pr⟩ := s
  obtain ⟨k, a, b⟩ := r
  dsimp only at *
  unfold maxLen at b0 b1 b2 b3
  have h2 : k = 2 → thereB ⟨ph, co, ck, bo, ba, lb, l0, l1, l2, l3, gd, pr⟩ ⟨k, a, b⟩ = decide (a < l0.length) := fun h => by subst h; rfl
  have h3 : k = 3 ∨ k = 4 → thereB ⟨ph, co, ck, bo, ba, lb, l0, l1, l2, l3, gd, pr⟩ ⟨k, a, b⟩ = decide (a < l1.length) := fun h => by rcases h with rfl | rfl <;> rfl
  have h5 : k = 5 → thereB ⟨ph, co, ck, bo, ba, lb, l0, l1, l2, l3, gd, pr⟩ ⟨k, a, b⟩ = decide (a < l2.length) := fun h => by subst h; rfl
  have hn : k ≠ 2 → k ≠ 3 → k ≠ 4 → k ≠ 5 → thereB ⟨ph, co, ck, bo, ba, lb, l0, l1, l2, l3, gd, pr⟩ ⟨k, a, b⟩ = true := fun a1 a2 a3 a4 => by simp [thereB, a1, a2, a3, a4]
  generalize thereB ⟨ph, co, ck, bo, ba, lb, l0, l1, l2, l3, gd, pr⟩ ⟨k, a, b⟩ = ans at *
  generalize l0.length = n0 at *
  generalize l1.length = n1 at *
  generalize l2.length = n2 at *
  generalize l3.length = n3 at *
  have H2 := Lib.hid h2
  have H3 := Lib.hid h3
  have H5 := Lib.hid h5
  have HN := Lib.hid hn
  clear h2 h3 h5 hn
  unfold recC
  dsimp only
  have K0 := ((Below.refl w.heap.size w).alloc (Nat.le_refl _) (.cells (stC A0 A1 A2 A3 n0 c0 n1 c1 n2 c2 n3 c3 ph co ck bo ba lb gd pr) 40))
  have K1 := K0.alloc K0.size (.cells #[.int .i64 k, .int .i64 a, .int .i64 b] 50)
  have HK := Lib.hid K1
  clear K0 K1
  by_cases e2 : k = 2
  · have HA := Lib.hid (H2.out e2)
    subst e2
    go_enter Tryz.func32, Tryz.ntmps32
    go_wp2
    go_ret
    exact ⟨ret_bool HA.out.symm, HK.out⟩
  · by_cases e3 : k = 3
    · have HA := Lib.hid (H3.out (.inl e3))
      subst e3
      go_enter Tryz.func32, Tryz.ntmps32
      go_wp2
      go_ret
      exact ⟨ret_bool HA.out.symm, HK.out⟩
    · by_cases e4 : k = 4
      · have HA := Lib.hid (H3.out (.inr e4))
        subst e4
        go_enter Tryz.func32, Tryz.ntmps32
        go_wp2
        go_ret
        exact ⟨ret_bool HA.out.symm, HK.out⟩
      · by_cases e5 : k = 5
        · have HA := Lib.hid (H5.out e5)
          subst e5
          go_enter Tryz.func32, Tryz.ntmps32
          go_wp2
          go_ret
          exact ⟨ret_bool HA.out.symm, HK.out⟩
        · have HA := Lib.hid (HN.out e2 e3 e4 e5)
          have x2 : (k == 2) = false := by simp [e2]
          have x3 : (k == 3) = false := by simp [e3]
          have x4 : (k == 4) = false := by simp [e4]
          have x5 : (k == 5) = false := by simp [e5]
          go_enter Tryz.func32, Tryz.ntmps32
          go_wp2
          go_ret
          exact ⟨ret_bool HA.out.symm, HK.out⟩
end Go.Proofs.YtlfppcppjbfieaaGreatDoor
