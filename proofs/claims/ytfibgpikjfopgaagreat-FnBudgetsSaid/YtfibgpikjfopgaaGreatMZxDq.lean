/-
  Two states that hold the same are alike, for the model's SameState.
-/
import Derived.Test.YtfibgpikjfopgaaGreatMZ2
import Derived.BigQuiet
import Derived.RegionTactic
import Derived.BigRegion
/- Dq -/
set_option linter.unusedVariables false
namespace Go.Proofs.YtfibgpikjfopgaaGreat
open Go.RowKit

set_option maxRecDepth 100000 in
set_option maxHeartbeats 8000000 in
theorem sameState_any (u v : Value) (s : StD) (w : World) (hu : IsSt w w.heap.size u s) (hv : IsSt w w.heap.size v s) : Calls Tryz.prog 40 #[u, v] w fun e w' => e = .returned (.bool true) ∧ Below w.heap.size w w' := by
  obtain ⟨⟨A0, A1, A2, A3, c0, c1, c2, c3, rfl, s0, s1, s2, s3⟩, b0, b1, b2, b3⟩ := hu
  obtain ⟨⟨B0, B1, B2, B3, d0, d1, d2, d3, rfl, t0, t1, t2, t3⟩, -, -, -, -⟩ := hv
  obtain ⟨ph, co, ck, bo, ba, lb, l0, l1, l2, l3, gd, pr⟩ := s
  dsimp only at *
  have S0 := Lib.hid s0
  have T0 := Lib.hid t0
  have hn0 : l0.length ≤ 2 ^ 63 - 1 := by unfold maxLen at b0; omega
  clear s0 t0 b0
  generalize hq0 : l0.length = n0 at *
  have Q0 := Lib.hid hq0
  clear hq0
  have S1 := Lib.hid s1
  have T1 := Lib.hid t1
  have hn1 : l1.length ≤ 2 ^ 63 - 1 := by unfold maxLen at b1; omega
  clear s1 t1 b1
  generalize hq1 : l1.length = n1 at *
  have Q1 := Lib.hid hq1
  clear hq1
  have S2 := Lib.hid s2
  have T2 := Lib.hid t2
  have hn2 : l2.length ≤ 2 ^ 63 - 1 := by unfold maxLen at b2; omega
  clear s2 t2 b2
  generalize hq2 : l2.length = n2 at *
  have Q2 := Lib.hid hq2
  clear hq2
  have S3 := Lib.hid s3
  have T3 := Lib.hid t3
  have hn3 : l3.length ≤ 2 ^ 63 - 1 := by unfold maxLen at b3; omega
  clear s3 t3 b3
  generalize hq3 : l3.length = n3 at *
  have Q3 := Lib.hid hq3
  clear hq3
  have X := (Own.box w (stC A0 A1 A2 A3 n0 c0 n1 c1 n2 c2 n3 c3 ph co ck bo ba lb gd pr) 38).alloc (.cells (stC B0 B1 B2 B3 n0 d0 n1 d1 n2 d2 n3 d3 ph co ck bo ba lb gd pr) 38)
  have Y := Own.box2 ((Below.refl _ _).alloc (Nat.le_refl _) (.cells (stC A0 A1 A2 A3 n0 c0 n1 c1 n2 c2 n3 c3 ph co ck bo ba lb gd pr) 38)) (stC B0 B1 B2 B3 n0 d0 n1 d1 n2 d2 n3 d3 ph co ck bo ba lb gd pr) 38 (w := w)
  rw [heap_size_alloc_] at Y
  go_enter Tryz.func40, Tryz.ntmps40
  go_wp2_with fail
  generalize ((w.alloc (.cells (stC A0 A1 A2 A3 n0 c0 n1 c1 n2 c2 n3 c3 ph co ck bo ba lb gd pr) 38)).alloc (.cells (stC B0 B1 B2 B3 n0 d0 n1 d1 n2 d2 n3 d3 ph co ck bo ba lb gd pr) 38)) = w1 at X Y ⊢
  go_loopw [5] (fun i wr => ∃ k : Nat, k ≤ n0 ∧ i = .int .i64 k ∧ Own w wr w.heap.size (stC A0 A1 A2 A3 n0 c0 n1 c1 n2 c2 n3 c3 ph co ck bo ba lb gd pr) ∧ Own w wr (w.heap.size + 1) (stC B0 B1 B2 B3 n0 d0 n1 d1 n2 d2 n3 d3 ph co ck bo ba lb gd pr)) (fun i _ => n0 - (intOf i).toNat)
  case atStart => exact ⟨0, Nat.zero_le _, rfl, X, Y⟩
  case round =>
    clear X Y
    obtain ⟨k, hk, rfl, X, Y⟩ := hrel
    have hX := X.C
    have hY := Y.C
    by_cases hlt : k < n0
    · obtain ⟨b, off, rfl, hb, hc⟩ := (S0.out.below X.K (Nat.le_refl _)).cell hlt
      obtain ⟨b', off', rfl, hb', hc'⟩ := (T0.out.below X.K (Nat.le_refl _)).cell hlt
      have hp := podCs_at l0 (i := k) (by rw [Q0.out]; exact hlt)
      have q0 := (hc 0 (by decide)).trans hp.1
      have q1 := (hc 1 (by decide)).trans hp.2
      have r0 := (hc' 0 (by decide)).trans hp.1
      have r1 := (hc' 1 (by decide)).trans hp.2
      rw [Nat.add_zero] at q0 r0
      clear hc hc' hp hb hb'
      generalize podA l0 k = z at *
      obtain ⟨x, y⟩ := z
      dsimp only at q0 q1 r0 r1
      go_wp2_with fail
      go_quiet (fail)
      go_wp2_with fail
      exact ⟨⟨k + 1, by omega, by go_num, X.drewN _, Y.drewN _⟩, by simp [intOf]; omega⟩
    · obtain rfl : n0 = k := by omega
      clear hlt hk
      go_wp2_with fail
      go_loopw [6] (fun i wr => ∃ k : Nat, k ≤ n1 ∧ i = .int .i64 k ∧ Own w wr w.heap.size (stC A0 A1 A2 A3 n0 c0 n1 c1 n2 c2 n3 c3 ph co ck bo ba lb gd pr) ∧ Own w wr (w.heap.size + 1) (stC B0 B1 B2 B3 n0 d0 n1 d1 n2 d2 n3 d3 ph co ck bo ba lb gd pr)) (fun i _ => n1 - (intOf i).toNat)
      case atStart => exact ⟨0, Nat.zero_le _, rfl, X, Y⟩
      case round =>
        clear X Y hX hY
        obtain ⟨k, hk, rfl, X, Y⟩ := hrel
        have hX := X.C
        have hY := Y.C
        by_cases hlt : k < n1
        · obtain ⟨b, off, rfl, hb, hc⟩ := (S1.out.below X.K (Nat.le_refl _)).cell hlt
          obtain ⟨b', off', rfl, hb', hc'⟩ := (T1.out.below X.K (Nat.le_refl _)).cell hlt
          have hp := mntCs_at l1 (i := k) (by rw [Q1.out]; exact hlt)
          have q0 := (hc 0 (by decide)).trans hp.1
          have q1 := (hc 1 (by decide)).trans hp.2
          have r0 := (hc' 0 (by decide)).trans hp.1
          have r1 := (hc' 1 (by decide)).trans hp.2
          rw [Nat.add_zero] at q0 r0
          clear hc hc' hp hb hb'
          generalize mntA l1 k = z at *
          obtain ⟨x, y⟩ := z
          dsimp only at q0 q1 r0 r1
          go_wp2_with fail
          go_quiet (fail)
          go_wp2_with fail
          exact ⟨⟨k + 1, by omega, by go_num, X.drewN _, Y.drewN _⟩, by simp [intOf]; omega⟩
        · obtain rfl : n1 = k := by omega
          clear hlt hk
          go_wp2_with fail
          go_loopw [7] (fun i wr => ∃ k : Nat, k ≤ n2 ∧ i = .int .i64 k ∧ Own w wr w.heap.size (stC A0 A1 A2 A3 n0 c0 n1 c1 n2 c2 n3 c3 ph co ck bo ba lb gd pr) ∧ Own w wr (w.heap.size + 1) (stC B0 B1 B2 B3 n0 d0 n1 d1 n2 d2 n3 d3 ph co ck bo ba lb gd pr)) (fun i _ => n2 - (intOf i).toNat)
          case atStart => exact ⟨0, Nat.zero_le _, rfl, X, Y⟩
          case round =>
            clear X Y hX hY
            obtain ⟨k, hk, rfl, X, Y⟩ := hrel
            have hX := X.C
            have hY := Y.C
            by_cases hlt : k < n2
            · obtain ⟨b, off, rfl, hb, hc⟩ := (S2.out.below X.K (Nat.le_refl _)).cell hlt
              obtain ⟨b', off', rfl, hb', hc'⟩ := (T2.out.below X.K (Nat.le_refl _)).cell hlt
              have hp := devCs_at l2 (i := k) (by rw [Q2.out]; exact hlt)
              have q0 := hc 0 (by decide)
              have r0 := hc' 0 (by decide)
              rw [Nat.add_zero, Nat.mul_one, Nat.add_zero, hp] at q0 r0
              clear hc hc' hp hb hb'
              generalize devA l2 k = z at *
              go_wp2_with fail
              go_quiet (fail)
              go_wp2_with fail
              exact ⟨⟨k + 1, by omega, by go_num, X.drewN _, Y.drewN _⟩, by simp [intOf]; omega⟩
            · obtain rfl : n2 = k := by omega
              clear hlt hk
              go_wp2_with fail
              go_loopw [8] (fun i wr => ∃ k : Nat, k ≤ n3 ∧ i = .int .i64 k ∧ Own w wr w.heap.size (stC A0 A1 A2 A3 n0 c0 n1 c1 n2 c2 n3 c3 ph co ck bo ba lb gd pr) ∧ Own w wr (w.heap.size + 1) (stC B0 B1 B2 B3 n0 d0 n1 d1 n2 d2 n3 d3 ph co ck bo ba lb gd pr)) (fun i _ => n3 - (intOf i).toNat)
              case atStart => exact ⟨0, Nat.zero_le _, rfl, X, Y⟩
              case round =>
                clear X Y hX hY
                obtain ⟨k, hk, rfl, X, Y⟩ := hrel
                have hX := X.C
                have hY := Y.C
                by_cases hlt : k < n3
                · obtain ⟨b, off, rfl, hb, hc⟩ := (S3.out.below X.K (Nat.le_refl _)).cell hlt
                  obtain ⟨b', off', rfl, hb', hc'⟩ := (T3.out.below X.K (Nat.le_refl _)).cell hlt
                  have hp := lkCs_at l3 (i := k) (by rw [Q3.out]; exact hlt)
                  have q0 := hc 0 (by decide)
                  have r0 := hc' 0 (by decide)
                  rw [Nat.add_zero, Nat.mul_one, Nat.add_zero, hp] at q0 r0
                  clear hc hc' hp hb hb'
                  generalize lkA l3 k = z at *
                  go_wp2_with fail
                  go_quiet (fail)
                  go_wp2_with fail
                  exact ⟨⟨k + 1, by omega, by go_num, X.drewN _, Y.drewN _⟩, by simp [intOf]; omega⟩
                · obtain rfl : n3 = k := by omega
                  have hend := X.K
                  go_wp2_with fail
                  go_ret
                  exact ⟨rfl, hend⟩

end Go.Proofs.YtfibgpikjfopgaaGreat
