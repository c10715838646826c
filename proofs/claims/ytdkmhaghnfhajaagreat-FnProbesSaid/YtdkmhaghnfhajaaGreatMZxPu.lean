/-
  The model's own draw of a plan.
-/
import Derived.Test.YtdkmhaghnfhajaaGreatMZ2
/- Pu -/
set_option linter.unusedVariables false
namespace Go.Proofs.YtdkmhaghnfhajaaGreat
open Go.RowKit

set_option maxRecDepth 100000 in
set_option maxHeartbeats 8000000 in
theorem drawPlan_any (g : Nat) (w : World) (h : Cur 112 .i64 w g) :
    Calls Tryz.prog 102 #[.pointer (some ⟨g, 0, none⟩)] w (DrawnPlan 112 .i64 (fun d => planOkB d = true ∧ d.n0 ≤ 5 ∧ d.n1 ≤ 3 ∧ d.n2 ≤ 4 ∧ d.n3 ≤ 2) g w) := by
  have hold := h.lt
  go_enter Tryz.func102, Tryz.ntmps102
  go_wp2_with fail
  have h1 : Cur 112 .i64 (w.alloc (.cells zeroC 29)) g := h.below ((Below.refl _ _).alloc (Nat.le_refl _) _)
  refine (l1Below_any g _ _ h1 (by omega) (by omega)).mono ?_
  rintro e w1 ⟨l, rfl, l0, l1, hc1, hk1⟩
  go_wp2_with fail
  refine (l1Below_any g _ _ hc1 (by omega) (by omega)).mono ?_
  rintro e w2 ⟨p, rfl, p0, p1, hc2, hk2⟩
  go_wp2_with fail
  have B3 := Bld.start apart_cur hold hc2 (hk1.trans hk2) (planC none none none none 0 0 0 0 0 0 0 0 l (1 + p) 0)
  clear h h1 hc1 hk1 hc2 hk2
  generalize w2.alloc (.cells (planC none none none none 0 0 0 0 0 0 0 0 l (1 + p) 0) 29) = w3 at B3 ⊢
  generalize w2.heap.size = P at B3 ⊢
  go_cut [3] from 14 to 19 (fun s3 wx => s3 = .pointer (some ⟨P, 0, none⟩) ∧ ∃ t : Int, 0 ≤ t ∧ t < 5 ∧ Bld 112 .i64 w wx g w.heap.size P (planC none none none none 0 0 0 0 0 0 0 0 l (1 + p) (1 + p + t))
    (.slice none 0 0) (.slice none 0 0) (.slice none 0 0) (.slice none 0 0) 0 0 0 0 (fun _ => 0) (fun _ => 0) (fun _ => 0) (fun _ => 0))
  case first =>
    have B3 := B3.drew
    have hc3 := B3.cur
    have hP3 := B3.cell
    have hF3 := B3.frozen
    go_region_law (first
      | (have hq := hc3
         clear hq
         go_simp
         go_at_call 65
         refine (l1Below_any g _ _ hc3 (by omega) (by omega)).mono ?_
         rintro e w4 ⟨t, rfl, t0, t1, hc4, hk4⟩
         have B4 := B3.draw apart_cur hk4 hc4
         have hP4 := B4.cell
         have hF4 := B4.frozen))
    all_goals
      go_wp2_with fail
      go_meet
      refine ⟨rfl, t, t0, by omega, ?_⟩
      rw [IntWalk.i64_in _ (by omega)]
      exact B4.store apart_cur 6 _
  case rest =>
    obtain ⟨rfl, t, t0, t1, B⟩ := hcut
    clear B3
    have hc0 := B.cur
    generalize hl2 : 1 + p = p' at *
    generalize ht2 : p' + t = t' at *
    have hp1 : 1 ≤ p' := by omega
    have hp2 : p' ≤ 3 := by omega
    have ht1 : p' ≤ t' := by omega
    have ht3 : t' ≤ 7 := by omega
    clear hl2 ht2 t0 t1 p0 p1
    go_wp2_with fail
    refine (l1Below_any g _ _ hc0 (by omega) (by omega)).mono ?_
    rintro e w4 ⟨r, rfl, r0, r1, hc, hk⟩
    have B := B.draw apart_cur hk hc
    clear hk hc hc0
    go_wp2_with fail
    -- the least numbers
    obtain ⟨N, hN⟩ : ∃ N : Nat, (N : Int) = 1 + r := ⟨(1 + r).toNat, by omega⟩
    rw [← hN]
    have hN1 : 1 ≤ N := by omega
    have hN3 : N ≤ 3 := by omega
    clear hN r0 r1
    go_loopw [4] (fun s4 wr => ∃ k m v1 x1, k + m = N ∧ s4 = .int .i64 (k : Int) ∧ (∀ j, j < m → minB x1 j = true) ∧
      Bld 112 .i64 w wr g w.heap.size P #[.slice none 0 0, v1, .slice none 0 0, .slice none 0 0, .int .i64 l, .int .i64 p', .int .i64 t'] (.slice none 0 0) v1 (.slice none 0 0) (.slice none 0 0) 0 m 0 0 (fun _ => 0) x1 (fun _ => 0) (fun _ => 0)) (fun s4 _ => (intOf s4).toNat)
    case atStart => exact ⟨N, 0, _, fun _ => 0, by omega, rfl, all_none, B⟩
    case round =>
      clear B
      obtain ⟨k, m, v1, x1, hkm, rfl, hall, B⟩ := hrel
      have HA := Lib.hid hall
      clear hall
      by_cases hlt : 0 < k
      · have B0 := B.drew
        have hc0 := B0.cur
        have hP0 := B0.cell
        have hF0 := B0.frozen
        go_wp2_with fail
        go_region_law (first
          | (have hq := hc0
             clear hq
             go_simp
             go_at_call 65
             refine (l1Below_any g _ _ hc0 (by omega) (by omega)).mono ?_
             rintro e w5 ⟨a, rfl, a0, a1, hc1, hk1⟩
             have B1 := B0.draw apart_cur hk1 hc1
             have hP1 := B1.cell
             have hF1 := B1.frozen
             have hl1 := B1.lt)
          | (refine push1_step B1 apart_cur (by omega) a (by rfl) _ _ (by rfl) (by rfl) (by rfl) ?_
             intro gg cap w6 B2
             have hP2 := B2.cell
             have hF2 := B2.frozen))
        all_goals
          go_wp2_with fail
          have B3 := B2.store apart_cur 1 (.slice (some ⟨gg, 0, none⟩) (m + 1) cap)
          exact ⟨⟨k - 1, m + 1, _, _, by omega, by congr 1; omega, min_ok HA.out a0 a1, B3⟩, by simp [intOf]; omega⟩
      · obtain rfl : k = 0 := by omega
        obtain rfl : m = N := by omega
        clear hlt hkm
        have hc0 := B.cur
        go_wp2_with fail
        refine (l1Below_any g _ _ hc0 (by omega) (by omega)).mono ?_
        rintro e w7 ⟨r2, rfl, r0, r1, hc, hk⟩
        have B := B.draw apart_cur hk hc
        clear hk hc hc0
        go_wp2_with fail
        -- the pods
        obtain ⟨N, rfl⟩ := Int.eq_ofNat_of_zero_le r0
        have hM3 : N ≤ 5 := by omega
        clear r0 r1
        go_loopw [5] (fun s5 wr => ∃ k q v0 x0, k + q = N ∧ s5 = .int .i64 (k : Int) ∧ (∀ j, j < q → podB m x0 j = true) ∧
          Bld 112 .i64 w wr g w.heap.size P #[v0, v1, .slice none 0 0, .slice none 0 0, .int .i64 l, .int .i64 p', .int .i64 t'] v0 v1 (.slice none 0 0) (.slice none 0 0) q m 0 0 x0 x1 (fun _ => 0) (fun _ => 0)) (fun s5 _ => (intOf s5).toNat)
        case atStart => exact ⟨N, 0, _, fun _ => 0, by omega, rfl, all_none, B⟩
        case round =>
          clear B
          obtain ⟨k, q, v0, x0, hkm, rfl, hall, B⟩ := hrel
          have HP := Lib.hid hall
          clear hall
          by_cases hlt : 0 < k
          · obtain ⟨V1, C1, rfl, -, -⟩ := B.o1.form
            have B0 := B.drew
            have hc0 := B0.cur
            have hP0 := B0.cell
            have hF0 := B0.frozen
            go_wp2_with fail
            go_region_law (first
              | (have hq := hc4
                 clear hq
                 go_simp
                 go_at_call 65
                 refine (l1Below_any g _ _ hc4 (by omega) (by omega)).mono ?_
                 rintro e w12 ⟨a5, rfl, y50, y51, hc5, hk⟩
                 have B5 := B4.draw apart_cur hk hc5
                 have hP5 := B5.cell
                 have hF5 := B5.frozen
                 have hl5 := B5.lt)
              | (have hq := hc3
                 clear hq
                 go_simp
                 go_at_call 65
                 refine (l1Below_any g _ _ hc3 (by omega) (by omega)).mono ?_
                 rintro e w11 ⟨a4, rfl, y40, y41, hc4, hk⟩
                 have B4 := B3.draw apart_cur hk hc4
                 have hP4 := B4.cell)
              | (have hq := hc2
                 clear hq
                 go_simp
                 go_at_call 65
                 refine (l1Below_any g _ _ hc2 (by omega) (by omega)).mono ?_
                 rintro e w10 ⟨a3, rfl, y30, y31, hc3, hk⟩
                 have B3 := B2.draw apart_cur hk hc3
                 have hP3 := B3.cell)
              | (have hq := hc1
                 clear hq
                 go_simp
                 go_at_call 65
                 refine (l1Below_any g _ _ hc1 (by omega) (by omega)).mono ?_
                 rintro e w9 ⟨a2, rfl, y20, y21, hc2, hk⟩
                 have B2 := B1.draw apart_cur hk hc2
                 have hP2 := B2.cell)
              | (have hq := hc0
                 clear hq
                 go_simp
                 go_at_call 65
                 refine (l1Below_any g _ _ hc0 (by omega) (by omega)).mono ?_
                 rintro e w8 ⟨a1, rfl, y10, y11, hc1, hk⟩
                 have B1 := B0.draw apart_cur hk hc1
                 have hP1 := B1.cell)
              | (refine push0_step B5 apart_cur (by omega) a1 a2 a3 _ (by rfl) _ _ (by rfl) (by rfl) (by rfl) ?_
                 intro gg cap w13 B6
                 have hP6 := B6.cell
                 have hF6 := B6.frozen))
            all_goals
              go_wp2_with fail
              have B7 := B6.store apart_cur 0 (.slice (some ⟨gg, 0, none⟩) (q + 1) cap)
              have hs := mul_small y40 y41 y50 (by omega)
              exact ⟨⟨k - 1, q + 1, _, _, by omega, by congr 1; omega, pod_ok HP.out y10 y11 y20 y21 y30 (by omega) hs.1 hs.2, B7⟩, by simp [intOf]; omega⟩
          · obtain rfl : k = 0 := by omega
            obtain rfl : q = N := by omega
            clear hlt hkm
            have hc0 := B.cur
            go_wp2_with fail
            refine (l1Below_any g _ _ hc0 (by omega) (by omega)).mono ?_
            rintro e w14 ⟨r3, rfl, r0, r1, hc, hk⟩
            have B := B.draw apart_cur hk hc
            clear hk hc hc0
            go_wp2_with fail
            -- the mounts
            obtain ⟨N, rfl⟩ := Int.eq_ofNat_of_zero_le r0
            have hQ3 : N ≤ 4 := by omega
            clear r0 r1
            obtain ⟨V0, C0, rfl, -, -⟩ := B.o0.form
            go_loopw [6] (fun s6 wr => ∃ k z v2 x2, (k + z = N ∨ k + z ≤ N) ∧ s6 = .int .i64 (k : Int) ∧ (∀ j, j < z → mountB q x2 j = true) ∧
              Bld 112 .i64 w wr g w.heap.size P #[.slice V0 q C0, v1, v2, .slice none 0 0, .int .i64 l, .int .i64 p', .int .i64 t'] (.slice V0 q C0) v1 v2 (.slice none 0 0) q m z 0 x0 x1 x2 (fun _ => 0)) (fun s6 _ => (intOf s6).toNat)
            case atStart => exact ⟨N, 0, _, fun _ => 0, by omega, rfl, all_none, B⟩
            case round =>
              clear B
              obtain ⟨k, z, v2, x2, hkm, rfl, hall, B⟩ := hrel
              have HM := Lib.hid hall
              have HZ : k + z ≤ N := by omega
              clear hall hkm
              obtain ⟨V2, C2, rfl, -, -⟩ := B.o2.form
              have hPb := B.cell
              by_cases hgo : 0 < k ∧ 0 < q
              · obtain ⟨hlt, hq0⟩ := hgo
                have B0 := B.drew
                have hc0 := B0.cur
                have hP0 := B0.cell
                have hF0 := B0.frozen
                go_wp2_with fail
                have zz0 : (-1 : Int) ≤ (z : Int) - 1 := by omega
                have zz1 : (z : Int) - 1 - -1 < 256 := by omega
                have zz3 : (z : Int) - 1 ≤ 1000 := by omega
                have zz2 : z ≤ 1000 := by omega
                have qq0 : (0 : Int) < (q : Int) := by omega
                have qq1 : (q : Int) ≤ 256 := by omega
                have hz1 : IntKind.i64.wrap ((z : Int) - 1) = (z : Int) - 1 := IntWalk.i64_in _ (by omega)
                go_region_law (first
                  | (have hq := hc1
                     clear hq
                     go_simp
                     go_at_call 61
                     refine (l1From_any g _ _ _ hc1 zz0 zz1 (by decide) zz3).mono ?_
                     rintro e w16 ⟨a2, rfl, y20, y21, hc2, hk⟩
                     have B2 := B1.draw apart_cur hk hc2
                     have hP2 := B2.cell
                     have hF2 := B2.frozen
                     have hl2 := B2.lt)
                  | (have hq := hc0
                     clear hq
                     go_simp
                     go_at_call 65
                     refine (l1Below_any g _ _ hc0 qq0 qq1).mono ?_
                     rintro e w15 ⟨a1, rfl, y10, y11, hc1, hk⟩
                     have B1 := B0.draw apart_cur hk hc1
                     have hP1 := B1.cell
                     have hl1 := B1.lt)
                  | (refine push2_step B2 apart_cur zz2 a1 a2 (by rfl) _ _ (by rfl) (by rfl) (by rfl) ?_
                     intro gg cap w17 B3
                     have hP3 := B3.cell
                     have hF3 := B3.frozen))
                all_goals
                  clear hz1
                  go_wp2_with fail
                  have B4 := B3.store apart_cur 2 (.slice (some ⟨gg, 0, none⟩) (z + 1) cap)
                  exact ⟨⟨k - 1, z + 1, _, _, by omega, by congr 1; omega, mount_ok HM.out y10 y11 y20 (by omega), B4⟩, by simp [intOf]; omega⟩
              · have hend2 : ¬ 0 < k ∨ ¬ 0 < q := by omega
                clear hgo
                rcases hend2 with h1 | h1
                · skip
                  have hc0 := B.cur
                  go_wp2_with fail
                  refine (l1Below_any g _ _ hc0 (by omega) (by omega)).mono ?_
                  rintro e w18 ⟨r4, rfl, r0, r1, hc, hk⟩
                  have B := B.draw apart_cur hk hc
                  clear hk hc hc0
                  go_wp2_with fail
                  -- the devices
                  obtain ⟨N4, rfl⟩ := Int.eq_ofNat_of_zero_le r0
                  have hR3 : N4 ≤ 2 := by omega
                  clear r0 r1
                  go_loopw [7] (fun s7 wr => ∃ k4 u v3 x3, (k4 + u = N4 ∨ k4 + u ≤ N4) ∧ s7 = .int .i64 (k4 : Int) ∧ (∀ j, j < u → deviceB z x3 j = true) ∧
                    Bld 112 .i64 w wr g w.heap.size P #[.slice V0 q C0, v1, .slice V2 z C2, v3, .int .i64 l, .int .i64 p', .int .i64 t'] (.slice V0 q C0) v1 (.slice V2 z C2) v3 q m z u x0 x1 x2 x3) (fun s7 _ => (intOf s7).toNat)
                  case atStart => exact ⟨N4, 0, _, fun _ => 0, by omega, rfl, all_none, B⟩
                  case round =>
                    clear B
                    obtain ⟨k4, u, v3, x3, hkm, rfl, hall, B⟩ := hrel
                    have HD := Lib.hid hall
                    have HK : k4 + u ≤ N4 := by omega
                    clear hall hkm
                    have B0 := B.drew
                    have hc0 := B0.cur
                    have hP := B.cell
                    have hP0 := B0.cell
                    have hF0 := B0.frozen
                    by_cases hgo : 0 < k4 ∧ 0 < z
                    · obtain ⟨hlt, hz0⟩ := hgo
                      go_wp2_with fail
                      go_region_law (first
                        | (have hq := hc0
                           clear hq
                           go_simp
                           go_at_call 65
                           refine (l1Below_any g _ _ hc0 (by omega) (by omega)).mono ?_
                           rintro e w19 ⟨a1, rfl, y10, y11, hc1, hk⟩
                           have B1 := B0.draw apart_cur hk hc1
                           have hP1 := B1.cell
                           have hl1 := B1.lt)
                        | (refine push3_step B1 apart_cur (by omega) a1 (by rfl) _ _ (by rfl) (by rfl) (by rfl) ?_
                           intro gg cap w20 B2
                           have hP2 := B2.cell
                           have hF2 := B2.frozen))
                      all_goals
                        go_wp2_with fail
                        have B3 := B2.store apart_cur 3 (.slice (some ⟨gg, 0, none⟩) (u + 1) cap)
                        exact ⟨⟨k4 - 1, u + 1, _, _, by omega, by congr 1; omega, device_ok HD.out y10 y11, B3⟩, by simp [intOf]; omega⟩
                    · have hend : ¬ 0 < k4 ∨ ¬ 0 < z := by omega
                      have hR := B.rl
                      have hRP := B.rp
                      have hlR := B.rlt
                      have hlP := B.lt
                      have hge := B.rge
                      have hold2 := B.old
                      have hRc : ∀ o, wr.cell? ⟨w.heap.size, o, none⟩ = (planC none none none none 0 0 0 0 0 0 0 0 0 0 0)[o]? := fun o => cell_of_row _ _ _ _ _ _ hR
                      have hRf : ∀ o, wr.frozen? ⟨w.heap.size, o, none⟩ = false := fun o => frozen_of_row _ _ _ _ _ hR
                      obtain ⟨V1, C1, rfl, -, -⟩ := B.o1.form
                      obtain ⟨V3, C3, rfl, -, -⟩ := B.o3.form
                      clear hgo hR
                      rcases hend with h3 | h3
                      · go_wp2_with fail
                        refine bodyPost_ret (v := .agg #[.slice V0 q C0, .slice V1 m C1, .slice V2 z C2, .slice V3 u C3, .int .i64 l, .int .i64 p', .int .i64 t']) ?_ rfl ⟨.slice V0 q C0, .slice V1 m C1, .slice V2 z C2, .slice V3 u C3, ⟨q, m, z, u, x0, x1, x2, x3, l, p', t'⟩, rfl, ?_⟩
                        · simp [results, Tryz.results102, go_sem, hRc]
                        · have K := (((((((Keeps.refl (· = w.heap.size) wr).set (p := ⟨w.heap.size, 0, none⟩) rfl (.slice V0 q C0)).set (p := ⟨w.heap.size, 1, none⟩) rfl (.slice V1 m C1)).set (p := ⟨w.heap.size, 2, none⟩) rfl (.slice V2 z C2)).set (p := ⟨w.heap.size, 3, none⟩) rfl (.slice V3 u C3)).set (p := ⟨w.heap.size, 4, none⟩) rfl (.int .i64 l)).set (p := ⟨w.heap.size, 5, none⟩) rfl (.int .i64 p')).set (p := ⟨w.heap.size, 6, none⟩) rfl (.int .i64 t')
                          obtain ⟨r0, r1, r2, r3, r4, r5⟩ := B.out K
                          exact ⟨r0, r1, r2, r3, r4, r5, ok_of q m z u x0 x1 x2 x3 l p' t' l0 (by omega) hp1 hp2 ht1 ht3 (by omega) hN3 (by omega) (by omega) HP.out HA.out HM.out HD.out, hM3, hN3, show z ≤ 4 by omega, show u ≤ 2 by omega⟩
                      · by_cases h4 : 0 < k4
                        · go_wp2_with fail
                          refine bodyPost_ret (v := .agg #[.slice V0 q C0, .slice V1 m C1, .slice V2 z C2, .slice V3 u C3, .int .i64 l, .int .i64 p', .int .i64 t']) ?_ rfl ⟨.slice V0 q C0, .slice V1 m C1, .slice V2 z C2, .slice V3 u C3, ⟨q, m, z, u, x0, x1, x2, x3, l, p', t'⟩, rfl, ?_⟩
                          · simp [results, Tryz.results102, go_sem, hRc]
                          · have K := (((((((Keeps.refl (· = w.heap.size) wr).set (p := ⟨w.heap.size, 0, none⟩) rfl (.slice V0 q C0)).set (p := ⟨w.heap.size, 1, none⟩) rfl (.slice V1 m C1)).set (p := ⟨w.heap.size, 2, none⟩) rfl (.slice V2 z C2)).set (p := ⟨w.heap.size, 3, none⟩) rfl (.slice V3 u C3)).set (p := ⟨w.heap.size, 4, none⟩) rfl (.int .i64 l)).set (p := ⟨w.heap.size, 5, none⟩) rfl (.int .i64 p')).set (p := ⟨w.heap.size, 6, none⟩) rfl (.int .i64 t')
                            obtain ⟨r0, r1, r2, r3, r4, r5⟩ := B.out K
                            exact ⟨r0, r1, r2, r3, r4, r5, ok_of q m z u x0 x1 x2 x3 l p' t' l0 (by omega) hp1 hp2 ht1 ht3 (by omega) hN3 (by omega) (by omega) HP.out HA.out HM.out HD.out, hM3, hN3, show z ≤ 4 by omega, show u ≤ 2 by omega⟩
                        · go_wp2_with fail
                          refine bodyPost_ret (v := .agg #[.slice V0 q C0, .slice V1 m C1, .slice V2 z C2, .slice V3 u C3, .int .i64 l, .int .i64 p', .int .i64 t']) ?_ rfl ⟨.slice V0 q C0, .slice V1 m C1, .slice V2 z C2, .slice V3 u C3, ⟨q, m, z, u, x0, x1, x2, x3, l, p', t'⟩, rfl, ?_⟩
                          · simp [results, Tryz.results102, go_sem, hRc]
                          · have K := (((((((Keeps.refl (· = w.heap.size) wr).set (p := ⟨w.heap.size, 0, none⟩) rfl (.slice V0 q C0)).set (p := ⟨w.heap.size, 1, none⟩) rfl (.slice V1 m C1)).set (p := ⟨w.heap.size, 2, none⟩) rfl (.slice V2 z C2)).set (p := ⟨w.heap.size, 3, none⟩) rfl (.slice V3 u C3)).set (p := ⟨w.heap.size, 4, none⟩) rfl (.int .i64 l)).set (p := ⟨w.heap.size, 5, none⟩) rfl (.int .i64 p')).set (p := ⟨w.heap.size, 6, none⟩) rfl (.int .i64 t')
                            obtain ⟨r0, r1, r2, r3, r4, r5⟩ := B.out K
                            exact ⟨r0, r1, r2, r3, r4, r5, ok_of q m z u x0 x1 x2 x3 l p' t' l0 (by omega) hp1 hp2 ht1 ht3 (by omega) hN3 (by omega) (by omega) HP.out HA.out HM.out HD.out, hM3, hN3, show z ≤ 4 by omega, show u ≤ 2 by omega⟩
                · by_cases h2 : 0 < k
                  · skip
                    have hc0 := B.cur
                    go_wp2_with fail
                    refine (l1Below_any g _ _ hc0 (by omega) (by omega)).mono ?_
                    rintro e w18 ⟨r4, rfl, r0, r1, hc, hk⟩
                    have B := B.draw apart_cur hk hc
                    clear hk hc hc0
                    go_wp2_with fail
                    -- the devices
                    obtain ⟨N4, rfl⟩ := Int.eq_ofNat_of_zero_le r0
                    have hR3 : N4 ≤ 2 := by omega
                    clear r0 r1
                    go_loopw [7] (fun s7 wr => ∃ k4 u v3 x3, (k4 + u = N4 ∨ k4 + u ≤ N4) ∧ s7 = .int .i64 (k4 : Int) ∧ (∀ j, j < u → deviceB z x3 j = true) ∧
                      Bld 112 .i64 w wr g w.heap.size P #[.slice V0 q C0, v1, .slice V2 z C2, v3, .int .i64 l, .int .i64 p', .int .i64 t'] (.slice V0 q C0) v1 (.slice V2 z C2) v3 q m z u x0 x1 x2 x3) (fun s7 _ => (intOf s7).toNat)
                    case atStart => exact ⟨N4, 0, _, fun _ => 0, by omega, rfl, all_none, B⟩
                    case round =>
                      clear B
                      obtain ⟨k4, u, v3, x3, hkm, rfl, hall, B⟩ := hrel
                      have HD := Lib.hid hall
                      have HK : k4 + u ≤ N4 := by omega
                      clear hall hkm
                      have B0 := B.drew
                      have hc0 := B0.cur
                      have hP := B.cell
                      have hP0 := B0.cell
                      have hF0 := B0.frozen
                      by_cases hgo : 0 < k4 ∧ 0 < z
                      · obtain ⟨hlt, hz0⟩ := hgo
                        go_wp2_with fail
                        go_region_law (first
                          | (have hq := hc0
                             clear hq
                             go_simp
                             go_at_call 65
                             refine (l1Below_any g _ _ hc0 (by omega) (by omega)).mono ?_
                             rintro e w19 ⟨a1, rfl, y10, y11, hc1, hk⟩
                             have B1 := B0.draw apart_cur hk hc1
                             have hP1 := B1.cell
                             have hl1 := B1.lt)
                          | (refine push3_step B1 apart_cur (by omega) a1 (by rfl) _ _ (by rfl) (by rfl) (by rfl) ?_
                             intro gg cap w20 B2
                             have hP2 := B2.cell
                             have hF2 := B2.frozen))
                        all_goals
                          go_wp2_with fail
                          have B3 := B2.store apart_cur 3 (.slice (some ⟨gg, 0, none⟩) (u + 1) cap)
                          exact ⟨⟨k4 - 1, u + 1, _, _, by omega, by congr 1; omega, device_ok HD.out y10 y11, B3⟩, by simp [intOf]; omega⟩
                      · have hend : ¬ 0 < k4 ∨ ¬ 0 < z := by omega
                        have hR := B.rl
                        have hRP := B.rp
                        have hlR := B.rlt
                        have hlP := B.lt
                        have hge := B.rge
                        have hold2 := B.old
                        have hRc : ∀ o, wr.cell? ⟨w.heap.size, o, none⟩ = (planC none none none none 0 0 0 0 0 0 0 0 0 0 0)[o]? := fun o => cell_of_row _ _ _ _ _ _ hR
                        have hRf : ∀ o, wr.frozen? ⟨w.heap.size, o, none⟩ = false := fun o => frozen_of_row _ _ _ _ _ hR
                        obtain ⟨V1, C1, rfl, -, -⟩ := B.o1.form
                        obtain ⟨V3, C3, rfl, -, -⟩ := B.o3.form
                        clear hgo hR
                        rcases hend with h3 | h3
                        · go_wp2_with fail
                          refine bodyPost_ret (v := .agg #[.slice V0 q C0, .slice V1 m C1, .slice V2 z C2, .slice V3 u C3, .int .i64 l, .int .i64 p', .int .i64 t']) ?_ rfl ⟨.slice V0 q C0, .slice V1 m C1, .slice V2 z C2, .slice V3 u C3, ⟨q, m, z, u, x0, x1, x2, x3, l, p', t'⟩, rfl, ?_⟩
                          · simp [results, Tryz.results102, go_sem, hRc]
                          · have K := (((((((Keeps.refl (· = w.heap.size) wr).set (p := ⟨w.heap.size, 0, none⟩) rfl (.slice V0 q C0)).set (p := ⟨w.heap.size, 1, none⟩) rfl (.slice V1 m C1)).set (p := ⟨w.heap.size, 2, none⟩) rfl (.slice V2 z C2)).set (p := ⟨w.heap.size, 3, none⟩) rfl (.slice V3 u C3)).set (p := ⟨w.heap.size, 4, none⟩) rfl (.int .i64 l)).set (p := ⟨w.heap.size, 5, none⟩) rfl (.int .i64 p')).set (p := ⟨w.heap.size, 6, none⟩) rfl (.int .i64 t')
                            obtain ⟨r0, r1, r2, r3, r4, r5⟩ := B.out K
                            exact ⟨r0, r1, r2, r3, r4, r5, ok_of q m z u x0 x1 x2 x3 l p' t' l0 (by omega) hp1 hp2 ht1 ht3 (by omega) hN3 (by omega) (by omega) HP.out HA.out HM.out HD.out, hM3, hN3, show z ≤ 4 by omega, show u ≤ 2 by omega⟩
                        · by_cases h4 : 0 < k4
                          · go_wp2_with fail
                            refine bodyPost_ret (v := .agg #[.slice V0 q C0, .slice V1 m C1, .slice V2 z C2, .slice V3 u C3, .int .i64 l, .int .i64 p', .int .i64 t']) ?_ rfl ⟨.slice V0 q C0, .slice V1 m C1, .slice V2 z C2, .slice V3 u C3, ⟨q, m, z, u, x0, x1, x2, x3, l, p', t'⟩, rfl, ?_⟩
                            · simp [results, Tryz.results102, go_sem, hRc]
                            · have K := (((((((Keeps.refl (· = w.heap.size) wr).set (p := ⟨w.heap.size, 0, none⟩) rfl (.slice V0 q C0)).set (p := ⟨w.heap.size, 1, none⟩) rfl (.slice V1 m C1)).set (p := ⟨w.heap.size, 2, none⟩) rfl (.slice V2 z C2)).set (p := ⟨w.heap.size, 3, none⟩) rfl (.slice V3 u C3)).set (p := ⟨w.heap.size, 4, none⟩) rfl (.int .i64 l)).set (p := ⟨w.heap.size, 5, none⟩) rfl (.int .i64 p')).set (p := ⟨w.heap.size, 6, none⟩) rfl (.int .i64 t')
                              obtain ⟨r0, r1, r2, r3, r4, r5⟩ := B.out K
                              exact ⟨r0, r1, r2, r3, r4, r5, ok_of q m z u x0 x1 x2 x3 l p' t' l0 (by omega) hp1 hp2 ht1 ht3 (by omega) hN3 (by omega) (by omega) HP.out HA.out HM.out HD.out, hM3, hN3, show z ≤ 4 by omega, show u ≤ 2 by omega⟩
                          · go_wp2_with fail
                            refine bodyPost_ret (v := .agg #[.slice V0 q C0, .slice V1 m C1, .slice V2 z C2, .slice V3 u C3, .int .i64 l, .int .i64 p', .int .i64 t']) ?_ rfl ⟨.slice V0 q C0, .slice V1 m C1, .slice V2 z C2, .slice V3 u C3, ⟨q, m, z, u, x0, x1, x2, x3, l, p', t'⟩, rfl, ?_⟩
                            · simp [results, Tryz.results102, go_sem, hRc]
                            · have K := (((((((Keeps.refl (· = w.heap.size) wr).set (p := ⟨w.heap.size, 0, none⟩) rfl (.slice V0 q C0)).set (p := ⟨w.heap.size, 1, none⟩) rfl (.slice V1 m C1)).set (p := ⟨w.heap.size, 2, none⟩) rfl (.slice V2 z C2)).set (p := ⟨w.heap.size, 3, none⟩) rfl (.slice V3 u C3)).set (p := ⟨w.heap.size, 4, none⟩) rfl (.int .i64 l)).set (p := ⟨w.heap.size, 5, none⟩) rfl (.int .i64 p')).set (p := ⟨w.heap.size, 6, none⟩) rfl (.int .i64 t')
                              obtain ⟨r0, r1, r2, r3, r4, r5⟩ := B.out K
                              exact ⟨r0, r1, r2, r3, r4, r5, ok_of q m z u x0 x1 x2 x3 l p' t' l0 (by omega) hp1 hp2 ht1 ht3 (by omega) hN3 (by omega) (by omega) HP.out HA.out HM.out HD.out, hM3, hN3, show z ≤ 4 by omega, show u ≤ 2 by omega⟩
                  · skip
                    have hc0 := B.cur
                    go_wp2_with fail
                    refine (l1Below_any g _ _ hc0 (by omega) (by omega)).mono ?_
                    rintro e w18 ⟨r4, rfl, r0, r1, hc, hk⟩
                    have B := B.draw apart_cur hk hc
                    clear hk hc hc0
                    go_wp2_with fail
                    -- the devices
                    obtain ⟨N4, rfl⟩ := Int.eq_ofNat_of_zero_le r0
                    have hR3 : N4 ≤ 2 := by omega
                    clear r0 r1
                    go_loopw [7] (fun s7 wr => ∃ k4 u v3 x3, (k4 + u = N4 ∨ k4 + u ≤ N4) ∧ s7 = .int .i64 (k4 : Int) ∧ (∀ j, j < u → deviceB z x3 j = true) ∧
                      Bld 112 .i64 w wr g w.heap.size P #[.slice V0 q C0, v1, .slice V2 z C2, v3, .int .i64 l, .int .i64 p', .int .i64 t'] (.slice V0 q C0) v1 (.slice V2 z C2) v3 q m z u x0 x1 x2 x3) (fun s7 _ => (intOf s7).toNat)
                    case atStart => exact ⟨N4, 0, _, fun _ => 0, by omega, rfl, all_none, B⟩
                    case round =>
                      clear B
                      obtain ⟨k4, u, v3, x3, hkm, rfl, hall, B⟩ := hrel
                      have HD := Lib.hid hall
                      have HK : k4 + u ≤ N4 := by omega
                      clear hall hkm
                      have B0 := B.drew
                      have hc0 := B0.cur
                      have hP := B.cell
                      have hP0 := B0.cell
                      have hF0 := B0.frozen
                      by_cases hgo : 0 < k4 ∧ 0 < z
                      · obtain ⟨hlt, hz0⟩ := hgo
                        go_wp2_with fail
                        go_region_law (first
                          | (have hq := hc0
                             clear hq
                             go_simp
                             go_at_call 65
                             refine (l1Below_any g _ _ hc0 (by omega) (by omega)).mono ?_
                             rintro e w19 ⟨a1, rfl, y10, y11, hc1, hk⟩
                             have B1 := B0.draw apart_cur hk hc1
                             have hP1 := B1.cell
                             have hl1 := B1.lt)
                          | (refine push3_step B1 apart_cur (by omega) a1 (by rfl) _ _ (by rfl) (by rfl) (by rfl) ?_
                             intro gg cap w20 B2
                             have hP2 := B2.cell
                             have hF2 := B2.frozen))
                        all_goals
                          go_wp2_with fail
                          have B3 := B2.store apart_cur 3 (.slice (some ⟨gg, 0, none⟩) (u + 1) cap)
                          exact ⟨⟨k4 - 1, u + 1, _, _, by omega, by congr 1; omega, device_ok HD.out y10 y11, B3⟩, by simp [intOf]; omega⟩
                      · have hend : ¬ 0 < k4 ∨ ¬ 0 < z := by omega
                        have hR := B.rl
                        have hRP := B.rp
                        have hlR := B.rlt
                        have hlP := B.lt
                        have hge := B.rge
                        have hold2 := B.old
                        have hRc : ∀ o, wr.cell? ⟨w.heap.size, o, none⟩ = (planC none none none none 0 0 0 0 0 0 0 0 0 0 0)[o]? := fun o => cell_of_row _ _ _ _ _ _ hR
                        have hRf : ∀ o, wr.frozen? ⟨w.heap.size, o, none⟩ = false := fun o => frozen_of_row _ _ _ _ _ hR
                        obtain ⟨V1, C1, rfl, -, -⟩ := B.o1.form
                        obtain ⟨V3, C3, rfl, -, -⟩ := B.o3.form
                        clear hgo hR
                        rcases hend with h3 | h3
                        · go_wp2_with fail
                          refine bodyPost_ret (v := .agg #[.slice V0 q C0, .slice V1 m C1, .slice V2 z C2, .slice V3 u C3, .int .i64 l, .int .i64 p', .int .i64 t']) ?_ rfl ⟨.slice V0 q C0, .slice V1 m C1, .slice V2 z C2, .slice V3 u C3, ⟨q, m, z, u, x0, x1, x2, x3, l, p', t'⟩, rfl, ?_⟩
                          · simp [results, Tryz.results102, go_sem, hRc]
                          · have K := (((((((Keeps.refl (· = w.heap.size) wr).set (p := ⟨w.heap.size, 0, none⟩) rfl (.slice V0 q C0)).set (p := ⟨w.heap.size, 1, none⟩) rfl (.slice V1 m C1)).set (p := ⟨w.heap.size, 2, none⟩) rfl (.slice V2 z C2)).set (p := ⟨w.heap.size, 3, none⟩) rfl (.slice V3 u C3)).set (p := ⟨w.heap.size, 4, none⟩) rfl (.int .i64 l)).set (p := ⟨w.heap.size, 5, none⟩) rfl (.int .i64 p')).set (p := ⟨w.heap.size, 6, none⟩) rfl (.int .i64 t')
                            obtain ⟨r0, r1, r2, r3, r4, r5⟩ := B.out K
                            exact ⟨r0, r1, r2, r3, r4, r5, ok_of q m z u x0 x1 x2 x3 l p' t' l0 (by omega) hp1 hp2 ht1 ht3 (by omega) hN3 (by omega) (by omega) HP.out HA.out HM.out HD.out, hM3, hN3, show z ≤ 4 by omega, show u ≤ 2 by omega⟩
                        · by_cases h4 : 0 < k4
                          · go_wp2_with fail
                            refine bodyPost_ret (v := .agg #[.slice V0 q C0, .slice V1 m C1, .slice V2 z C2, .slice V3 u C3, .int .i64 l, .int .i64 p', .int .i64 t']) ?_ rfl ⟨.slice V0 q C0, .slice V1 m C1, .slice V2 z C2, .slice V3 u C3, ⟨q, m, z, u, x0, x1, x2, x3, l, p', t'⟩, rfl, ?_⟩
                            · simp [results, Tryz.results102, go_sem, hRc]
                            · have K := (((((((Keeps.refl (· = w.heap.size) wr).set (p := ⟨w.heap.size, 0, none⟩) rfl (.slice V0 q C0)).set (p := ⟨w.heap.size, 1, none⟩) rfl (.slice V1 m C1)).set (p := ⟨w.heap.size, 2, none⟩) rfl (.slice V2 z C2)).set (p := ⟨w.heap.size, 3, none⟩) rfl (.slice V3 u C3)).set (p := ⟨w.heap.size, 4, none⟩) rfl (.int .i64 l)).set (p := ⟨w.heap.size, 5, none⟩) rfl (.int .i64 p')).set (p := ⟨w.heap.size, 6, none⟩) rfl (.int .i64 t')
                              obtain ⟨r0, r1, r2, r3, r4, r5⟩ := B.out K
                              exact ⟨r0, r1, r2, r3, r4, r5, ok_of q m z u x0 x1 x2 x3 l p' t' l0 (by omega) hp1 hp2 ht1 ht3 (by omega) hN3 (by omega) (by omega) HP.out HA.out HM.out HD.out, hM3, hN3, show z ≤ 4 by omega, show u ≤ 2 by omega⟩
                          · go_wp2_with fail
                            refine bodyPost_ret (v := .agg #[.slice V0 q C0, .slice V1 m C1, .slice V2 z C2, .slice V3 u C3, .int .i64 l, .int .i64 p', .int .i64 t']) ?_ rfl ⟨.slice V0 q C0, .slice V1 m C1, .slice V2 z C2, .slice V3 u C3, ⟨q, m, z, u, x0, x1, x2, x3, l, p', t'⟩, rfl, ?_⟩
                            · simp [results, Tryz.results102, go_sem, hRc]
                            · have K := (((((((Keeps.refl (· = w.heap.size) wr).set (p := ⟨w.heap.size, 0, none⟩) rfl (.slice V0 q C0)).set (p := ⟨w.heap.size, 1, none⟩) rfl (.slice V1 m C1)).set (p := ⟨w.heap.size, 2, none⟩) rfl (.slice V2 z C2)).set (p := ⟨w.heap.size, 3, none⟩) rfl (.slice V3 u C3)).set (p := ⟨w.heap.size, 4, none⟩) rfl (.int .i64 l)).set (p := ⟨w.heap.size, 5, none⟩) rfl (.int .i64 p')).set (p := ⟨w.heap.size, 6, none⟩) rfl (.int .i64 t')
                              obtain ⟨r0, r1, r2, r3, r4, r5⟩ := B.out K
                              exact ⟨r0, r1, r2, r3, r4, r5, ok_of q m z u x0 x1 x2 x3 l p' t' l0 (by omega) hp1 hp2 ht1 ht3 (by omega) hN3 (by omega) (by omega) HP.out HA.out HM.out HD.out, hM3, hN3, show z ≤ 4 by omega, show u ≤ 2 by omega⟩
end Go.Proofs.YtdkmhaghnfhajaaGreat
