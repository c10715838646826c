/-
  The model's l10Shut and Commanded.
-/
import Derived.Test.YtmgckdmglnmnnaaGreatDoorMZxWh
import Derived.Test.YtmgckdmglnmnnaaGreatDoorMZ0
/- Wi -/
set_option linter.unusedVariables false
namespace Go.Proofs.YtmgckdmglnmnnaaGreatDoor
open Go.RowKit

theorem size_ok {d : PlanD} (h : planOkB d = true) : d.n0 ≤ 12 ∧ d.n1 ≤ 4 ∧ d.n2 ≤ 12 ∧ d.n3 ≤ 12 := by
  simp only [planOkB, sizesB, Bool.and_eq_true, decide_eq_true_eq] at h
  omega
theorem times_ok {d : PlanD} (h : planOkB d = true) : (0 ≤ d.l ∧ d.l ≤ 500) ∧ (1 ≤ d.p ∧ d.p ≤ 9) ∧ (d.p ≤ d.t ∧ d.t ≤ 30) := by
  simp only [planOkB, timesB, Bool.and_eq_true, inB_true] at h
  omega
set_option maxRecDepth 4000 in
set_option maxHeartbeats 4000000 in
theorem l10Shut_any (pv sv : Value) (d : PlanD) (s : StD) (w : World) (hp : IsPlan w w.heap.size pv d) (hs : IsSt w w.heap.size sv s) (hok : StOk d s) :
    Calls Tryz.prog 114 #[pv, sv] w (RecsA w (shutD d s)) := by
  have HP := Lib.hid hp
  have HS := Lib.hid hs
  obtain ⟨⟨P0, P1, P2, P3, k0, k1, k2, k3, rfl, s0, s1, s2, s3⟩, b0, b1, b2, b3⟩ := hp
  obtain ⟨⟨A0, A1, A2, A3, c0, c1, c2, c3, rfl, t0, t1, t2, t3⟩, f0, f1, f2, f3⟩ := hs
  have S0 := Lib.hid s0
  have S1 := Lib.hid s1
  have S2 := Lib.hid s2
  have S3 := Lib.hid s3
  have R0 := Lib.hid t0
  have R1 := Lib.hid t1
  have R2 := Lib.hid t2
  have R3 := Lib.hid t3
  unfold maxLen at b0 b1 b2 b3 f0 f1 f2 f3
  clear s0 s1 s2 s3 t0 t1 t2 t3
  have T0 := Two.start w (planC P0 P1 P2 P3 d.n0 k0 d.n1 k1 d.n2 k2 d.n3 k3 d.l d.p d.t) (stC A0 A1 A2 A3 s.pods.length c0 s.mnts.length c1 s.devs.length c2 s.lks.length c3 s.ph s.co s.ck s.bo s.ba s.lb s.gd s.pr) 29 34
  have OK := Lib.hid hok
  clear hok
  obtain ⟨ans, hans⟩ : ∃ ans, shutD d s = ans := ⟨_, rfl⟩
  rw [hans]
  have HANS := Lib.hid hans
  clear hans
  have hC := T0.A.C
  have hD := T0.O.C
  cases h1 : (s.ph != 1)
  all_goals cases h2 : (s.ph != 2)
  case true.true =>
    have H1 : Hid (¬ (s.ph = 1 ∨ s.ph = 2)) := Lib.hid (by simp at h1 h2; omega)
    go_enter Tryz.func114, Tryz.ntmps114
    go_wp2_with fail
    refine (l10No_any 3 _).mono ?_
    rintro e w9 hR
    obtain ⟨v9, rfl, O9, K9⟩ := hR.back T0.A.K
    go_wp2
    all_goals (go_ret2; rw [← HANS.out, shutD, if_neg H1.out]; exact ⟨v9, rfl, O9, K9⟩)
  all_goals
    have H1 : Hid (s.ph = 1 ∨ s.ph = 2) := Lib.hid (by simp at h1 h2; omega)
    go_enter Tryz.func114, Tryz.ntmps114
    go_wp2_with fail
    refine (specNext_any _ d _ _ ((HP.out.below T0.A.K (Nat.le_refl _)).more T0.A.K.size) (by have := size_ok OK.out.plan; omega)).mono ?_
    rintro e w1 ⟨rfl, hb⟩
    have T1 := T0.step hb
    clear hb hC hD
    have hC := T1.A.C
    have hD := T1.O.C
    have HB : Hid (nextB d (-1) = if nextL d (-1) < 0 then 6 else nextL d (-1)) := Lib.hid rfl
    have hck := OK.out.ck
    have htm := (times_ok OK.out.plan).1
    generalize nextL d (-1) = nb at HB ⊢
    by_cases hnb : nb < 0
    · have HN := Lib.hid hnb
      go_wp2_with fail
      refine (l1Min_any _ _ _).mono ?_
      rintro e w2 ⟨rfl, rfl⟩
      have HM : Hid ((if s.ck + d.l < 1000000 then s.ck + d.l else 1000000) = min (s.ck + d.l) 1000000) := Lib.hid (by split <;> omega)
      rw [HM.out]
      go_wp2
      all_goals (go_ret2; rw [← HANS.out, shutD, if_pos H1.out, HB.out, if_pos (by have := HN.out; omega)]; exact ⟨_, rfl, own_of_heap (heap_alloc_new w1 _) rfl rfl T1.A.K.size (by unfold maxLen; decide), T1.A.K.alloc T1.A.K.size _⟩)
    · have HN := Lib.hid hnb
      go_wp2_with fail
      refine (l1Min_any _ _ _).mono ?_
      rintro e w2 ⟨rfl, rfl⟩
      have HM : Hid ((if s.ck + d.l < 1000000 then s.ck + d.l else 1000000) = min (s.ck + d.l) 1000000) := Lib.hid (by split <;> omega)
      rw [HM.out]
      go_wp2
      all_goals (go_ret2; rw [← HANS.out, shutD, if_pos H1.out, HB.out, if_neg (by have := HN.out; omega)]; exact ⟨_, rfl, own_of_heap (heap_alloc_new w1 _) rfl rfl T1.A.K.size (by unfold maxLen; decide), T1.A.K.alloc T1.A.K.size _⟩)

set_option maxRecDepth 4000 in
set_option maxHeartbeats 8000000 in
theorem commanded_any (pv sv : Value) (d : PlanD) (s : StD) (k a b : Int) (w : World) (hp : IsPlan w w.heap.size pv d) (hs : IsSt w w.heap.size sv s) :
    Calls Tryz.prog 104 #[pv, sv, .int .i64 k, .int .i64 a, .int .i64 b] w (RecsA w (if stOkB d s then commandD d s k a b else noR 1)) := by
  have HP := Lib.hid hp
  have HS := Lib.hid hs
  obtain ⟨⟨P0, P1, P2, P3, k0, k1, k2, k3, rfl, s0, s1, s2, s3⟩, b0, b1, b2, b3⟩ := hp
  obtain ⟨⟨A0, A1, A2, A3, c0, c1, c2, c3, rfl, t0, t1, t2, t3⟩, f0, f1, f2, f3⟩ := hs
  have S0 := Lib.hid s0
  have S1 := Lib.hid s1
  have S2 := Lib.hid s2
  have S3 := Lib.hid s3
  have R0 := Lib.hid t0
  have R1 := Lib.hid t1
  have R2 := Lib.hid t2
  have R3 := Lib.hid t3
  unfold maxLen at b0 b1 b2 b3 f0 f1 f2 f3
  clear s0 s1 s2 s3 t0 t1 t2 t3
  have T0 := Two.start w (planC P0 P1 P2 P3 d.n0 k0 d.n1 k1 d.n2 k2 d.n3 k3 d.l d.p d.t) (stC A0 A1 A2 A3 s.pods.length c0 s.mnts.length c1 s.devs.length c2 s.lks.length c3 s.ph s.co s.ck s.bo s.ba s.lb s.gd s.pr) 29 34
  obtain ⟨ans, hans⟩ : ∃ ans, (if stOkB d s then commandD d s k a b else noR 1) = ans := ⟨_, rfl⟩
  rw [hans]
  have HANS := Lib.hid hans
  clear hans
  go_enter Tryz.func104, Tryz.ntmps104
  go_wp2_with fail
  refine (specStateOk_any _ _ d s _ ((HP.out.below T0.A.K (Nat.le_refl _)).more T0.A.K.size) ((HS.out.below T0.A.K (Nat.le_refl _)).more T0.A.K.size)).mono ?_
  rintro e w1 ⟨rfl, hb⟩
  have T1 := T0.step hb
  have hC := T1.A.C
  have hD := T1.O.C
  clear hb T0
  cases hok : stOkB d s
  · have OKB : Hid (¬ stOkB d s = true) := Lib.hid (by rw [hok]; decide)
    clear hok
    go_wp2_with fail
    refine (l10No_any 1 _).mono ?_
    rintro e w9 hR
    obtain ⟨v9, rfl, O9, K9⟩ := hR.back T1.A.K
    go_wp2
    all_goals (go_ret2; rw [← HANS.out, if_neg OKB.out]; exact ⟨v9, rfl, O9, K9⟩)
  · have OK := Lib.hid (stOkB_iff.1 hok)
    have HANS2 : Hid (ans = commandD d s k a b) := Lib.hid (by rw [← HANS.out, if_pos hok])
    clear hok HANS
    by_cases e1 : k = 1
    · subst e1
      have HX : Hid (commandD d s 1 a b = phaseD s 0 1) := Lib.hid (by simp [commandD])
      go_wp2_with fail
      refine (l10Phase_any _ s 0 1 _ ((HS.out.below T1.A.K (Nat.le_refl _)).more T1.A.K.size)).mono ?_
      rintro e w9 hR
      obtain ⟨v9, rfl, O9, K9⟩ := hR.back T1.A.K
      go_wp2
      all_goals (go_ret2; rw [HANS2.out, HX.out]; exact ⟨v9, rfl, O9, K9⟩)
    · have E1 := Lib.hid e1
      by_cases e2 : k = 2
      · subst e2
        have HX : Hid (commandD d s 2 a b = phaseD s 1 2) := Lib.hid (by simp [commandD])
        go_wp2_with fail
        refine (l10Phase_any _ s 1 2 _ ((HS.out.below T1.A.K (Nat.le_refl _)).more T1.A.K.size)).mono ?_
        rintro e w9 hR
        obtain ⟨v9, rfl, O9, K9⟩ := hR.back T1.A.K
        go_wp2
        all_goals (go_ret2; rw [HANS2.out, HX.out]; exact ⟨v9, rfl, O9, K9⟩)
      · have E2 := Lib.hid e2
        by_cases e3 : k = 3
        · subst e3
          have HX : Hid (commandD d s 3 a b = evictD d s a) := Lib.hid (by simp [commandD])
          go_wp2_with fail
          refine (l10Evict_any _ _ d s a _ ((HP.out.below T1.A.K (Nat.le_refl _)).more T1.A.K.size) ((HS.out.below T1.A.K (Nat.le_refl _)).more T1.A.K.size) OK.out).mono ?_
          rintro e w9 hR
          obtain ⟨v9, rfl, O9, K9⟩ := hR.back T1.A.K
          go_wp2
          all_goals (go_ret2; rw [HANS2.out, HX.out]; exact ⟨v9, rfl, O9, K9⟩)
        · have E3 := Lib.hid e3
          by_cases e4 : k = 4
          · subst e4
            have HX : Hid (commandD d s 4 a b = shutD d s) := Lib.hid (by simp [commandD])
            go_wp2_with fail
            refine (l10Shut_any _ _ d s _ ((HP.out.below T1.A.K (Nat.le_refl _)).more T1.A.K.size) ((HS.out.below T1.A.K (Nat.le_refl _)).more T1.A.K.size) OK.out).mono ?_
            rintro e w9 hR
            obtain ⟨v9, rfl, O9, K9⟩ := hR.back T1.A.K
            go_wp2
            all_goals (go_ret2; rw [HANS2.out, HX.out]; exact ⟨v9, rfl, O9, K9⟩)
          · have E4 := Lib.hid e4
            by_cases e5 : k = 5
            · subst e5
              cases h5 : (s.ph == 2)
              · have H5 : Hid (¬ s.ph = 2) := Lib.hid (by simpa using h5)
                have HX : Hid (commandD d s 5 a b = phaseD s 1 0) := Lib.hid (by simp [commandD, cancelD, H5.out])
                go_wp2_with fail
                refine (l10Phase_any _ s 1 0 _ ((HS.out.below T1.A.K (Nat.le_refl _)).more T1.A.K.size)).mono ?_
                rintro e w9 hR
                obtain ⟨v9, rfl, O9, K9⟩ := hR.back T1.A.K
                go_wp2
                all_goals (go_ret2; rw [HANS2.out, HX.out]; exact ⟨v9, rfl, O9, K9⟩)
              · have H5 : Hid (s.ph = 2) := Lib.hid (by simpa using h5)
                have HX : Hid (commandD d s 5 a b = oneR 1 0 0) := Lib.hid (by simp [commandD, cancelD, H5.out])
                go_wp2_with fail
                refine (l10One_any 1 0 0 _).mono ?_
                rintro e w9 hR
                obtain ⟨v9, rfl, O9, K9⟩ := hR.back T1.A.K
                go_wp2
                all_goals (go_ret2; rw [HANS2.out, HX.out]; exact ⟨v9, rfl, O9, K9⟩)
            · have E5 := Lib.hid e5
              by_cases e6 : k = 6
              · subst e6
                have HX : Hid (commandD d s 6 a b = lockD s a) := Lib.hid (by simp [commandD])
                go_wp2_with fail
                refine (l10Lock_any _ s a _ ((HS.out.below T1.A.K (Nat.le_refl _)).more T1.A.K.size)).mono ?_
                rintro e w9 hR
                obtain ⟨v9, rfl, O9, K9⟩ := hR.back T1.A.K
                go_wp2
                all_goals (go_ret2; rw [HANS2.out, HX.out]; exact ⟨v9, rfl, O9, K9⟩)
              · have E6 := Lib.hid e6
                by_cases e7 : k = 7
                · subst e7
                  have HX : Hid (commandD d s 7 a b = unlockD s a) := Lib.hid (by simp [commandD])
                  go_wp2_with fail
                  refine (l10Unlock_any _ s a _ ((HS.out.below T1.A.K (Nat.le_refl _)).more T1.A.K.size)).mono ?_
                  rintro e w9 hR
                  obtain ⟨v9, rfl, O9, K9⟩ := hR.back T1.A.K
                  go_wp2
                  all_goals (go_ret2; rw [HANS2.out, HX.out]; exact ⟨v9, rfl, O9, K9⟩)
                · have E7 := Lib.hid e7
                  by_cases e8 : k = 8
                  · subst e8
                    have HX : Hid (commandD d s 8 a b = toldD d s afterHook a) := Lib.hid (by simp [commandD])
                    go_wp2_with fail
                    refine (l10Hook_any _ _ d s a _ ((HP.out.below T1.A.K (Nat.le_refl _)).more T1.A.K.size) ((HS.out.below T1.A.K (Nat.le_refl _)).more T1.A.K.size) OK.out).mono ?_
                    rintro e w9 hR
                    obtain ⟨v9, rfl, O9, K9⟩ := hR.back T1.A.K
                    go_wp2
                    all_goals (go_ret2; rw [HANS2.out, HX.out]; exact ⟨v9, rfl, O9, K9⟩)
                  · have E8 := Lib.hid e8
                    by_cases e9 : k = 9
                    · subst e9
                      have HX : Hid (commandD d s 9 a b = toldD d s afterExit a) := Lib.hid (by simp [commandD])
                      go_wp2_with fail
                      refine (l10Exit_any _ _ d s a _ ((HP.out.below T1.A.K (Nat.le_refl _)).more T1.A.K.size) ((HS.out.below T1.A.K (Nat.le_refl _)).more T1.A.K.size) OK.out).mono ?_
                      rintro e w9 hR
                      obtain ⟨v9, rfl, O9, K9⟩ := hR.back T1.A.K
                      go_wp2
                      all_goals (go_ret2; rw [HANS2.out, HX.out]; exact ⟨v9, rfl, O9, K9⟩)
                    · have E9 := Lib.hid e9
                      by_cases e10 : k = 10
                      · subst e10
                        have HX : Hid (commandD d s 10 a b = busyD d s a b) := Lib.hid (by simp [commandD])
                        go_wp2_with fail
                        refine (l10Busy_any _ _ d s a b _ ((HP.out.below T1.A.K (Nat.le_refl _)).more T1.A.K.size) ((HS.out.below T1.A.K (Nat.le_refl _)).more T1.A.K.size) OK.out).mono ?_
                        rintro e w9 hR
                        obtain ⟨v9, rfl, O9, K9⟩ := hR.back T1.A.K
                        go_wp2
                        all_goals (go_ret2; rw [HANS2.out, HX.out]; exact ⟨v9, rfl, O9, K9⟩)
                      · have E10 := Lib.hid e10
                        have HX : Hid (commandD d s k a b = noR 1) := Lib.hid (by simp [commandD, E1.out, E2.out, E3.out, E4.out, E5.out, E6.out, E7.out, E8.out, E9.out, E10.out])
                        go_wp2_with fail
                        refine (l10No_any 1 _).mono ?_
                        rintro e w9 hR
                        obtain ⟨v9, rfl, O9, K9⟩ := hR.back T1.A.K
                        go_wp2
                        all_goals (go_ret2; rw [HANS2.out, HX.out]; exact ⟨v9, rfl, O9, K9⟩)

end Go.Proofs.YtmgckdmglnmnnaaGreatDoor
