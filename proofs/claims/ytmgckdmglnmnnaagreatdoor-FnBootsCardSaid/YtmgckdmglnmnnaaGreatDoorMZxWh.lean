/-
  The model's chapter 10.
-/
import Derived.Test.YtmgckdmglnmnnaaGreatDoorMZ11
import Derived.Test.YtmgckdmglnmnnaaGreatDoorMZ7
/- Wh -/
set_option linter.unusedVariables false
namespace Go.Proofs.YtmgckdmglnmnnaaGreatDoor
open Go.RowKit

theorem at_index {i : Nat} {n : Nat} (hi : i < n) : inB (i : Int) 0 (n - 1) = true := by rw [inB_true]; omega
set_option maxRecDepth 4000 in
set_option maxHeartbeats 4000000 in
theorem l10Lock_any (sv : Value) (s : StD) (a : Int) (w : World) (hs : IsSt w w.heap.size sv s) :
    Calls Tryz.prog 116 #[sv, .int .i64 6, .int .i64 a] w (RecsA w (lockD s a)) := by
  have HS := Lib.hid hs
  obtain ⟨⟨A0, A1, A2, A3, c0, c1, c2, c3, rfl, -, -, -, -⟩, -, -, -, -⟩ := hs
  obtain ⟨ans, hans⟩ : ∃ ans, lockD s a = ans := ⟨_, rfl⟩
  rw [hans]
  have HANS := Lib.hid hans
  clear hans
  have X := Own.box w (stC A0 A1 A2 A3 s.pods.length c0 s.mnts.length c1 s.devs.length c2 s.lks.length c3 s.ph s.co s.ck s.bo s.ba s.lb s.gd s.pr) 34
  have hC := X.C
  go_enter Tryz.func116, Tryz.ntmps116
  go_wp2_with fail
  refine (in_any _ _ _ _).mono ?_
  rintro e w1 ⟨rfl, rfl⟩
  cases h1 : inB a 0 7
  · have H1 := Lib.hid h1
    clear h1
    go_wp2_with fail
    refine (l10No_any 2 _).mono ?_
    rintro e w9 hR
    obtain ⟨v9, rfl, O9, K9⟩ := hR.back X.K
    go_wp2
    all_goals (go_ret2; rw [← HANS.out, lockD, if_pos H1.out]; exact ⟨v9, rfl, O9, K9⟩)
  · have H1 : Hid (¬ inB a 0 7 = false) := Lib.hid (by rw [h1]; decide)
    clear h1
    by_cases h2 : 3 ≤ s.ph
    · have H2 := Lib.hid h2
      go_wp2_with fail
      refine (l10No_any 3 _).mono ?_
      rintro e w9 hR
      obtain ⟨v9, rfl, O9, K9⟩ := hR.back X.K
      go_wp2
      all_goals (go_ret2; rw [← HANS.out, lockD, if_neg H1.out, if_pos H2.out]; exact ⟨v9, rfl, O9, K9⟩)
    · have H2 := Lib.hid h2
      go_wp2_with fail
      refine (l10Holds_any _ s a _ ((HS.out.below X.K (Nat.le_refl _)).more X.K.size)).mono ?_
      rintro e w2 ⟨rfl, hb⟩
      have X2 := X.step hb
      clear hb
      cases h3 : s.lks.contains a
      · have H3 : Hid (¬ s.lks.contains a = true) := Lib.hid (by rw [h3]; decide)
        clear h3
        go_wp2_with fail
        refine (l10One_any 6 a 0 _).mono ?_
        rintro e w9 hR
        obtain ⟨v9, rfl, O9, K9⟩ := hR.back X2.K
        go_wp2
        all_goals (go_ret2; rw [← HANS.out, lockD, if_neg H1.out, if_neg (by have := H2.out; omega), if_neg H3.out]; exact ⟨v9, rfl, O9, K9⟩)
      · have H3 := Lib.hid h3
        clear h3
        go_wp2_with fail
        refine (l10No_any 4 _).mono ?_
        rintro e w9 hR
        obtain ⟨v9, rfl, O9, K9⟩ := hR.back X2.K
        go_wp2
        all_goals (go_ret2; rw [← HANS.out, lockD, if_neg H1.out, if_neg (by have := H2.out; omega), if_pos H3.out]; exact ⟨v9, rfl, O9, K9⟩)

set_option maxRecDepth 4000 in
set_option maxHeartbeats 4000000 in
theorem l10Unlock_any (sv : Value) (s : StD) (a : Int) (w : World) (hs : IsSt w w.heap.size sv s) :
    Calls Tryz.prog 116 #[sv, .int .i64 7, .int .i64 a] w (RecsA w (unlockD s a)) := by
  have HS := Lib.hid hs
  obtain ⟨⟨A0, A1, A2, A3, c0, c1, c2, c3, rfl, -, -, -, -⟩, -, -, -, -⟩ := hs
  obtain ⟨ans, hans⟩ : ∃ ans, unlockD s a = ans := ⟨_, rfl⟩
  rw [hans]
  have HANS := Lib.hid hans
  clear hans
  have X := Own.box w (stC A0 A1 A2 A3 s.pods.length c0 s.mnts.length c1 s.devs.length c2 s.lks.length c3 s.ph s.co s.ck s.bo s.ba s.lb s.gd s.pr) 34
  have hC := X.C
  go_enter Tryz.func116, Tryz.ntmps116
  go_wp2_with fail
  refine (in_any _ _ _ _).mono ?_
  rintro e w1 ⟨rfl, rfl⟩
  cases h1 : inB a 0 7
  · have H1 := Lib.hid h1
    clear h1
    go_wp2_with fail
    refine (l10No_any 2 _).mono ?_
    rintro e w9 hR
    obtain ⟨v9, rfl, O9, K9⟩ := hR.back X.K
    go_wp2
    all_goals (go_ret2; rw [← HANS.out, unlockD, if_pos H1.out]; exact ⟨v9, rfl, O9, K9⟩)
  · have H1 : Hid (¬ inB a 0 7 = false) := Lib.hid (by rw [h1]; decide)
    clear h1
    go_wp2_with fail
    refine (l10Holds_any _ s a _ ((HS.out.below X.K (Nat.le_refl _)).more X.K.size)).mono ?_
    rintro e w2 ⟨rfl, hb⟩
    have X2 := X.step hb
    clear hb
    cases h3 : s.lks.contains a
    · have H3 := Lib.hid h3
      clear h3
      go_wp2_with fail
      refine (l10No_any 4 _).mono ?_
      rintro e w9 hR
      obtain ⟨v9, rfl, O9, K9⟩ := hR.back X2.K
      go_wp2
      all_goals (go_ret2; rw [← HANS.out, unlockD, if_neg H1.out, if_pos H3.out]; exact ⟨v9, rfl, O9, K9⟩)
    · have H3 : Hid (¬ s.lks.contains a = false) := Lib.hid (by rw [h3]; decide)
      clear h3
      go_wp2_with fail
      refine (l10One_any 7 a 0 _).mono ?_
      rintro e w9 hR
      obtain ⟨v9, rfl, O9, K9⟩ := hR.back X2.K
      go_wp2
      all_goals (go_ret2; rw [← HANS.out, unlockD, if_neg H1.out, if_neg H3.out]; exact ⟨v9, rfl, O9, K9⟩)

set_option maxRecDepth 4000 in
set_option maxHeartbeats 4000000 in
theorem l10Hook_any (pv sv : Value) (d : PlanD) (s : StD) (a : Int) (w : World) (hp : IsPlan w w.heap.size pv d) (hs : IsSt w w.heap.size sv s) (hok : StOk d s) :
    Calls Tryz.prog 117 #[pv, sv, .int .i64 8, .int .i64 a] w (RecsA w (toldD d s afterHook a)) := by
  have HP := Lib.hid hp
  have HS := Lib.hid hs
  obtain ⟨⟨P0, P1, P2, P3, k0, k1, k2, k3, rfl, s0, s1, s2, s3⟩, b0, b1, b2, b3⟩ := hp
  obtain ⟨⟨A0, A1, A2, A3, c0, c1, c2, c3, rfl, t0, t1, t2, t3⟩, f0, f1, f2, f3⟩ := hs
  have S0 := Lib.hid s0
  have S1 := Lib.hid s1
  have S2 := Lib.hid s2
  have S3 := Lib.hid s3
  have R0 := Lib.hid t0
  have R1 := Lib.hid t1
  have R2 := Lib.hid t2
  have R3 := Lib.hid t3
  unfold maxLen at b0 b1 b2 b3 f0 f1 f2 f3
  clear s0 s1 s2 s3 t0 t1 t2 t3
  have T0 := Two.start w (planC P0 P1 P2 P3 d.n0 k0 d.n1 k1 d.n2 k2 d.n3 k3 d.l d.p d.t) (stC A0 A1 A2 A3 s.pods.length c0 s.mnts.length c1 s.devs.length c2 s.lks.length c3 s.ph s.co s.ck s.bo s.ba s.lb s.gd s.pr) 29 34
  have OK := Lib.hid hok
  clear hok
  obtain ⟨ans, hans⟩ : ∃ ans, toldD d s afterHook a = ans := ⟨_, rfl⟩
  rw [hans]
  have HANS := Lib.hid hans
  clear hans
  have hC := T0.A.C
  have hD := T0.O.C
  go_enter Tryz.func117, Tryz.ntmps117
  go_wp2_with fail
  refine (in_any _ _ _ _).mono ?_
  rintro e w1 ⟨rfl, rfl⟩
  cases h1 : inB a 0 (d.n0 - 1)
  · have H1 := Lib.hid h1
    clear h1
    go_wp2_with fail
    refine (l10No_any 2 _).mono ?_
    rintro e w9 hR
    obtain ⟨v9, rfl, O9, K9⟩ := hR.back T0.A.K
    go_wp2
    all_goals (go_ret2; rw [← HANS.out, toldD, if_pos H1.out]; exact ⟨v9, rfl, O9, K9⟩)
  · obtain ⟨i, rfl, hi⟩ := index_nat (a := a) (n := d.n0) (by rw [h1]; decide)
    clear h1
    have H1 : Hid (¬ inB (i : Int) 0 (d.n0 - 1) = false) := Lib.hid (by rw [at_index hi]; decide)
    have hlp : i < s.pods.length := by rw [OK.out.np]; exact hi
    obtain ⟨b', off', rfl, hb', hc⟩ := (R0.out.below T0.A.K (Nat.le_refl _)).cell hlp
    have p0 := (hc 0 (by decide)).trans (podCs_at s.pods (i := i) hlp).1
    rw [Nat.add_zero] at p0
    clear hc
    have HX : Hid ((podAt s (i : Int).toNat).1 = (podA s.pods i).1) := Lib.hid (by rw [Int.toNat_natCast]; rfl)
    generalize (podA s.pods i).1 = x at p0 HX
    go_wp2_with fail
    refine (afterHook_any _ _).mono ?_
    rintro e w2 ⟨rfl, rfl⟩
    by_cases h2 : afterHook x < 0
    · have H2 : Hid (afterHook (podAt s (i : Int).toNat).1 < 0) := Lib.hid (by rw [HX.out]; exact h2)
      go_wp2_with fail
      refine (l10No_any 4 _).mono ?_
      rintro e w9 hR
      obtain ⟨v9, rfl, O9, K9⟩ := hR.back T0.A.K
      go_wp2
      all_goals (go_ret2; rw [← HANS.out, toldD, if_neg H1.out, if_pos H2.out]; exact ⟨v9, rfl, O9, K9⟩)
    · have H2 : Hid (¬ afterHook (podAt s (i : Int).toNat).1 < 0) := Lib.hid (by rw [HX.out]; exact h2)
      go_wp2_with fail
      refine (l10One_any 2 i (afterHook x) _).mono ?_
      rintro e w9 hR
      obtain ⟨v9, rfl, O9, K9⟩ := hR.back T0.A.K
      go_wp2
      all_goals (go_ret2; rw [← HANS.out, toldD, if_neg H1.out, if_neg (by have := H2.out; omega), HX.out]; exact ⟨v9, rfl, O9, K9⟩)

set_option maxRecDepth 4000 in
set_option maxHeartbeats 4000000 in
theorem l10Exit_any (pv sv : Value) (d : PlanD) (s : StD) (a : Int) (w : World) (hp : IsPlan w w.heap.size pv d) (hs : IsSt w w.heap.size sv s) (hok : StOk d s) :
    Calls Tryz.prog 117 #[pv, sv, .int .i64 9, .int .i64 a] w (RecsA w (toldD d s afterExit a)) := by
  have HP := Lib.hid hp
  have HS := Lib.hid hs
  obtain ⟨⟨P0, P1, P2, P3, k0, k1, k2, k3, rfl, s0, s1, s2, s3⟩, b0, b1, b2, b3⟩ := hp
  obtain ⟨⟨A0, A1, A2, A3, c0, c1, c2, c3, rfl, t0, t1, t2, t3⟩, f0, f1, f2, f3⟩ := hs
  have S0 := Lib.hid s0
  have S1 := Lib.hid s1
  have S2 := Lib.hid s2
  have S3 := Lib.hid s3
  have R0 := Lib.hid t0
  have R1 := Lib.hid t1
  have R2 := Lib.hid t2
  have R3 := Lib.hid t3
  unfold maxLen at b0 b1 b2 b3 f0 f1 f2 f3
  clear s0 s1 s2 s3 t0 t1 t2 t3
  have T0 := Two.start w (planC P0 P1 P2 P3 d.n0 k0 d.n1 k1 d.n2 k2 d.n3 k3 d.l d.p d.t) (stC A0 A1 A2 A3 s.pods.length c0 s.mnts.length c1 s.devs.length c2 s.lks.length c3 s.ph s.co s.ck s.bo s.ba s.lb s.gd s.pr) 29 34
  have OK := Lib.hid hok
  clear hok
  obtain ⟨ans, hans⟩ : ∃ ans, toldD d s afterExit a = ans := ⟨_, rfl⟩
  rw [hans]
  have HANS := Lib.hid hans
  clear hans
  have hC := T0.A.C
  have hD := T0.O.C
  go_enter Tryz.func117, Tryz.ntmps117
  go_wp2_with fail
  refine (in_any _ _ _ _).mono ?_
  rintro e w1 ⟨rfl, rfl⟩
  cases h1 : inB a 0 (d.n0 - 1)
  · have H1 := Lib.hid h1
    clear h1
    go_wp2_with fail
    refine (l10No_any 2 _).mono ?_
    rintro e w9 hR
    obtain ⟨v9, rfl, O9, K9⟩ := hR.back T0.A.K
    go_wp2
    all_goals (go_ret2; rw [← HANS.out, toldD, if_pos H1.out]; exact ⟨v9, rfl, O9, K9⟩)
  · obtain ⟨i, rfl, hi⟩ := index_nat (a := a) (n := d.n0) (by rw [h1]; decide)
    clear h1
    have H1 : Hid (¬ inB (i : Int) 0 (d.n0 - 1) = false) := Lib.hid (by rw [at_index hi]; decide)
    have hlp : i < s.pods.length := by rw [OK.out.np]; exact hi
    obtain ⟨b', off', rfl, hb', hc⟩ := (R0.out.below T0.A.K (Nat.le_refl _)).cell hlp
    have p0 := (hc 0 (by decide)).trans (podCs_at s.pods (i := i) hlp).1
    rw [Nat.add_zero] at p0
    clear hc
    have HX : Hid ((podAt s (i : Int).toNat).1 = (podA s.pods i).1) := Lib.hid (by rw [Int.toNat_natCast]; rfl)
    generalize (podA s.pods i).1 = x at p0 HX
    go_wp2_with fail
    refine (afterHook_any _ _).mono ?_
    rintro e w2 ⟨rfl, rfl⟩
    go_wp2_with fail
    refine (afterExit_any _ _).mono ?_
    rintro e w3 ⟨rfl, rfl⟩
    by_cases h2 : afterExit x < 0
    · have H2 : Hid (afterExit (podAt s (i : Int).toNat).1 < 0) := Lib.hid (by rw [HX.out]; exact h2)
      go_wp2_with fail
      refine (l10No_any 4 _).mono ?_
      rintro e w9 hR
      obtain ⟨v9, rfl, O9, K9⟩ := hR.back T0.A.K
      go_wp2
      all_goals (go_ret2; rw [← HANS.out, toldD, if_neg H1.out, if_pos H2.out]; exact ⟨v9, rfl, O9, K9⟩)
    · have H2 : Hid (¬ afterExit (podAt s (i : Int).toNat).1 < 0) := Lib.hid (by rw [HX.out]; exact h2)
      go_wp2_with fail
      refine (l10One_any 2 i (afterExit x) _).mono ?_
      rintro e w9 hR
      obtain ⟨v9, rfl, O9, K9⟩ := hR.back T0.A.K
      go_wp2
      all_goals (go_ret2; rw [← HANS.out, toldD, if_neg H1.out, if_neg (by have := H2.out; omega), HX.out]; exact ⟨v9, rfl, O9, K9⟩)

set_option maxRecDepth 4000 in
set_option maxHeartbeats 4000000 in
theorem l10Busy_any (pv sv : Value) (d : PlanD) (s : StD) (a b : Int) (w : World) (hp : IsPlan w w.heap.size pv d) (hs : IsSt w w.heap.size sv s) (hok : StOk d s) :
    Calls Tryz.prog 118 #[pv, sv, .int .i64 a, .int .i64 b] w (RecsA w (busyD d s a b)) := by
  have HP := Lib.hid hp
  have HS := Lib.hid hs
  obtain ⟨⟨P0, P1, P2, P3, k0, k1, k2, k3, rfl, s0, s1, s2, s3⟩, b0, b1, b2, b3⟩ := hp
  obtain ⟨⟨A0, A1, A2, A3, c0, c1, c2, c3, rfl, t0, t1, t2, t3⟩, f0, f1, f2, f3⟩ := hs
  have S0 := Lib.hid s0
  have S1 := Lib.hid s1
  have S2 := Lib.hid s2
  have S3 := Lib.hid s3
  have R0 := Lib.hid t0
  have R1 := Lib.hid t1
  have R2 := Lib.hid t2
  have R3 := Lib.hid t3
  unfold maxLen at b0 b1 b2 b3 f0 f1 f2 f3
  clear s0 s1 s2 s3 t0 t1 t2 t3
  have T0 := Two.start w (planC P0 P1 P2 P3 d.n0 k0 d.n1 k1 d.n2 k2 d.n3 k3 d.l d.p d.t) (stC A0 A1 A2 A3 s.pods.length c0 s.mnts.length c1 s.devs.length c2 s.lks.length c3 s.ph s.co s.ck s.bo s.ba s.lb s.gd s.pr) 29 34
  have OK := Lib.hid hok
  clear hok
  obtain ⟨ans, hans⟩ : ∃ ans, busyD d s a b = ans := ⟨_, rfl⟩
  rw [hans]
  have HANS := Lib.hid hans
  clear hans
  have hC := T0.A.C
  have hD := T0.O.C
  go_enter Tryz.func118, Tryz.ntmps118
  go_wp2_with fail
  refine (in_any _ _ _ _).mono ?_
  rintro e w1 ⟨rfl, rfl⟩
  cases h1 : inB a 0 (d.n2 - 1)
  · have H1 := Lib.hid h1
    clear h1
    go_wp2_with fail
    refine (l10No_any 2 _).mono ?_
    rintro e w9 hR
    obtain ⟨v9, rfl, O9, K9⟩ := hR.back T0.A.K
    go_wp2
    all_goals (go_ret2; rw [← HANS.out, busyD, if_pos H1.out]; exact ⟨v9, rfl, O9, K9⟩)
  · obtain ⟨i, rfl, hi⟩ := index_nat (a := a) (n := d.n2) (by rw [h1]; decide)
    clear h1
    have H1 : Hid (¬ inB (i : Int) 0 (d.n2 - 1) = false) := Lib.hid (by rw [at_index hi]; decide)
    go_wp2_with fail
    refine (in_any _ _ _ _).mono ?_
    rintro e w1 ⟨rfl, rfl⟩
    cases h2 : inB b 1 5
    · have H2 := Lib.hid h2
      clear h2
      go_wp2_with fail
      refine (l10No_any 1 _).mono ?_
      rintro e w9 hR
      obtain ⟨v9, rfl, O9, K9⟩ := hR.back T0.A.K
      go_wp2
      all_goals (go_ret2; rw [← HANS.out, busyD, if_neg H1.out, if_pos H2.out]; exact ⟨v9, rfl, O9, K9⟩)
    · have H2 : Hid (¬ inB b 1 5 = false) := Lib.hid (by rw [h2]; decide)
      clear h2
      by_cases h3 : 4 ≤ s.ph
      · have H3 := Lib.hid h3
        go_wp2_with fail
        refine (l10No_any 3 _).mono ?_
        rintro e w9 hR
        obtain ⟨v9, rfl, O9, K9⟩ := hR.back T0.A.K
        go_wp2
        all_goals (go_ret2; rw [← HANS.out, busyD, if_neg H1.out, if_neg H2.out, if_pos H3.out]; exact ⟨v9, rfl, O9, K9⟩)
      · have H3 := Lib.hid h3
        have hlp : i < s.mnts.length := by rw [OK.out.nm]; exact hi
        obtain ⟨b', off', rfl, hb', hc⟩ := (R1.out.below T0.A.K (Nat.le_refl _)).cell hlp
        have p0 := (hc 0 (by decide)).trans (mntCs_at s.mnts (i := i) hlp).1
        have p1 := (hc 1 (by decide)).trans (mntCs_at s.mnts (i := i) hlp).2
        rw [Nat.add_zero] at p0
        clear hc
        have HX : Hid (mntAt s (i : Int).toNat = mntA s.mnts i) := Lib.hid (by rw [Int.toNat_natCast]; rfl)
        generalize mntA s.mnts i = q at p0 p1 HX
        obtain ⟨x, y⟩ := q
        dsimp only at p0 p1
        cases x
        · have H4 : Hid ((mntAt s (i : Int).toNat).1 = false ∨ (mntAt s (i : Int).toNat).2 ≠ 0) := Lib.hid (by rw [HX.out]; exact .inl rfl)
          go_wp2_with fail
          refine (l10No_any 4 _).mono ?_
          rintro e w9 hR
          obtain ⟨v9, rfl, O9, K9⟩ := hR.back T0.A.K
          go_wp2
          all_goals (go_ret2; rw [← HANS.out, busyD, if_neg H1.out, if_neg H2.out, if_neg (by have := H3.out; omega), if_pos H4.out]; exact ⟨v9, rfl, O9, K9⟩)
        · by_cases hy : y = 0
          · subst hy
            have H4 : Hid (¬ ((mntAt s (i : Int).toNat).1 = false ∨ (mntAt s (i : Int).toNat).2 ≠ 0)) := Lib.hid (by rw [HX.out]; simp)
            go_wp2_with fail
            refine (l10One_any 3 i b _).mono ?_
            rintro e w9 hR
            obtain ⟨v9, rfl, O9, K9⟩ := hR.back T0.A.K
            go_wp2
            all_goals (go_ret2; rw [← HANS.out, busyD, if_neg H1.out, if_neg H2.out, if_neg (by have := H3.out; omega), if_neg H4.out]; exact ⟨v9, rfl, O9, K9⟩)
          · have H4 : Hid ((mntAt s (i : Int).toNat).1 = false ∨ (mntAt s (i : Int).toNat).2 ≠ 0) := Lib.hid (by rw [HX.out]; exact .inr hy)
            go_wp2_with fail
            refine (l10No_any 4 _).mono ?_
            rintro e w9 hR
            obtain ⟨v9, rfl, O9, K9⟩ := hR.back T0.A.K
            go_wp2
            all_goals (go_ret2; rw [← HANS.out, busyD, if_neg H1.out, if_neg H2.out, if_neg (by have := H3.out; omega), if_pos H4.out]; exact ⟨v9, rfl, O9, K9⟩)

set_option maxRecDepth 4000 in
set_option maxHeartbeats 4000000 in
theorem l10Evict_any (pv sv : Value) (d : PlanD) (s : StD) (a : Int) (w : World) (hp : IsPlan w w.heap.size pv d) (hs : IsSt w w.heap.size sv s) (hok : StOk d s) :
    Calls Tryz.prog 113 #[pv, sv, .int .i64 a] w (RecsA w (evictD d s a)) := by
  have HP := Lib.hid hp
  have HS := Lib.hid hs
  obtain ⟨⟨P0, P1, P2, P3, k0, k1, k2, k3, rfl, s0, s1, s2, s3⟩, b0, b1, b2, b3⟩ := hp
  obtain ⟨⟨A0, A1, A2, A3, c0, c1, c2, c3, rfl, t0, t1, t2, t3⟩, f0, f1, f2, f3⟩ := hs
  have S0 := Lib.hid s0
  have S1 := Lib.hid s1
  have S2 := Lib.hid s2
  have S3 := Lib.hid s3
  have R0 := Lib.hid t0
  have R1 := Lib.hid t1
  have R2 := Lib.hid t2
  have R3 := Lib.hid t3
  unfold maxLen at b0 b1 b2 b3 f0 f1 f2 f3
  clear s0 s1 s2 s3 t0 t1 t2 t3
  have T0 := Two.start w (planC P0 P1 P2 P3 d.n0 k0 d.n1 k1 d.n2 k2 d.n3 k3 d.l d.p d.t) (stC A0 A1 A2 A3 s.pods.length c0 s.mnts.length c1 s.devs.length c2 s.lks.length c3 s.ph s.co s.ck s.bo s.ba s.lb s.gd s.pr) 29 34
  have OK := Lib.hid hok
  clear hok
  obtain ⟨ans, hans⟩ : ∃ ans, evictD d s a = ans := ⟨_, rfl⟩
  rw [hans]
  have HANS := Lib.hid hans
  clear hans
  have hC := T0.A.C
  have hD := T0.O.C
  go_enter Tryz.func113, Tryz.ntmps113
  go_wp2_with fail
  refine (in_any _ _ _ _).mono ?_
  rintro e w1 ⟨rfl, rfl⟩
  cases h1 : inB a 0 (d.n0 - 1)
  · have H1 := Lib.hid h1
    clear h1
    go_wp2_with fail
    refine (l10No_any 2 _).mono ?_
    rintro e w9 hR
    obtain ⟨v9, rfl, O9, K9⟩ := hR.back T0.A.K
    go_wp2
    all_goals (go_ret2; rw [← HANS.out, evictD, if_pos H1.out]; exact ⟨v9, rfl, O9, K9⟩)
  · obtain ⟨i, rfl, hi⟩ := index_nat (a := a) (n := d.n0) (by rw [h1]; decide)
    clear h1
    have H1 : Hid (¬ inB (i : Int) 0 (d.n0 - 1) = false) := Lib.hid (by rw [at_index hi]; decide)
    cases h2 : (s.ph != 2)
    case true =>
      have H2 : Hid (s.ph ≠ 2) := Lib.hid (by simpa using h2)
      go_wp2_with fail
      refine (l10No_any 3 _).mono ?_
      rintro e w9 hR
      obtain ⟨v9, rfl, O9, K9⟩ := hR.back T0.A.K
      go_wp2
      all_goals (go_ret2; rw [← HANS.out, evictD, if_neg H1.out, if_pos H2.out]; exact ⟨v9, rfl, O9, K9⟩)
    case false =>
      have H2 : Hid (¬ s.ph ≠ 2) := Lib.hid (by simpa using h2)
      have hlp : i < s.pods.length := by rw [OK.out.np]; exact hi
      obtain ⟨b', off', rfl, hb', hc⟩ := (R0.out.below T0.A.K (Nat.le_refl _)).cell hlp
      have p0 := (hc 0 (by decide)).trans (podCs_at s.pods (i := i) hlp).1
      rw [Nat.add_zero] at p0
      clear hc
      have HX : Hid ((podAt s (i : Int).toNat).1 = (podA s.pods i).1) := Lib.hid (by rw [Int.toNat_natCast]; rfl)
      generalize (podA s.pods i).1 = x at p0 HX
      by_cases hx : x = 0
      · subst hx
        have H3 : Hid (¬ (podAt s (i : Int).toNat).1 ≠ 0) := Lib.hid (by rw [HX.out]; simp)
        go_wp2_with fail
        refine (mayEvict_any _ _ d s _ _ ((HP.out.below T0.A.K (Nat.le_refl _)).more T0.A.K.size) ((HS.out.below T0.A.K (Nat.le_refl _)).more T0.A.K.size)).mono ?_
        have HM : Hid ((stOkB d s && mayEvictB d s i) = mayEvictB d s i) := Lib.hid (by rw [stOkB_iff.2 OK.out, Bool.true_and])
        rw [HM.out]
        rintro e w2 ⟨rfl, hb⟩
        have X2 := T0.A.step hb
        clear hb
        cases h4 : mayEvictB d s i
        · have H4 := Lib.hid h4
          clear h4
          go_wp2_with fail
          refine (l10No_any 5 _).mono ?_
          rintro e w9 hR
          obtain ⟨v9, rfl, O9, K9⟩ := hR.back X2.K
          go_wp2
          all_goals (go_ret2; rw [← HANS.out, evictD, if_neg H1.out, if_neg H2.out, if_neg H3.out, if_pos H4.out]; exact ⟨v9, rfl, O9, K9⟩)
        · have H4 : Hid (¬ mayEvictB d s i = false) := Lib.hid (by rw [h4]; decide)
          clear h4
          go_wp2_with fail
          refine (l10One_any 2 i 6 _).mono ?_
          rintro e w9 hR
          obtain ⟨v9, rfl, O9, K9⟩ := hR.back X2.K
          go_wp2
          all_goals (go_ret2; rw [← HANS.out, evictD, if_neg H1.out, if_neg H2.out, if_neg H3.out, if_neg H4.out]; exact ⟨v9, rfl, O9, K9⟩)
      · have H3 : Hid ((podAt s (i : Int).toNat).1 ≠ 0) := Lib.hid (by rw [HX.out]; exact hx)
        go_wp2_with fail
        refine (l10No_any 4 _).mono ?_
        rintro e w9 hR
        obtain ⟨v9, rfl, O9, K9⟩ := hR.back T0.A.K
        go_wp2
        all_goals (go_ret2; rw [← HANS.out, evictD, if_neg H1.out, if_neg H2.out, if_pos H3.out]; exact ⟨v9, rfl, O9, K9⟩)

end Go.Proofs.YtmgckdmglnmnnaaGreatDoor
