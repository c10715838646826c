/-
  The model's chapter 13.
-/
import Derived.Test.YtmgckdmglnmnnaaGreatDoorMZxWm
/- Wn -/
set_option linter.unusedVariables false
namespace Go.Proofs.YtmgckdmglnmnnaaGreatDoor
open Go.RowKit

def argsN (k : Int) : Int := if k = 3 ∨ k = 6 ∨ k = 7 ∨ k = 8 ∨ k = 9 ∨ k = 12 ∨ k = 13 then 1 else if k = 10 then 2 else 0
def orderOkB (k a b : Int) : Bool := inB k 1 13 && inB a 0 1000000 && inB b 0 1000000 && !(decide (argsN k < 1) && a != 0 || decide (argsN k < 2) && b != 0) && (k != 13 || decide (a ≤ 1))
def planD (d : PlanD) (s : StD) (k a b : Int) : List RecD × Int := if k = 11 then tickD d s else if k = 12 then bootD d s a else if k = 13 then probeD d s (a == 1) else commandD d s k a b
def plannedD (d : PlanD) (s : StD) (k a b : Int) : List RecD × Int := if stOkB d s && orderOkB k a b then planD d s k a b else noR 1
abbrev ordC (k a b : Int) : Array Value := #[.int .i64 k, .int .i64 a, .int .i64 b]

set_option maxHeartbeats 4000000 in
theorem l13Args_any (k : Int) (w : World) : Calls Tryz.prog 101 #[.int .i64 k] w fun e w' => e = .returned (.int .i64 (argsN k)) ∧ w = w' := by
  have HH : Hid (argsN k = if k = 3 ∨ k = 6 ∨ k = 7 ∨ k = 8 ∨ k = 9 ∨ k = 12 ∨ k = 13 then 1 else if k = 10 then 2 else 0) := Lib.hid rfl
  by_cases e3 : k = 3
  · subst e3
    go_enter Tryz.func101, Tryz.ntmps101
    go_wp2
    all_goals (go_ret; exact ⟨by rw [HH.out]; rfl, rfl⟩)
  · have E3 := Lib.hid e3
    by_cases e6 : k = 6
    · subst e6
      go_enter Tryz.func101, Tryz.ntmps101
      go_wp2
      all_goals (go_ret; exact ⟨by rw [HH.out]; rfl, rfl⟩)
    · have E6 := Lib.hid e6
      by_cases e7 : k = 7
      · subst e7
        go_enter Tryz.func101, Tryz.ntmps101
        go_wp2
        all_goals (go_ret; exact ⟨by rw [HH.out]; rfl, rfl⟩)
      · have E7 := Lib.hid e7
        by_cases e8 : k = 8
        · subst e8
          go_enter Tryz.func101, Tryz.ntmps101
          go_wp2
          all_goals (go_ret; exact ⟨by rw [HH.out]; rfl, rfl⟩)
        · have E8 := Lib.hid e8
          by_cases e9 : k = 9
          · subst e9
            go_enter Tryz.func101, Tryz.ntmps101
            go_wp2
            all_goals (go_ret; exact ⟨by rw [HH.out]; rfl, rfl⟩)
          · have E9 := Lib.hid e9
            by_cases e12 : k = 12
            · subst e12
              go_enter Tryz.func101, Tryz.ntmps101
              go_wp2
              all_goals (go_ret; exact ⟨by rw [HH.out]; rfl, rfl⟩)
            · have E12 := Lib.hid e12
              by_cases e13 : k = 13
              · subst e13
                go_enter Tryz.func101, Tryz.ntmps101
                go_wp2
                all_goals (go_ret; exact ⟨by rw [HH.out]; rfl, rfl⟩)
              · have E13 := Lib.hid e13
                by_cases e10 : k = 10
                · subst e10
                  go_enter Tryz.func101, Tryz.ntmps101
                  go_wp2
                  all_goals (go_ret; exact ⟨by rw [HH.out]; rfl, rfl⟩)
                · have E10 := Lib.hid e10
                  go_enter Tryz.func101, Tryz.ntmps101
                  go_wp2
                  all_goals (go_ret; exact ⟨by rw [HH.out]; simp [E3.out, E6.out, E7.out, E8.out, E9.out, E12.out, E13.out, E10.out], rfl⟩)
theorem argsN_cases (k : Int) : argsN k = 0 ∨ argsN k = 1 ∨ argsN k = 2 := by
  unfold argsN
  split
  · simp
  · split <;> simp
set_option maxRecDepth 4000 in
set_option maxHeartbeats 8000000 in
theorem orderOk_any (k a b : Int) (w : World) : Calls Tryz.prog 91 #[.agg (ordC k a b)] w fun e w' => e = .returned (.bool (orderOkB k a b)) ∧ Below w.heap.size w w' := by
  obtain ⟨ans, hans⟩ : ∃ ans, orderOkB k a b = ans := ⟨_, rfl⟩
  rw [hans]
  have hn := argsN_cases k
  unfold orderOkB at hans
  generalize hN : argsN k = n at hans hn
  have HN := Lib.hid hN
  have HANS := Lib.hid hans
  clear hans hN
  have K := (Below.refl w.heap.size w).alloc (Nat.le_refl _) (.cells (ordC k a b) 94)
  go_enter Tryz.func91, Tryz.ntmps91
  go_wp2_with fail
  refine (in_any _ _ _ _).mono ?_
  rintro e w1 ⟨rfl, rfl⟩
  cases h1 : inB k 1 13
  · have H1 := Lib.hid h1
    clear h1
    go_wp2
    all_goals (go_ret; exact ⟨ret_bool (by rw [← HANS.out, H1.out]; simp), K⟩)
  · have H1 := Lib.hid h1
    clear h1
    go_wp2_with fail
    refine (field_any_ _ _).mono ?_
    rintro e w1 ⟨rfl, rfl⟩
    cases h2 : inB a 0 1000000
    · have H2 := Lib.hid h2
      clear h2
      go_wp2
      all_goals (go_ret; exact ⟨ret_bool (by rw [← HANS.out, H2.out]; simp), K⟩)
    · have H2 := Lib.hid h2
      clear h2
      go_wp2_with fail
      refine (field_any_ _ _).mono ?_
      rintro e w1 ⟨rfl, rfl⟩
      cases h3 : inB b 0 1000000
      · have H3 := Lib.hid h3
        clear h3
        go_wp2
        all_goals (go_ret; exact ⟨ret_bool (by rw [← HANS.out, H3.out]; simp), K⟩)
      · have H3 := Lib.hid h3
        clear h3
        have HANS2 : Hid (ans = (!(decide (n < 1) && a != 0 || decide (n < 2) && b != 0) && (k != 13 || decide (a ≤ 1)))) := Lib.hid (by rw [← HANS.out, H1.out, H2.out, H3.out]; simp)
        clear HANS H1 H2 H3
        go_wp2_with fail
        refine (l13Args_any _ _).mono ?_
        rw [HN.out]
        rintro e w1 ⟨rfl, rfl⟩
        clear HN
        cases h13 : (k != 13)
        all_goals cases ha : (a != 0)
        all_goals cases hb : (b != 0)
        all_goals by_cases hle : a ≤ 1
        all_goals
          have G13 := Lib.hid h13
          have GA := Lib.hid ha
          have GB := Lib.hid hb
          have GL := Lib.hid hle
          rcases hn with rfl | rfl | rfl
        all_goals
          go_wp2
          all_goals (go_ret; exact ⟨ret_bool (by rw [HANS2.out, G13.out, GA.out, GB.out]; have := GL.out; simp; try omega), K⟩)

set_option maxRecDepth 4000 in
set_option maxHeartbeats 8000000 in
theorem l13Plan_any (pv sv : Value) (d : PlanD) (s : StD) (k a b : Int) (w : World) (hp : IsPlan w w.heap.size pv d) (hs : IsSt w w.heap.size sv s) (hok : StOk d s) :
    Calls Tryz.prog 92 #[pv, sv, .agg (ordC k a b)] w (RecsA w (planD d s k a b)) := by
  have HP := Lib.hid hp
  have HS := Lib.hid hs
  obtain ⟨⟨P0, P1, P2, P3, k0, k1, k2, k3, rfl, s0, s1, s2, s3⟩, b0, b1, b2, b3⟩ := hp
  obtain ⟨⟨A0, A1, A2, A3, c0, c1, c2, c3, rfl, t0, t1, t2, t3⟩, f0, f1, f2, f3⟩ := hs
  have S0 := Lib.hid s0
  have S1 := Lib.hid s1
  have S2 := Lib.hid s2
  have S3 := Lib.hid s3
  have R0 := Lib.hid t0
  have R1 := Lib.hid t1
  have R2 := Lib.hid t2
  have R3 := Lib.hid t3
  unfold maxLen at b0 b1 b2 b3 f0 f1 f2 f3
  clear s0 s1 s2 s3 t0 t1 t2 t3
  have T0 := TP.start w (planC P0 P1 P2 P3 d.n0 k0 d.n1 k1 d.n2 k2 d.n3 k3 d.l d.p d.t) (stC A0 A1 A2 A3 s.pods.length c0 s.mnts.length c1 s.devs.length c2 s.lks.length c3 s.ph s.co s.ck s.bo s.ba s.lb s.gd s.pr) (ordC k a b) 29 34 94
  have OKB := Lib.hid (stOkB_iff.2 hok)
  clear hok
  obtain ⟨ans, hans⟩ : ∃ ans, planD d s k a b = ans := ⟨_, rfl⟩
  rw [hans]
  have HANS := Lib.hid hans
  clear hans
  by_cases e11 : k = 11
  · subst e11
    go_enter Tryz.func92, Tryz.ntmps92
    go_wp2_with fail
    refine (tickRecs_any _ _ d s _ ((HP.out.below T0.A.K (Nat.le_refl _)).more T0.A.K.size) ((HS.out.below T0.A.K (Nat.le_refl _)).more T0.A.K.size)).mono ?_
    rw [if_pos OKB.out]
    rintro e w9 hR
    obtain ⟨v9, rfl, O9, K9⟩ := hR.back T0.A.K
    go_wp2
    all_goals (go_ret2; rw [← HANS.out, planD, if_pos rfl]; exact ⟨v9, rfl, O9, K9⟩)
  · have E11 := Lib.hid e11
    by_cases e12 : k = 12
    · subst e12
      go_enter Tryz.func92, Tryz.ntmps92
      go_wp2_with fail
      refine (bootRecs_any _ _ d s a _ ((HP.out.below T0.A.K (Nat.le_refl _)).more T0.A.K.size) ((HS.out.below T0.A.K (Nat.le_refl _)).more T0.A.K.size)).mono ?_
      rw [if_pos OKB.out]
      rintro e w9 hR
      obtain ⟨v9, rfl, O9, K9⟩ := hR.back T0.A.K
      go_wp2
      all_goals (go_ret2; rw [← HANS.out, planD, if_neg E11.out, if_pos rfl]; exact ⟨v9, rfl, O9, K9⟩)
    · have E12 := Lib.hid e12
      by_cases e13 : k = 13
      · subst e13
        go_enter Tryz.func92, Tryz.ntmps92
        go_wp2_with fail
        refine (probeRecs_any _ _ d s (a == 1) _ ((HP.out.below T0.A.K (Nat.le_refl _)).more T0.A.K.size) ((HS.out.below T0.A.K (Nat.le_refl _)).more T0.A.K.size)).mono ?_
        rw [if_pos OKB.out]
        rintro e w9 hR
        obtain ⟨v9, rfl, O9, K9⟩ := hR.back T0.A.K
        go_wp2
        all_goals (go_ret2; rw [← HANS.out, planD, if_neg E11.out, if_neg E12.out, if_pos rfl]; exact ⟨v9, rfl, O9, K9⟩)
      · have E13 := Lib.hid e13
        go_enter Tryz.func92, Tryz.ntmps92
        go_wp2_with fail
        refine (commanded_any _ _ d s k a b _ ((HP.out.below T0.A.K (Nat.le_refl _)).more T0.A.K.size) ((HS.out.below T0.A.K (Nat.le_refl _)).more T0.A.K.size)).mono ?_
        rw [if_pos OKB.out]
        rintro e w9 hR
        obtain ⟨v9, rfl, O9, K9⟩ := hR.back T0.A.K
        go_wp2
        all_goals (go_ret2; rw [← HANS.out, planD, if_neg E11.out, if_neg E12.out, if_neg E13.out]; exact ⟨v9, rfl, O9, K9⟩)

set_option maxRecDepth 4000 in
set_option maxHeartbeats 8000000 in
theorem planned_any (pv sv : Value) (d : PlanD) (s : StD) (k a b : Int) (w : World) (hp : IsPlan w w.heap.size pv d) (hs : IsSt w w.heap.size sv s) :
    Calls Tryz.prog 82 #[pv, sv, .agg (ordC k a b)] w (RecsA w (plannedD d s k a b)) := by
  have HP := Lib.hid hp
  have HS := Lib.hid hs
  obtain ⟨⟨P0, P1, P2, P3, k0, k1, k2, k3, rfl, s0, s1, s2, s3⟩, b0, b1, b2, b3⟩ := hp
  obtain ⟨⟨A0, A1, A2, A3, c0, c1, c2, c3, rfl, t0, t1, t2, t3⟩, f0, f1, f2, f3⟩ := hs
  have S0 := Lib.hid s0
  have S1 := Lib.hid s1
  have S2 := Lib.hid s2
  have S3 := Lib.hid s3
  have R0 := Lib.hid t0
  have R1 := Lib.hid t1
  have R2 := Lib.hid t2
  have R3 := Lib.hid t3
  unfold maxLen at b0 b1 b2 b3 f0 f1 f2 f3
  clear s0 s1 s2 s3 t0 t1 t2 t3
  have T0 := TP.start w (planC P0 P1 P2 P3 d.n0 k0 d.n1 k1 d.n2 k2 d.n3 k3 d.l d.p d.t) (stC A0 A1 A2 A3 s.pods.length c0 s.mnts.length c1 s.devs.length c2 s.lks.length c3 s.ph s.co s.ck s.bo s.ba s.lb s.gd s.pr) (ordC k a b) 29 34 94
  obtain ⟨ans, hans⟩ : ∃ ans, plannedD d s k a b = ans := ⟨_, rfl⟩
  rw [hans]
  have HANS := Lib.hid hans
  clear hans
  go_enter Tryz.func82, Tryz.ntmps82
  go_wp2_with fail
  refine (specStateOk_any _ _ d s _ ((HP.out.below T0.A.K (Nat.le_refl _)).more T0.A.K.size) ((HS.out.below T0.A.K (Nat.le_refl _)).more T0.A.K.size)).mono ?_
  rintro e w1 ⟨rfl, hb⟩
  have T1 := T0.step hb
  have hC := T1.A.C
  have hD := T1.Z.C
  have hE := T1.O.C
  clear hb T0
  cases hok : stOkB d s
  · have H := Lib.hid hok
    clear hok
    go_wp2_with fail
    refine (l10No_any 1 _).mono ?_
    rintro e w9 hR
    obtain ⟨v9, rfl, O9, K9⟩ := hR.back T1.A.K
    go_wp2
    all_goals (go_ret2; rw [← HANS.out, plannedD, H.out, Bool.false_and, if_neg (by decide)]; exact ⟨v9, rfl, O9, K9⟩)
  · have OK := Lib.hid (stOkB_iff.1 hok)
    have H := Lib.hid hok
    clear hok
    go_wp2_with fail
    refine (orderOk_any k a b _).mono ?_
    rintro e w2 ⟨rfl, hb⟩
    have T2 := T1.step hb
    clear hb T1 hC hD hE
    have hC := T2.A.C
    have hD := T2.Z.C
    have hE := T2.O.C
    cases ho : orderOkB k a b
    · have HO := Lib.hid ho
      clear ho
      go_wp2_with fail
      refine (l10No_any 1 _).mono ?_
      rintro e w9 hR
      obtain ⟨v9, rfl, O9, K9⟩ := hR.back T2.A.K
      go_wp2
      all_goals (go_ret2; rw [← HANS.out, plannedD, HO.out, Bool.and_false, if_neg (by decide)]; exact ⟨v9, rfl, O9, K9⟩)
    · have HO := Lib.hid ho
      clear ho
      go_wp2_with fail
      refine (l13Plan_any _ _ d s k a b _ ((HP.out.below T2.A.K (Nat.le_refl _)).more T2.A.K.size) ((HS.out.below T2.A.K (Nat.le_refl _)).more T2.A.K.size) OK.out).mono ?_
      rintro e w9 hR
      obtain ⟨v9, rfl, O9, K9⟩ := hR.back T2.A.K
      go_wp2
      all_goals (go_ret2; rw [← HANS.out, plannedD, H.out, HO.out, Bool.true_and, if_pos rfl]; exact ⟨v9, rfl, O9, K9⟩)

end Go.Proofs.YtmgckdmglnmnnaaGreatDoor
