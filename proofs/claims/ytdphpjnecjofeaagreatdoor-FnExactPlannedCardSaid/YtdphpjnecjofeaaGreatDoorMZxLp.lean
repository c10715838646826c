/-
  Chapter 13 of the program: Planned.
-/
import Derived.Test.YtdphpjnecjofeaaGreatDoorMZxLa
import Derived.Test.YtdphpjnecjofeaaGreatDoorMZxId
import Derived.Test.YtdphpjnecjofeaaGreatDoorMZxOc
import Derived.Test.YtdphpjnecjofeaaGreatDoorMZxJi
import Derived.Test.YtdphpjnecjofeaaGreatDoorMZ20
/- Lp -/
set_option linter.unusedVariables false
namespace Go.Proofs.YtdphpjnecjofeaaGreatDoor
open Go.RowKit

theorem assert_00 (v : Value) (w : World) : (Instr.typeAssert (.iface 128 v) 125 128 true).run Tryz.prog w = .ok (.tuple #[v, .bool true]) w := by kernel_rfl
theorem assert_10 (v : Value) (w : World) : (Instr.typeAssert (.iface 130 v) 125 128 true).run Tryz.prog w = .ok (.tuple #[.agg #[.int .i64 0, .int .i64 0, .int .i64 0], .bool false]) w := by kernel_rfl
theorem assert_11 (v : Value) (w : World) : (Instr.typeAssert (.iface 130 v) 125 130 true).run Tryz.prog w = .ok (.tuple #[v, .bool true]) w := by kernel_rfl
theorem assert_20 (v : Value) (w : World) : (Instr.typeAssert (.iface 132 v) 125 128 true).run Tryz.prog w = .ok (.tuple #[.agg #[.int .i64 0, .int .i64 0, .int .i64 0], .bool false]) w := by kernel_rfl
theorem assert_21 (v : Value) (w : World) : (Instr.typeAssert (.iface 132 v) 125 130 true).run Tryz.prog w = .ok (.tuple #[.agg #[], .bool false]) w := by kernel_rfl
theorem assert_22 (v : Value) (w : World) : (Instr.typeAssert (.iface 132 v) 125 132 true).run Tryz.prog w = .ok (.tuple #[v, .bool true]) w := by kernel_rfl
theorem assert_30 (v : Value) (w : World) : (Instr.typeAssert (.iface 134 v) 125 128 true).run Tryz.prog w = .ok (.tuple #[.agg #[.int .i64 0, .int .i64 0, .int .i64 0], .bool false]) w := by kernel_rfl
theorem assert_31 (v : Value) (w : World) : (Instr.typeAssert (.iface 134 v) 125 130 true).run Tryz.prog w = .ok (.tuple #[.agg #[], .bool false]) w := by kernel_rfl
theorem assert_32 (v : Value) (w : World) : (Instr.typeAssert (.iface 134 v) 125 132 true).run Tryz.prog w = .ok (.tuple #[.agg #[.int .i64 0], .bool false]) w := by kernel_rfl
theorem assert_33 (v : Value) (w : World) : (Instr.typeAssert (.iface 134 v) 125 134 true).run Tryz.prog w = .ok (.tuple #[v, .bool true]) w := by kernel_rfl

set_option maxRecDepth 4000 in
set_option maxHeartbeats 8000000 in
theorem implPlanned_any (K O P S B : Addr) (pv sv : Value) (d : PlanD) (s : StD) (k a b : Int) (w : World) (hp : IsPlan w w.heap.size pv d) (hs : IsSt w w.heap.size sv s) (hE : Errs w K O P S B) :
    Calls Tryz.prog 30 #[pv, sv, .agg (ordC k a b)] w (RecsA w (plannedD d s k a b)) := by
  have HP := Lib.hid hp
  have HS := Lib.hid hs
  have HE := Lib.hid hE
  obtain ⟨⟨P0, P1, P2, P3, k0, k1, k2, k3, rfl, -, -, -, -⟩, b0, b1, b2, b3⟩ := hp
  obtain ⟨⟨A0, A1, A2, A3, c0, c1, c2, c3, rfl, -, -, -, -⟩, f0, f1, f2, f3⟩ := hs
  clear b0 b1 b2 b3 f0 f1 f2 f3 hE
  have T0 := TP.start w (planC P0 P1 P2 P3 d.n0 k0 d.n1 k1 d.n2 k2 d.n3 k3 d.l d.p d.t) (stC A0 A1 A2 A3 s.pods.length c0 s.mnts.length c1 s.devs.length c2 s.lks.length c3 s.ph s.co s.ck s.bo s.ba s.lb s.gd s.pr) (ordC k a b) 47 40 70
  obtain ⟨ans, hans⟩ : ∃ ans, plannedD d s k a b = ans := ⟨_, rfl⟩
  rw [hans]
  have HANS := Lib.hid hans
  clear hans
  go_enter Tryz.func30, Tryz.ntmps30
  go_wp2_with fail
  refine (implOrderOk_any k a b _).mono ?_
  rintro e w1 ⟨rfl, hb⟩
  have T1 := T0.step hb
  have hC := T1.A.C
  have hD := T1.Z.C
  have hE := T1.O.C
  clear hb T0
  cases ho : orderOkB k a b
  · have HO := Lib.hid ho
    clear ho
    have O9 : OR (w1.alloc (.cells #[] 50)) w.heap.size (.slice (some ⟨w1.heap.size, 0, none⟩) 0 0) [] := OR.empty T1.A.K.size
    have HO9 := Lib.hid O9
    have K9 := T1.A.K.alloc T1.A.K.size (.cells #[] 50)
    clear O9
    go_wp2
    all_goals (go_ret2; rw [← HANS.out, plannedD, HO.out, Bool.and_false, if_neg (by decide)]; exact ⟨_, rfl, HO9.out, K9⟩)
  · have HO := Lib.hid ho
    clear ho
    go_wp2_with fail
    refine (eventOf_any k a b _).mono ?_
    rintro e w2 ⟨v, hv, rfl, hb⟩
    have T2 := T1.step hb
    clear hb T1 hC hD hE
    cases v with
    | none =>
      exfalso
      cases hv with
      | n h =>
        have := HO.out
        have h0 : inB k 1 13 = false := by simp [inB]; omega
        simp [orderOkB, h0] at this
    | cmd x y z =>
      obtain ⟨hk, hq⟩ := evOf_ok hv (by simp)
      dsimp only [evO] at hk hq
      rw [HO.out] at hq
      simp only [Bool.true_eq, Bool.and_eq_true, beq_iff_eq] at hq
      obtain ⟨-, hy, hz⟩ := hq
      have HP2 : Hid (ans = if stOkB d s then commandD d s k a b else noR 1) := Lib.hid (by
        rw [← HANS.out, plannedD, HO.out, Bool.and_true]
        have h11 : k ≠ 11 ∧ k ≠ 12 ∧ k ≠ 13 := by
          cases hv <;> omega
        rw [planD, if_neg h11.1, if_neg h11.2.1, if_neg h11.2.2])
      subst hk hy hz
      clear hv HANS HO
      have a0 := fun v w => assert_00 v w
      unfold evV
      dsimp only
      go_upto_region 5 with fail
      have X := Own.box2 T2.A.K (ordC x y z) 128
      have T3 := T2.step ((Below.refl _ _).alloc (Nat.le_refl _) (.cells (ordC x y z) 128))
      generalize w2.alloc (.cells (ordC x y z) 128) = w3 at X T3 ⊢
      generalize w2.heap.size = g at X ⊢
      have hC := T3.A.C
      have hD := T3.Z.C
      have hX := X.C
      go_wp2_with fail
      have hall := implCommanded_any K O P S B _ _ d s x y z _ ((HP.out.below T3.A.K (Nat.le_refl _)).more T3.A.K.size) ((HS.out.below T3.A.K (Nat.le_refl _)).more T3.A.K.size) (HE.out.below T3.A.K)
      rw [← HP2.out] at hall
      refine hall.mono ?_
      clear hall hC hD hX
      rintro e w9 hR
      obtain ⟨v9, rfl, O9, K9⟩ := hR.back T3.A.K
      go_wp2
      all_goals (go_ret2; exact ⟨v9, rfl, O9, K9⟩)
    | tick =>
      obtain ⟨hk, hq⟩ := evOf_ok hv (by simp)
      dsimp only [evO] at hk hq
      rw [HO.out] at hq
      simp only [Bool.true_eq, Bool.and_eq_true, beq_iff_eq] at hq
      obtain ⟨-, hy, hz⟩ := hq
      have HP2 : Hid (ans = if stOkB d s then tickD d s else noR 1) := Lib.hid (by
        rw [← HANS.out, plannedD, HO.out, Bool.and_true]
        rw [planD, if_pos hk.symm])
      clear hk hy hz
      clear hv HANS HO
      have a0 := fun v w => assert_10 v w
      have a1 := fun v w => assert_11 v w
      unfold evV
      dsimp only
      go_upto_region 8 with fail
      have X := Own.box2 T2.A.K (#[]) 130
      have T3 := T2.step ((Below.refl _ _).alloc (Nat.le_refl _) (.cells (#[]) 130))
      generalize w2.alloc (.cells (#[]) 130) = w3 at X T3 ⊢
      generalize w2.heap.size = g at X ⊢
      have hC := T3.A.C
      have hD := T3.Z.C
      have hX := X.C
      go_wp2_with fail
      have hall := implTickRecs_any _ _ d s _ ((HP.out.below T3.A.K (Nat.le_refl _)).more T3.A.K.size) ((HS.out.below T3.A.K (Nat.le_refl _)).more T3.A.K.size)
      rw [← HP2.out] at hall
      refine hall.mono ?_
      clear hall hC hD hX
      rintro e w9 hR
      obtain ⟨v9, rfl, O9, K9⟩ := hR.back T3.A.K
      go_wp2
      all_goals (go_ret2; exact ⟨v9, rfl, O9, K9⟩)
    | boot x =>
      obtain ⟨hk, hq⟩ := evOf_ok hv (by simp)
      dsimp only [evO] at hk hq
      rw [HO.out] at hq
      simp only [Bool.true_eq, Bool.and_eq_true, beq_iff_eq] at hq
      obtain ⟨-, hy, hz⟩ := hq
      have HP2 : Hid (ans = if stOkB d s then bootD d s x else noR 1) := Lib.hid (by
        rw [← HANS.out, plannedD, HO.out, Bool.and_true]
        subst hy
        rw [planD, if_neg (show ¬ k = 11 by omega), if_pos hk.symm])
      clear hk hy hz
      clear hv HANS HO
      have a0 := fun v w => assert_20 v w
      have a1 := fun v w => assert_21 v w
      have a2 := fun v w => assert_22 v w
      unfold evV
      dsimp only
      go_upto_region 11 with fail
      have X := Own.box2 T2.A.K (#[.int .i64 x]) 132
      have T3 := T2.step ((Below.refl _ _).alloc (Nat.le_refl _) (.cells (#[.int .i64 x]) 132))
      generalize w2.alloc (.cells (#[.int .i64 x]) 132) = w3 at X T3 ⊢
      generalize w2.heap.size = g at X ⊢
      have hC := T3.A.C
      have hD := T3.Z.C
      have hX := X.C
      go_wp2_with fail
      have hall := implBootRecs_any _ _ d s x _ ((HP.out.below T3.A.K (Nat.le_refl _)).more T3.A.K.size) ((HS.out.below T3.A.K (Nat.le_refl _)).more T3.A.K.size)
      rw [← HP2.out] at hall
      refine hall.mono ?_
      clear hall hC hD hX
      rintro e w9 hR
      obtain ⟨v9, rfl, O9, K9⟩ := hR.back T3.A.K
      go_wp2
      all_goals (go_ret2; exact ⟨v9, rfl, O9, K9⟩)
    | probe b_g =>
      obtain ⟨hk, hq⟩ := evOf_ok hv (by simp)
      dsimp only [evO] at hk hq
      rw [HO.out] at hq
      simp only [Bool.true_eq, Bool.and_eq_true, beq_iff_eq] at hq
      obtain ⟨-, hy, hz⟩ := hq
      have HP2 : Hid (ans = if stOkB d s then probeD d s b_g else noR 1) := Lib.hid (by
        rw [← HANS.out, plannedD, HO.out, Bool.and_true]
        have hg : (a == 1) = b_g := by
          rw [← hy]
          cases b_g <;> rfl
        rw [planD, if_neg (show ¬ k = 11 by omega), if_neg (show ¬ k = 12 by omega), if_pos hk.symm, hg])
      clear hk hy hz
      clear hv HANS HO
      have a0 := fun v w => assert_30 v w
      have a1 := fun v w => assert_31 v w
      have a2 := fun v w => assert_32 v w
      have a3 := fun v w => assert_33 v w
      unfold evV
      dsimp only
      go_upto_region 14 with fail
      have X := Own.box2 T2.A.K (#[.bool b_g]) 134
      have T3 := T2.step ((Below.refl _ _).alloc (Nat.le_refl _) (.cells (#[.bool b_g]) 134))
      generalize w2.alloc (.cells (#[.bool b_g]) 134) = w3 at X T3 ⊢
      generalize w2.heap.size = g at X ⊢
      have hC := T3.A.C
      have hD := T3.Z.C
      have hX := X.C
      go_wp2_with fail
      have hall := implProbeRecs_any _ _ d s b_g _ ((HP.out.below T3.A.K (Nat.le_refl _)).more T3.A.K.size) ((HS.out.below T3.A.K (Nat.le_refl _)).more T3.A.K.size)
      rw [← HP2.out] at hall
      refine hall.mono ?_
      clear hall hC hD hX
      rintro e w9 hR
      obtain ⟨v9, rfl, O9, K9⟩ := hR.back T3.A.K
      go_wp2
      all_goals (go_ret2; exact ⟨v9, rfl, O9, K9⟩)
theorem planned_len (d : PlanD) (s : StD) (k a b : Int) : (plannedD d s k a b).1.length ≤ 1000 := by
  unfold plannedD
  split
  · rename_i e
    rw [Bool.and_eq_true] at e
    unfold planD
    split
    · have := tick_len1 d s
      rwa [if_pos e.1] at this
    · split
      · have := boot_len1 d s a
        rwa [if_pos e.1] at this
      · split
        · have := probe_len1 d s (a == 1)
          rwa [if_pos e.1] at this
        · have := cmd_len d s k a b
          rwa [if_pos e.1] at this
  · simp [noR]
end Go.Proofs.YtdphpjnecjofeaaGreatDoor
