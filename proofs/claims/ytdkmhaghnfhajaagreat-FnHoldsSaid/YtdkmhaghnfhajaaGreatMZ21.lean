/-
  PROVED: FnHoldsSaid: at every input that can be read the law answers true: on a drawn plan with nobody alive, as long as a mount is held there is one that MayFree allows, it is held and none that lies in it is, till all are given back, and then every device may be; MayFree and MayGive answer as their models at a drawn plan, state and number; the input is as it was. Conditions: none beside the form's own.
-/
import Derived.Test.YtdkmhaghnfhajaaGreatMZ8
import Derived.Test.YtdkmhaghnfhajaaGreatMZxVbS
import Derived.Test.YtdkmhaghnfhajaaGreatMZxVc
import Derived.Test.YtdkmhaghnfhajaaGreatMZ16
import Derived.Test.YtdkmhaghnfhajaaGreatMZ3
import Derived.Deep.DeepCutAuto
import Derived.Test.YtdkmhaghnfhajaaGreatMZ15
import Derived.Test.YtdkmhaghnfhajaaGreatMZxDm
import Derived.Test.YtdkmhaghnfhajaaGreatMZ0
import Derived.Test.YtdkmhaghnfhajaaGreatMZ2
import Derived.Test.YtdkmhaghnfhajaaGreatMZxPt
import Derived.Test.YtdkmhaghnfhajaaGreatMZxUo
/- Ha -/
set_option linter.unusedVariables false
namespace Go.Proofs.YtdkmhaghnfhajaaGreat
open Go.RowKit

def mayFreeB (d : PlanD) (s : StD) (a : Int) : Bool := inB a 0 (d.n2 - 1) && freeB d s a.toNat
def mayGiveB (d : PlanD) (s : StD) (a : Int) : Bool := inB a 0 (d.n3 - 1) && giveB d s a.toNat

set_option maxRecDepth 4000 in
set_option maxHeartbeats 4000000 in
theorem mayFree_any (pv sv : Value) (d : PlanD) (s : StD) (a : Int) (w : World) (hp : IsPlan w w.heap.size pv d) (hs : IsSt w w.heap.size sv s) :
    Calls Tryz.prog 34 #[pv, sv, .int .i64 a] w fun e w' => e = .returned (.bool (stOkB d s && mayFreeB d s a)) ∧ Below w.heap.size w w' := by
  have HP := Lib.hid hp
  have HS := Lib.hid hs
  obtain ⟨⟨P0, P1, P2, P3, k0, k1, k2, k3, rfl, s0, s1, s2, s3⟩, b0, b1, b2, b3⟩ := hp
  obtain ⟨⟨A0, A1, A2, A3, c0, c1, c2, c3, rfl, t0, t1, t2, t3⟩, f0, f1, f2, f3⟩ := hs
  have S0 := Lib.hid s0
  have S1 := Lib.hid s1
  have S2 := Lib.hid s2
  have S3 := Lib.hid s3
  have R0 := Lib.hid t0
  have R1 := Lib.hid t1
  have R2 := Lib.hid t2
  have R3 := Lib.hid t3
  unfold maxLen at b0 b1 b2 b3 f0 f1 f2 f3
  clear s0 s1 s2 s3 t0 t1 t2 t3
  have T0 := Two.start w (planC P0 P1 P2 P3 d.n0 k0 d.n1 k1 d.n2 k2 d.n3 k3 d.l d.p d.t) (stC A0 A1 A2 A3 s.pods.length c0 s.mnts.length c1 s.devs.length c2 s.lks.length c3 s.ph s.co s.ck s.bo s.ba s.lb s.gd s.pr) 29 38
  obtain ⟨ans, hans⟩ : ∃ ans, (stOkB d s && mayFreeB d s a) = ans := ⟨_, rfl⟩
  rw [hans]
  have HANS := Lib.hid hans
  clear hans
  go_enter Tryz.func34, Tryz.ntmps34
  go_wp2_with fail
  refine (specStateOk_any _ _ d s _ ((HP.out.below T0.A.K (Nat.le_refl _)).more T0.A.K.size) ((HS.out.below T0.A.K (Nat.le_refl _)).more T0.A.K.size)).mono ?_
  rintro e w1 ⟨rfl, hb⟩
  have T1 := T0.step hb
  have hC := T1.A.C
  have hD := T1.O.C
  clear hb T0
  cases hok : stOkB d s
  · have OKB := Lib.hid hok
    clear hok
    go_wp2
    all_goals (go_ret; exact ⟨ret_bool (by rw [← HANS.out, OKB.out]; rfl), T1.A.K⟩)
  · have OK := Lib.hid (stOkB_iff.1 hok)
    have OKB := Lib.hid hok
    clear hok
    go_wp2_with fail
    refine (in_any _ _ _ _).mono ?_
    rintro e w2 ⟨rfl, rfl⟩
    cases hin : inB a 0 (d.n2 - 1)
    · have HIN := Lib.hid hin
      clear hin
      go_wp2
      all_goals (go_ret; exact ⟨ret_bool (by rw [← HANS.out, OKB.out]; simp [mayFreeB, HIN.out]), T1.A.K⟩)
    · have HIN := Lib.hid hin
      obtain ⟨i, rfl, hi⟩ := index_nat (a := a) (n := d.n2) (by rw [hin]; decide)
      clear hin
      go_wp2_with fail
      refine (l9Free_any _ _ d s i _ ((HP.out.below T1.A.K (Nat.le_refl _)).more T1.A.K.size) ((HS.out.below T1.A.K (Nat.le_refl _)).more T1.A.K.size) OK.out hi).mono ?_
      rintro e w3 ⟨rfl, hb3⟩
      have T3 := T1.step hb3
      have HANS2 : Hid (ans = freeB d s i) := Lib.hid (by rw [← HANS.out, OKB.out]; simp [mayFreeB, HIN.out])
      clear hb3 T1 hC hD
      generalize freeB d s i = y at HANS2 ⊢
      go_wp2
      all_goals (go_ret; exact ⟨ret_bool (by rw [HANS2.out]), T3.A.K⟩)

set_option maxRecDepth 4000 in
set_option maxHeartbeats 4000000 in
theorem mayGive_any (pv sv : Value) (d : PlanD) (s : StD) (a : Int) (w : World) (hp : IsPlan w w.heap.size pv d) (hs : IsSt w w.heap.size sv s) :
    Calls Tryz.prog 35 #[pv, sv, .int .i64 a] w fun e w' => e = .returned (.bool (stOkB d s && mayGiveB d s a)) ∧ Below w.heap.size w w' := by
  have HP := Lib.hid hp
  have HS := Lib.hid hs
  obtain ⟨⟨P0, P1, P2, P3, k0, k1, k2, k3, rfl, s0, s1, s2, s3⟩, b0, b1, b2, b3⟩ := hp
  obtain ⟨⟨A0, A1, A2, A3, c0, c1, c2, c3, rfl, t0, t1, t2, t3⟩, f0, f1, f2, f3⟩ := hs
  have S0 := Lib.hid s0
  have S1 := Lib.hid s1
  have S2 := Lib.hid s2
  have S3 := Lib.hid s3
  have R0 := Lib.hid t0
  have R1 := Lib.hid t1
  have R2 := Lib.hid t2
  have R3 := Lib.hid t3
  unfold maxLen at b0 b1 b2 b3 f0 f1 f2 f3
  clear s0 s1 s2 s3 t0 t1 t2 t3
  have T0 := Two.start w (planC P0 P1 P2 P3 d.n0 k0 d.n1 k1 d.n2 k2 d.n3 k3 d.l d.p d.t) (stC A0 A1 A2 A3 s.pods.length c0 s.mnts.length c1 s.devs.length c2 s.lks.length c3 s.ph s.co s.ck s.bo s.ba s.lb s.gd s.pr) 29 38
  obtain ⟨ans, hans⟩ : ∃ ans, (stOkB d s && mayGiveB d s a) = ans := ⟨_, rfl⟩
  rw [hans]
  have HANS := Lib.hid hans
  clear hans
  go_enter Tryz.func35, Tryz.ntmps35
  go_wp2_with fail
  refine (specStateOk_any _ _ d s _ ((HP.out.below T0.A.K (Nat.le_refl _)).more T0.A.K.size) ((HS.out.below T0.A.K (Nat.le_refl _)).more T0.A.K.size)).mono ?_
  rintro e w1 ⟨rfl, hb⟩
  have T1 := T0.step hb
  have hC := T1.A.C
  have hD := T1.O.C
  clear hb T0
  cases hok : stOkB d s
  · have OKB := Lib.hid hok
    clear hok
    go_wp2
    all_goals (go_ret; exact ⟨ret_bool (by rw [← HANS.out, OKB.out]; rfl), T1.A.K⟩)
  · have OK := Lib.hid (stOkB_iff.1 hok)
    have OKB := Lib.hid hok
    clear hok
    go_wp2_with fail
    refine (in_any _ _ _ _).mono ?_
    rintro e w2 ⟨rfl, rfl⟩
    cases hin : inB a 0 (d.n3 - 1)
    · have HIN := Lib.hid hin
      clear hin
      go_wp2
      all_goals (go_ret; exact ⟨ret_bool (by rw [← HANS.out, OKB.out]; simp [mayGiveB, HIN.out]), T1.A.K⟩)
    · have HIN := Lib.hid hin
      obtain ⟨i, rfl, hi⟩ := index_nat (a := a) (n := d.n3) (by rw [hin]; decide)
      clear hin
      go_wp2_with fail
      refine (l9Give_any _ _ d s i _ ((HP.out.below T1.A.K (Nat.le_refl _)).more T1.A.K.size) ((HS.out.below T1.A.K (Nat.le_refl _)).more T1.A.K.size) OK.out hi).mono ?_
      rintro e w3 ⟨rfl, hb3⟩
      have T3 := T1.step hb3
      have HANS2 : Hid (ans = giveB d s i) := Lib.hid (by rw [← HANS.out, OKB.out]; simp [mayGiveB, HIN.out])
      clear hb3 T1 hC hD
      generalize giveB d s i = y at HANS2 ⊢
      go_wp2
      all_goals (go_ret; exact ⟨ret_bool (by rw [HANS2.out]), T3.A.K⟩)

set_option maxRecDepth 100000 in
set_option maxHeartbeats 4000000 in
theorem implMayGive_any (pv sv : Value) (d : PlanD) (s : StD) (a : Int) (w : World) (hp : IsPlan w w.heap.size pv d) (hs : IsSt w w.heap.size sv s) :
    Calls Tryz.prog 31 #[pv, sv, .int .i64 a] w fun e w' => e = .returned (.bool (stOkB d s && mayGiveB d s a)) ∧ Below w.heap.size w w' := by
  have HP := Lib.hid hp
  have HS := Lib.hid hs
  obtain ⟨⟨P0, P1, P2, P3, k0, k1, k2, k3, rfl, s0, s1, s2, s3⟩, b0, b1, b2, b3⟩ := hp
  obtain ⟨⟨A0, A1, A2, A3, c0, c1, c2, c3, rfl, t0, t1, t2, t3⟩, f0, f1, f2, f3⟩ := hs
  have S0 := Lib.hid s0
  have S1 := Lib.hid s1
  have S2 := Lib.hid s2
  have S3 := Lib.hid s3
  have R0 := Lib.hid t0
  have R1 := Lib.hid t1
  have R2 := Lib.hid t2
  have R3 := Lib.hid t3
  unfold maxLen at b0 b1 b2 b3 f0 f1 f2 f3
  clear s0 s1 s2 s3 t0 t1 t2 t3
  have T0 := Two.start w (planC P0 P1 P2 P3 d.n0 k0 d.n1 k1 d.n2 k2 d.n3 k3 d.l d.p d.t) (stC A0 A1 A2 A3 s.pods.length c0 s.mnts.length c1 s.devs.length c2 s.lks.length c3 s.ph s.co s.ck s.bo s.ba s.lb s.gd s.pr) 29 38
  obtain ⟨ans, hans⟩ : ∃ ans, (stOkB d s && mayGiveB d s a) = ans := ⟨_, rfl⟩
  rw [hans]
  have HANS := Lib.hid hans
  clear hans
  go_enter Tryz.func31, Tryz.ntmps31
  go_wp2_with fail
  refine (implStateOk_any _ _ d s _ ((HP.out.below T0.A.K (Nat.le_refl _)).more T0.A.K.size) ((HS.out.below T0.A.K (Nat.le_refl _)).more T0.A.K.size)).mono ?_
  rintro e w1 ⟨rfl, hb⟩
  have T1 := T0.step hb
  have hC := T1.A.C
  have hD := T1.O.C
  clear hb T0
  cases hok : stOkB d s
  · have OKB := Lib.hid hok
    clear hok
    go_wp2
    all_goals (go_ret; exact ⟨ret_bool (by rw [← HANS.out, OKB.out]; rfl), T1.A.K⟩)
  · have OK := Lib.hid (stOkB_iff.1 hok)
    have OKB := Lib.hid hok
    clear hok
    go_wp2_with fail
    refine (isIndex_any _ _ _).mono ?_
    rintro e w2 ⟨rfl, rfl⟩
    cases hin : inB a 0 (d.n3 - 1)
    · have HIN := Lib.hid hin
      clear hin
      go_wp2
      all_goals (go_ret; exact ⟨ret_bool (by rw [← HANS.out, OKB.out]; simp [mayGiveB, HIN.out]), T1.A.K⟩)
    · have HIN := Lib.hid hin
      obtain ⟨i, rfl, hi⟩ := index_nat (a := a) (n := d.n3) (by rw [hin]; decide)
      clear hin
      have hld : i < s.devs.length := by rw [OK.out.nd]; exact hi
      obtain ⟨m, hm, hml, hmp⟩ := dev_mnt OK.out.plan hi
      have hlm : m < s.mnts.length := by rw [OK.out.nm]; exact hml
      obtain ⟨b, off, rfl, hb, q0⟩ := (S3.out.own T1.A).cell1 hi
      obtain ⟨b', off', rfl, hb', hc⟩ := (R2.out.below T1.A.K (Nat.le_refl _)).cell hld
      have p0 := (hc 0 (by decide)).trans (devCs_at s.devs (i := i * 1 + 0) (by omega))
      rw [Nat.add_zero, Nat.mul_one] at p0
      obtain ⟨b2_, off2, rfl, hb2, hc2⟩ := (R1.out.below T1.A.K (Nat.le_refl _)).cell hlm
      have r0 := (hc2 0 (by decide)).trans (mntCs_at s.mnts hlm).1
      rw [Nat.add_zero] at r0
      clear hc hc2
      rw [hm] at q0
      have GB : Hid (giveB d s i = (devA s.devs i && !(mntA s.mnts m).1)) := Lib.hid (by unfold giveB; rw [hmp]; rfl)
      have HANS2 : Hid (ans = giveB d s i) := Lib.hid (by rw [← HANS.out, OKB.out]; simp [mayGiveB, HIN.out])
      generalize giveB d s i = g at GB HANS2
      generalize devA s.devs i = x at p0 GB
      generalize (mntA s.mnts m).1 = y at r0 GB
      clear hm hmp
      cases x
      · go_wp2
        all_goals (go_ret; exact ⟨ret_bool (by rw [HANS2.out, GB.out]; rfl), (T1.A).K⟩)
      · go_wp2_with fail
        go_quiet (fail)
        go_wp2
        all_goals (go_ret; exact ⟨ret_bool (by rw [HANS2.out, GB.out]; simp), (T1.A.drewN _).K⟩)

set_option maxRecDepth 100000 in
set_option maxHeartbeats 4000000 in
theorem implChildHeld_any (pv sv : Value) (d : PlanD) (s : StD) (i : Nat) (w : World) (hp : IsPlan w w.heap.size pv d) (hs : IsSt w w.heap.size sv s) (hok : StOk d s) :
    Calls Tryz.prog 62 #[pv, sv, .int .i64 i] w fun e w' => e = .returned (.bool (!(List.range d.n2).all (kidB d s i))) ∧ Below w.heap.size w w' := by
  have HP := Lib.hid hp
  have HS := Lib.hid hs
  obtain ⟨⟨P0, P1, P2, P3, k0, k1, k2, k3, rfl, s0, s1, s2, s3⟩, b0, b1, b2, b3⟩ := hp
  obtain ⟨⟨A0, A1, A2, A3, c0, c1, c2, c3, rfl, t0, t1, t2, t3⟩, f0, f1, f2, f3⟩ := hs
  have S0 := Lib.hid s0
  have S1 := Lib.hid s1
  have S2 := Lib.hid s2
  have S3 := Lib.hid s3
  have R0 := Lib.hid t0
  have R1 := Lib.hid t1
  have R2 := Lib.hid t2
  have R3 := Lib.hid t3
  unfold maxLen at b0 b1 b2 b3 f0 f1 f2 f3
  clear s0 s1 s2 s3 t0 t1 t2 t3
  have T0 := Two.start w (planC P0 P1 P2 P3 d.n0 k0 d.n1 k1 d.n2 k2 d.n3 k3 d.l d.p d.t) (stC A0 A1 A2 A3 s.pods.length c0 s.mnts.length c1 s.devs.length c2 s.lks.length c3 s.ph s.co s.ck s.bo s.ba s.lb s.gd s.pr) 29 38
  have HLN := Lib.hid hok.nm
  obtain ⟨ans, hans⟩ : ∃ ans, (List.range d.n2).all (kidB d s i) = ans := ⟨_, rfl⟩
  rw [hans]
  have HANS := Lib.hid hans
  clear hans hok
  have hC := T0.A.C
  have hD := T0.O.C
  go_enter Tryz.func62, Tryz.ntmps62
  go_wp2
  go_step3
  go_wp2
  go_step3
  go_wp2_with fail
  go_loopw [7, 13] (fun h j wr => h = .bool false ∧ ∃ k : Nat, k ≤ d.n2 ∧ j = .int .i64 k ∧ (∀ j, j < k → kidB d s i j = true) ∧ Two w wr (planC P0 P1 P2 P3 d.n0 k0 d.n1 k1 d.n2 k2 d.n3 k3 d.l d.p d.t) (stC A0 A1 A2 A3 s.pods.length c0 s.mnts.length c1 s.devs.length c2 s.lks.length c3 s.ph s.co s.ck s.bo s.ba s.lb s.gd s.pr)) (fun _ j _ => d.n2 - (intOf j).toNat)
  case atStart => exact ⟨rfl, 0, Nat.zero_le _, rfl, fun j hj => absurd hj (by omega), T0⟩
  case round =>
    clear hC hD T0
    obtain ⟨rfl, k, hk, rfl, hall, T⟩ := hrel
    have HALL := Lib.hid hall
    clear hall
    have hC := T.A.C
    have hD := T.O.C
    by_cases hlt : k < d.n2
    · have hlp : k < s.mnts.length := by rw [HLN.out]; exact hlt
      obtain ⟨b3_, off3, rfl, hb3, q0, q1⟩ := (S2.out.own T.A).cell2 hlt
      obtain ⟨b4_, off4, rfl, hb4, hc⟩ := (R1.out.below T.A.K (Nat.le_refl _)).cell hlp
      have r0 := (hc 0 (by decide)).trans (mntCs_at s.mnts (i := k) hlp).1
      rw [Nat.add_zero] at r0
      clear hc
      have KB : Hid (kidB d s i k = !(decide (d.x2 (k * 2 + 1) = i) && (mntA s.mnts k).1)) := Lib.hid rfl
      have HFALSE : Hid (kidB d s i k = false → ans = false) := Lib.hid fun h => by rw [← HANS.out, all_not hlt h]
      have HSTEP : Hid (kidB d s i k = true → ∀ j, j < k + 1 → kidB d s i j = true) := Lib.hid fun h => step_all HALL.out h
      have hz := T.A.z
      have hz' := T.O.z
      have hb4' : b4_ < wr.heap.size := Nat.lt_of_lt_of_le hb4 T.A.K.size
      generalize kidB d s i k = kb at KB HFALSE HSTEP
      generalize (mntA s.mnts k).1 = z at r0 KB
      generalize d.x2 (k * 2) = p at q0
      cases hv : (d.x2 (k * 2 + 1) != (i : Int))
      · cases z
        · have CF : Hid (kb = true) := Lib.hid (by rw [KB.out]; simp)
          clear KB HFALSE
          go_wp2
          refine ⟨⟨rfl, k + 1, by omega, by go_num, HSTEP.out CF.out, T.step ((Below.refl _ _).alloc (Nat.le_refl _) _)⟩, by simp [intOf]; omega⟩
        · have CF : Hid (kb = false) := Lib.hid (by rw [KB.out]; simp at hv; simp [hv])
          clear KB HSTEP
          go_wp2
          all_goals (first | rw [Exit.noGoto_ret] | skip); all_goals (go_ret; exact ⟨ret_bool (by rw [HFALSE.out CF.out]; rfl), (T.step ((Below.refl _ _).alloc (Nat.le_refl _) _)).A.K⟩)
      · have CF : Hid (kb = true) := Lib.hid (by rw [KB.out]; simp at hv; simp [hv])
        clear KB HFALSE
        go_wp2
        refine ⟨⟨rfl, k + 1, by omega, by go_num, HSTEP.out CF.out, T.step ((Below.refl _ _).alloc (Nat.le_refl _) _)⟩, by simp [intOf]; omega⟩
    · obtain rfl : k = d.n2 := by omega
      go_wp2
      all_goals (first | rw [Exit.noGoto_ret] | skip); all_goals (go_ret; exact ⟨ret_bool (by rw [← HANS.out, all_yes HALL.out]; rfl), T.A.K⟩)

set_option maxRecDepth 100000 in
set_option maxHeartbeats 4000000 in
theorem implMayFree_any (pv sv : Value) (d : PlanD) (s : StD) (a : Int) (w : World) (hp : IsPlan w w.heap.size pv d) (hs : IsSt w w.heap.size sv s) :
    Calls Tryz.prog 30 #[pv, sv, .int .i64 a] w fun e w' => e = .returned (.bool (stOkB d s && mayFreeB d s a)) ∧ Below w.heap.size w w' := by
  have HP := Lib.hid hp
  have HS := Lib.hid hs
  obtain ⟨⟨P0, P1, P2, P3, k0, k1, k2, k3, rfl, s0, s1, s2, s3⟩, b0, b1, b2, b3⟩ := hp
  obtain ⟨⟨A0, A1, A2, A3, c0, c1, c2, c3, rfl, t0, t1, t2, t3⟩, f0, f1, f2, f3⟩ := hs
  have S0 := Lib.hid s0
  have S1 := Lib.hid s1
  have S2 := Lib.hid s2
  have S3 := Lib.hid s3
  have R0 := Lib.hid t0
  have R1 := Lib.hid t1
  have R2 := Lib.hid t2
  have R3 := Lib.hid t3
  unfold maxLen at b0 b1 b2 b3 f0 f1 f2 f3
  clear s0 s1 s2 s3 t0 t1 t2 t3
  have T0 := Two.start w (planC P0 P1 P2 P3 d.n0 k0 d.n1 k1 d.n2 k2 d.n3 k3 d.l d.p d.t) (stC A0 A1 A2 A3 s.pods.length c0 s.mnts.length c1 s.devs.length c2 s.lks.length c3 s.ph s.co s.ck s.bo s.ba s.lb s.gd s.pr) 29 38
  obtain ⟨ans, hans⟩ : ∃ ans, (stOkB d s && mayFreeB d s a) = ans := ⟨_, rfl⟩
  rw [hans]
  have HANS := Lib.hid hans
  clear hans
  go_enter Tryz.func30, Tryz.ntmps30
  go_wp2_with fail
  refine (implStateOk_any _ _ d s _ ((HP.out.below T0.A.K (Nat.le_refl _)).more T0.A.K.size) ((HS.out.below T0.A.K (Nat.le_refl _)).more T0.A.K.size)).mono ?_
  rintro e w1 ⟨rfl, hb⟩
  have T1 := T0.step hb
  have hC := T1.A.C
  have hD := T1.O.C
  clear hb T0
  cases hok : stOkB d s
  · have OKB := Lib.hid hok
    clear hok
    go_wp2
    all_goals (go_ret; exact ⟨ret_bool (by rw [← HANS.out, OKB.out]; rfl), T1.A.K⟩)
  · have OK := Lib.hid (stOkB_iff.1 hok)
    have OKB := Lib.hid hok
    clear hok
    go_wp2_with fail
    refine (isIndex_any _ _ _).mono ?_
    rintro e w2 ⟨rfl, rfl⟩
    cases hin : inB a 0 (d.n2 - 1)
    · have HIN := Lib.hid hin
      clear hin
      go_wp2
      all_goals (go_ret; exact ⟨ret_bool (by rw [← HANS.out, OKB.out]; simp [mayFreeB, HIN.out]), T1.A.K⟩)
    · have HIN := Lib.hid hin
      obtain ⟨i, rfl, hi⟩ := index_nat (a := a) (n := d.n2) (by rw [hin]; decide)
      clear hin
      have HLN := Lib.hid OK.out.nm
      obtain ⟨m, hm, hml, hmp⟩ := mount_pod OK.out.plan hi
      have hlm : m < s.pods.length := by rw [OK.out.np]; exact hml
      obtain ⟨b, off, rfl, hb, q0, -⟩ := (S2.out.own T1.A).cell2 hi
      obtain ⟨b', off', rfl, hb', hc⟩ := (R1.out.below T1.A.K (Nat.le_refl _)).cell (i := i) (by rw [HLN.out]; exact hi)
      have p0 := (hc 0 (by decide)).trans (mntCs_at s.mnts (i := i) (by rw [HLN.out]; exact hi)).1
      obtain ⟨b2_, off2, rfl, hb2, hc2⟩ := (R0.out.below T1.A.K (Nat.le_refl _)).cell hlm
      have r0 := (hc2 0 (by decide)).trans (podCs_at s.pods hlm).1
      have r1 := (hc2 1 (by decide)).trans (podCs_at s.pods hlm).2
      rw [Nat.add_zero] at r0 p0
      clear hc hc2
      rw [hm] at q0
      have GB : Hid (ans = ((mntA s.mnts i).1 && !aliveB (podA s.pods m).1 && (List.range d.n2).all (kidB d s i))) := Lib.hid (by
        rw [← HANS.out, OKB.out, mayFreeB, HIN.out, Int.toNat_natCast]; unfold freeB; rw [hmp]; rfl)
      have hlti : i < s.mnts.length := by rw [HLN.out]; exact hi
      generalize hX : (mntA s.mnts i).1 = x at p0 GB
      generalize podA s.pods m = y at r0 r1 GB
      obtain ⟨y, z⟩ := y
      dsimp only at r0 r1 GB
      clear hX hm hmp HANS
      cases x
      · go_wp2
        all_goals (go_ret; exact ⟨ret_bool (by rw [GB.out]; rfl), T1.A.K⟩)
      · go_upto_region 3 with fail
        have hz := T1.A.z
        have hz' := T1.O.z
        have hzb : b < w1.heap.size := hb
        have hzb2 : b2_ < w1.heap.size := Nat.lt_of_lt_of_le hb2 T1.A.K.size
        go_cut [7] (fun s7 wx => ∃ g, s7 = .pointer (some ⟨g, 0, none⟩) ∧ wx.heap[g]? = some (.cells #[.int .i64 y, .int .i64 z] 67) ∧ Below w1.heap.size w1 wx)
        case first =>
          go_region
          all_goals (go_wp2_with fail; go_meet)
          all_goals
            apply Exists.intro
            refine ⟨rfl, ?h3, ?hb⟩
            case h3 => repeat (first | exact alloc_here (by simp) | refine (alloc_there (by simp <;> omega)).trans ?_)
            case hb => repeat (first | exact Below.refl _ _ | refine Below.drew ?_ | refine Below.alloc ?_ (by simp <;> omega) _)
        case rest =>
          obtain ⟨g, rfl, hg, Kx⟩ := hcut
          have T2 := T1.step Kx
          have XB : ∀ o, wc.cell? ⟨g, o, none⟩ = #[Value.int .i64 y, .int .i64 z][o]? := fun o => cell_of_row _ _ o _ _ _ hg
          clear T1 hC hD hz hz' q0 p0 r0 r1
          have hC := T2.A.C
          have hD := T2.O.C
          go_wp2_with fail
          refine (implAlive_any _ _).mono ?_
          rintro e w5 ⟨rfl, rfl⟩
          cases ha : aliveB y
          · have HAL := Lib.hid ha
            clear ha
            go_wp2_with fail
            refine (implChildHeld_any _ _ d s i _ ((HP.out.below T2.A.K (Nat.le_refl _)).more T2.A.K.size) ((HS.out.below T2.A.K (Nat.le_refl _)).more T2.A.K.size) OK.out).mono ?_
            rintro e w6 ⟨rfl, hb6⟩
            have T3 := T2.step hb6
            clear hb6 T2 hC hD
            generalize (List.range d.n2).all (kidB d s i) = u at GB ⊢
            go_wp2
            all_goals (go_ret; exact ⟨ret_bool (by rw [GB.out, HAL.out]; simp), T3.A.K⟩)
          · have HAL := Lib.hid ha
            clear ha
            go_wp2
            all_goals (go_ret; exact ⟨ret_bool (by rw [GB.out, HAL.out]; rfl), T2.A.K⟩)

end Go.Proofs.YtdkmhaghnfhajaaGreat
/- Hd -/
set_option linter.unusedVariables false
namespace Go.Proofs.YtdkmhaghnfhajaaGreat
open Go.RowKit

def GivesPSN (w : World) (e : Ending) (w' : World) : Prop :=
  ∃ v0 v1 v2 v3 d vs s k, e = .returned (.tuple #[.agg #[v0, v1, v2, v3, .int .i64 d.l, .int .i64 d.p, .int .i64 d.t], vs, .int .i64 k]) ∧ Lists w' w.heap.size v0 v1 v2 v3 d ∧ OwnSt w' w.heap.size vs s ∧ PlSmall d ∧ StSmall s ∧ Below w.heap.size w w'
theorem results_cells_num {P : Program} {fn : Func} {p q r : Tmp} {ty ty' : TypeId} (h : fn.results = #[.cell p ty, .cell q ty', .tmp r]) (tmps : Array Value) (w : World) (g g' : Nat) (t t' : TypeId) (cs cs' : Array Value) (fr fr' : Nat × Nat) (d d' : TypeDesc) (u : Value)
    (hp : tmps.getD p undef = .pointer (some ⟨g, 0, none⟩)) (hq : tmps.getD q undef = .pointer (some ⟨g', 0, none⟩)) (hr : tmps.getD r undef = u) (hg : w.heap[g]? = some (.cells cs t fr)) (hg' : w.heap[g']? = some (.cells cs' t' fr'))
    (hu : P.underlying ty = some d) (hd : (match d with | .struct _ | .array _ _ => true | _ => false) = true) (hi : (P.info? ty).map (·.size) = some cs.size)
    (hu' : P.underlying ty' = some d') (hd' : (match d' with | .struct _ | .array _ _ => true | _ => false) = true) (hi' : (P.info? ty').map (·.size) = some cs'.size) :
    (results fn tmps).run P w = .ok (.tuple #[.agg cs, .agg cs', u]) w := by
  have hp' : tmps[p]?.getD undef = .pointer (some ⟨g, 0, none⟩) := by simpa using hp
  have hq' : tmps[q]?.getD undef = .pointer (some ⟨g', 0, none⟩) := by simpa using hq
  have hr' : tmps[r]?.getD undef = u := by simpa using hr
  simp [results, h, hp', hq', hr', asAddr, run_loadVar_row w g t ty cs fr d hg hu hd hi, run_loadVar_row w g' t' ty' cs' fr' d' hg' hu' hd' hi']
/-- The numbers of a state beside its lists may be others. -/
theorem OwnSt.nums {w : World} {B : Nat} {v0 v1 v2 v3 : Value} {ph ck bo ba lb gd pr : Int} {co : Bool} {ps : List (Int × Int)} {ms : List (Bool × Int)} {ds : List Bool} {ls : List Int} (h : OwnSt w B (.agg #[.int .i64 ph, .bool co, .int .i64 ck, .int .i64 bo, .int .i64 ba, .int .i64 lb, v0, v1, v2, v3, .int .i64 gd, .int .i64 pr]) ⟨ph, co, ck, bo, ba, lb, ps, ms, ds, ls, gd, pr⟩)
    (ph' : Int) (co' : Bool) (ck' bo' ba' lb' gd' pr' : Int) : OwnSt w B (.agg #[.int .i64 ph', .bool co', .int .i64 ck', .int .i64 bo', .int .i64 ba', .int .i64 lb', v0, v1, v2, v3, .int .i64 gd', .int .i64 pr']) ⟨ph', co', ck', bo', ba', lb', ps, ms, ds, ls, gd', pr'⟩ := by
  obtain ⟨u0, u1, u2, u3, hy, z0, z1, z2, z3⟩ := h.it
  injection hy with hy
  have e0 : v0 = u0 := Option.some.inj (show some v0 = some u0 from congrArg (fun a : Array Value => a[6]?) hy)
  have e1 : v1 = u1 := Option.some.inj (show some v1 = some u1 from congrArg (fun a : Array Value => a[7]?) hy)
  have e2 : v2 = u2 := Option.some.inj (show some v2 = some u2 from congrArg (fun a : Array Value => a[8]?) hy)
  have e3 : v3 = u3 := Option.some.inj (show some v3 = some u3 from congrArg (fun a : Array Value => a[9]?) hy)
  subst e0 e1 e2 e3
  exact ⟨_, _, _, _, rfl, z0, z1, z2, z3⟩

theorem OwnSt.podRow {W : World} {B : Nat} {Y0 Y1 Y2 Y3 : Option Addr} {n0 f0 n1 f1 n2 f2 n3 f3 : Nat} {ph ck bo ba lb gd pr : Int} {co : Bool} {s : StD} (h : OwnSt W B (.agg (stC Y0 Y1 Y2 Y3 n0 f0 n1 f1 n2 f2 n3 f3 ph co ck bo ba lb gd pr)) s) {i : Nat} (hi : i < s.pods.length) :
    ∃ gr, Y0 = some ⟨gr, 0, none⟩ ∧ B ≤ gr ∧ gr < W.heap.size ∧ (∃ cs, W.heap[gr]? = some (.cells cs 67)) ∧ RowV W gr (podCs s.pods) := by
  obtain ⟨u0, u1, u2, u3, hy, z0, z1, z2, z3⟩ := h.it
  injection hy with hy
  obtain rfl : Value.slice Y0 n0 f0 = u0 := Option.some.inj (show some _ = some u0 from congrArg (fun a : Array Value => a[6]?) hy)
  obtain ⟨A, c, g, hv, hA, -, hBg, hgz, R, -, -⟩ := open_row z0
  injection hv with hv0 hv1 hv2
  obtain rfl := hA (by omega)
  subst hv0 hv1 hv2
  exact ⟨g, rfl, hBg, hgz (by omega), row_block z0, R⟩
theorem OwnSt.mntRow {W : World} {B : Nat} {Y0 Y1 Y2 Y3 : Option Addr} {n0 f0 n1 f1 n2 f2 n3 f3 : Nat} {ph ck bo ba lb gd pr : Int} {co : Bool} {s : StD} (h : OwnSt W B (.agg (stC Y0 Y1 Y2 Y3 n0 f0 n1 f1 n2 f2 n3 f3 ph co ck bo ba lb gd pr)) s) {i : Nat} (hi : i < s.mnts.length) :
    ∃ gr, Y1 = some ⟨gr, 0, none⟩ ∧ B ≤ gr ∧ gr < W.heap.size ∧ (∃ cs, W.heap[gr]? = some (.cells cs 46)) ∧ RowV W gr (mntCs s.mnts) := by
  obtain ⟨u0, u1, u2, u3, hy, z0, z1, z2, z3⟩ := h.it
  injection hy with hy
  obtain rfl : Value.slice Y1 n1 f1 = u1 := Option.some.inj (show some _ = some u1 from congrArg (fun a : Array Value => a[7]?) hy)
  obtain ⟨A, c, g, hv, hA, -, hBg, hgz, R, -, -⟩ := open_row z1
  injection hv with hv0 hv1 hv2
  obtain rfl := hA (by omega)
  subst hv0 hv1 hv2
  exact ⟨g, rfl, hBg, hgz (by omega), row_block z1, R⟩
theorem podCs_set1 (l : List (Int × Int)) {i : Nat} (hi : i < l.length) (r : Int) : podCs (l.set i (r, (podA l i).2)) = (podCs l).set (i * 2) (.int .i64 r) := by
  rw [podCs_set l hi]
  have h1 := (podCs_at l hi).2
  apply List.ext_getElem?
  intro j
  by_cases e : j = i * 2 + 1
  · subst e
    rw [List.getElem?_set_self (by rw [List.length_set, podCs_len]; omega), List.getElem?_set_ne (by omega), h1]
  · rw [List.getElem?_set_ne (by omega)]
theorem OwnSt.podSet {W : World} {B gr : Nat} {Y1 Y2 Y3 : Option Addr} {n0 f0 n1 f1 n2 f2 n3 f3 : Nat} {ph ck bo ba lb gd pr : Int} {co : Bool} {s : StD} (h : OwnSt W B (.agg (stC (some ⟨gr, 0, none⟩) Y1 Y2 Y3 n0 f0 n1 f1 n2 f2 n3 f3 ph co ck bo ba lb gd pr)) s) {i : Nat} (hi : i < s.pods.length) (r : Int) :
    OwnSt (W.setCell ⟨gr, i * 2, none⟩ (.int .i64 r)) B (.agg (stC (some ⟨gr, 0, none⟩) Y1 Y2 Y3 n0 f0 n1 f1 n2 f2 n3 f3 ph co ck bo ba lb gd pr)) ⟨s.ph, s.co, s.ck, s.bo, s.ba, s.lb, s.pods.set i (r, (podA s.pods i).2), s.mnts, s.devs, s.lks, s.gd, s.pr⟩ := by
  obtain ⟨u0, u1, u2, u3, hy, z0, z1, z2, z3⟩ := h.it
  have hy0 := hy
  injection hy with hy
  obtain rfl : Value.slice (some ⟨gr, 0, none⟩) n0 f0 = u0 := Option.some.inj (show some _ = some u0 from congrArg (fun a : Array Value => a[6]?) hy)
  have hnn : n0 = s.pods.length := by
    obtain ⟨A, c, g, hv, -⟩ := open_row z0
    injection hv
  subst hnn
  obtain ⟨cs, hgr⟩ := row_block z0
  have kk : Keeps (· = gr) W (W.setCell ⟨gr, i * 2, none⟩ (.int .i64 r)) := Keeps.set (S := (· = gr)) (Keeps.refl _ _) rfl _
  refine ⟨_, u1, u2, u3, hy0, ?_, ownsRow_keeps z1 kk (row_apart z1 hgr (by decide)), ownsRow_keeps z2 kk (row_apart z2 hgr (by decide)), ownsRow_keeps z3 kk (row_apart z3 hgr (by decide))⟩
  dsimp only
  rw [List.length_set, podCs_set1 _ hi]
  exact (World.ownsRow.stored z0 (i * 2) (.int .i64 r)).1
theorem OwnSt.mntSet {W : World} {B gr : Nat} {Y0 Y2 Y3 : Option Addr} {n0 f0 n1 f1 n2 f2 n3 f3 : Nat} {ph ck bo ba lb gd pr : Int} {co : Bool} {s : StD} (h : OwnSt W B (.agg (stC Y0 (some ⟨gr, 0, none⟩) Y2 Y3 n0 f0 n1 f1 n2 f2 n3 f3 ph co ck bo ba lb gd pr)) s) {i : Nat} (hi : i < s.mnts.length) :
    OwnSt ((W.setCell ⟨gr, i * 2, none⟩ (.bool false)).setCell ⟨gr, i * 2 + 1, none⟩ (.int .i64 0)) B (.agg (stC Y0 (some ⟨gr, 0, none⟩) Y2 Y3 n0 f0 n1 f1 n2 f2 n3 f3 ph co ck bo ba lb gd pr)) ⟨s.ph, s.co, s.ck, s.bo, s.ba, s.lb, s.pods, s.mnts.set i (false, 0), s.devs, s.lks, s.gd, s.pr⟩ := by
  obtain ⟨u0, u1, u2, u3, hy, z0, z1, z2, z3⟩ := h.it
  have hy0 := hy
  injection hy with hy
  obtain rfl : Value.slice (some ⟨gr, 0, none⟩) n1 f1 = u1 := Option.some.inj (show some _ = some u1 from congrArg (fun a : Array Value => a[7]?) hy)
  have hnn : n1 = s.mnts.length := by
    obtain ⟨A, c, g, hv, -⟩ := open_row z1
    injection hv
  subst hnn
  obtain ⟨cs, hgr⟩ := row_block z1
  have kk : Keeps (· = gr) W ((W.setCell ⟨gr, i * 2, none⟩ (.bool false)).setCell ⟨gr, i * 2 + 1, none⟩ (.int .i64 0)) := Keeps.set (S := (· = gr)) (Keeps.set (S := (· = gr)) (Keeps.refl _ _) rfl _) rfl _
  refine ⟨u0, _, u2, u3, hy0, ownsRow_keeps z0 kk (row_apart z0 hgr (by decide)), ?_, ownsRow_keeps z2 kk (row_apart z2 hgr (by decide)), ownsRow_keeps z3 kk (row_apart z3 hgr (by decide))⟩
  dsimp only
  rw [List.length_set, mntCs_set _ hi]
  exact (World.ownsRow.stored (World.ownsRow.stored z1 (i * 2) (.bool false)).1 (i * 2 + 1) (.int .i64 0)).1

set_option maxRecDepth 100000 in
set_option maxHeartbeats 8000000 in
theorem drawMayFree_any (A : Option Addr) (n c : Nat) (w : World) (hB : Bytes w w.heap.size A n) (hn : n ≤ 4096) : Calls Tryz.prog 32 #[.slice A n c] w (GivesPSN w) := by
  have HIP : Hid ((Tryz.prog.info? 29).map (·.size) = some 7) := Lib.hid (by kernel_rfl)
  have HIS : Hid ((Tryz.prog.info? 38).map (·.size) = some 12) := Lib.hid (by kernel_rfl)
  have b2 : ((w.alloc (.cells (planC none none none none 0 0 0 0 0 0 0 0 0 0 0) 29)).alloc (.cells (stC none none none none 0 0 0 0 0 0 0 0 0 false 0 0 0 0 0 0) 38)).heap[w.heap.size]? = some (.cells (planC none none none none 0 0 0 0 0 0 0 0 0 0 0) 29) := by
    have hb := (Below.refl (w.alloc (.cells (planC none none none none 0 0 0 0 0 0 0 0 0 0 0) 29)).heap.size (w.alloc (.cells (planC none none none none 0 0 0 0 0 0 0 0 0 0 0) 29))).alloc (Nat.le_refl _) (.cells (stC none none none none 0 0 0 0 0 0 0 0 0 false 0 0 0 0 0 0) 38)
    exact (hb.block w.heap.size (by simp)).trans (heap_alloc_new w _)
  have b3 := heap_alloc2_new w (.cells (planC none none none none 0 0 0 0 0 0 0 0 0 0 0) 29) (.cells (stC none none none none 0 0 0 0 0 0 0 0 0 false 0 0 0 0 0 0) 38)
  have KB : Below w.heap.size w ((w.alloc (.cells (planC none none none none 0 0 0 0 0 0 0 0 0 0 0) 29)).alloc (.cells (stC none none none none 0 0 0 0 0 0 0 0 0 false 0 0 0 0 0 0) 38)) := ((Below.refl _ _).alloc (Nat.le_refl _) _).alloc (by simp) _
  have HB := Lib.hid ((hB.below KB (Nat.le_refl _)).more KB.size)
  clear hB
  go_enter Tryz.func32, Tryz.ntmps32
  go_wp2_with fail
  generalize ((w.alloc (.cells (planC none none none none 0 0 0 0 0 0 0 0 0 0 0) 29)).alloc (.cells (stC none none none none 0 0 0 0 0 0 0 0 0 false 0 0 0 0 0 0) 38)) = w0 at b2 b3 KB HB ⊢
  refine (l1New_any A n c w0 HB.out hn).mono ?_
  rintro e w1 ⟨g, rfl, hg, hc1, K1⟩
  have hz3 := (Array.getElem?_eq_some_iff.1 b3).1
  replace b2 := (K1.block _ (Array.getElem?_eq_some_iff.1 b2).1).trans b2
  replace b3 := (K1.block _ (Array.getElem?_eq_some_iff.1 b3).1).trans b3
  replace KB := KB.trans (K1.mono KB.size)
  clear K1 HB
  go_wp2_with fail
  refine (l5DrawAny_any g w1 hc1).mono ?_
  rintro e w2 ⟨v0, v1, v2, v3, d, vs, s, rfl, Lp, Os, hd, hs, CU, hk⟩
  replace b2 := (hk.block _ (Array.getElem?_eq_some_iff.1 b2).1 (by show ¬ w.heap.size = g; omega)).trans b2
  replace b3 := (hk.block _ (Array.getElem?_eq_some_iff.1 b3).1 (by show ¬ w.heap.size + 1 = g; omega)).trans b3
  have hl2 : g < w2.heap.size := CU.lt
  have hz4 := (Array.getElem?_eq_some_iff.1 b3).1
  replace Lp := Lp.base KB.size
  have HG : ∀ r, rowsOf vs r → g < r := fun r hr => Nat.lt_of_lt_of_le hc1.lt (Os.blocks hr).1
  replace Os := Os.base KB.size
  replace KB := KB.trans (hk.below (B := w.heap.size) KB.size (by rintro b hb rfl; omega))
  clear hk hc1
  obtain ⟨y0, y1, y2, y3, rfl, -⟩ := Os.it
  obtain ⟨⟨Y0, f0, rfl⟩, ⟨Y1, f1, rfl⟩, ⟨Y2, f2, rfl⟩, ⟨Y3, f3, rfl⟩⟩ := Os.shapes
  obtain ⟨Q0, e0, rfl, -, -⟩ := Lp.o0.formR
  obtain ⟨Q1, e1, rfl, -, -⟩ := Lp.o1.formR
  obtain ⟨Q2, e2, rfl, -, -⟩ := Lp.o2.formR
  obtain ⟨Q3, e3, rfl, -, -⟩ := Lp.o3.formR
  have hA : Below w2.heap.size w2 ((w2.alloc (.cells (planC none none none none 0 0 0 0 0 0 0 0 0 0 0) 29)).alloc (.cells (stC none none none none 0 0 0 0 0 0 0 0 0 false 0 0 0 0 0 0) 38)) := ((Below.refl _ _).alloc (Nat.le_refl _) _).alloc (by simp) _
  have H6 : ((w2.alloc (.cells (planC none none none none 0 0 0 0 0 0 0 0 0 0 0) 29)).alloc (.cells (stC none none none none 0 0 0 0 0 0 0 0 0 false 0 0 0 0 0 0) 38)).heap[w2.heap.size]? = some (.cells (planC none none none none 0 0 0 0 0 0 0 0 0 0 0) 29) := by
    have hb := (Below.refl (w2.alloc (.cells (planC none none none none 0 0 0 0 0 0 0 0 0 0 0) 29)).heap.size (w2.alloc (.cells (planC none none none none 0 0 0 0 0 0 0 0 0 0 0) 29))).alloc (Nat.le_refl _) (.cells (stC none none none none 0 0 0 0 0 0 0 0 0 false 0 0 0 0 0 0) 38)
    exact (hb.block w2.heap.size (by simp)).trans (heap_alloc_new w2 _)
  have H7 := heap_alloc2_new w2 (.cells (planC none none none none 0 0 0 0 0 0 0 0 0 0 0) 29) (.cells (stC none none none none 0 0 0 0 0 0 0 0 0 false 0 0 0 0 0 0) 38)
  have H7' := (setRow_other ((w2.alloc (.cells (planC none none none none 0 0 0 0 0 0 0 0 0 0 0) 29)).alloc (.cells (stC none none none none 0 0 0 0 0 0 0 0 0 false 0 0 0 0 0 0) 38)) w2.heap.size _ (planC Q0 Q1 Q2 Q3 d.n0 e0 d.n1 e1 d.n2 e2 d.n3 e3 d.l d.p d.t) (Nat.succ_ne_self _)).trans H7
  go_upto_region 3 with (first
    | ((with_reducible refine store_plan (x := 6) (y := 14) (g := w2.heap.size) (cs := planC Q0 Q1 Q2 Q3 d.n0 e0 d.n1 e1 d.n2 e2 d.n3 e3 d.l d.p d.t) ?_ ?_ H6 ?_ ?_ ?_ ?_)
       · rfl
       · rfl
       · exact HIP.out
       · rfl
       · simp [Value.oneCell'])
    | ((with_reducible refine store_state (x := 7) (y := 15) (g := w2.heap.size + 1) (cs := stC Y0 Y1 Y2 Y3 s.pods.length f0 s.mnts.length f1 s.devs.length f2 s.lks.length f3 s.ph s.co s.ck s.bo s.ba s.lb s.gd s.pr) ?_ ?_ H7' ?_ ?_ ?_ ?_)
       · rfl
       · rfl
       · exact HIS.out
       · rfl
       · simp [Value.oneCell']))
  have h2w := KB.size
  have hw2 : w2.heap.size < w2.heap.size + 1 := Nat.lt_succ_self _
  have hA2 := below_setRow (below_setRow hA (Nat.le_refl _) (planC Q0 Q1 Q2 Q3 d.n0 e0 d.n1 e1 d.n2 e2 d.n3 e3 d.l d.p d.t)) (Nat.le_succ _) (stC Y0 Y1 Y2 Y3 s.pods.length f0 s.mnts.length f1 s.devs.length f2 s.lks.length f3 s.ph s.co s.ck s.bo s.ba s.lb s.gd s.pr)
  have G6 := (setRow_other (((w2.alloc (.cells (planC none none none none 0 0 0 0 0 0 0 0 0 0 0) 29)).alloc (.cells (stC none none none none 0 0 0 0 0 0 0 0 0 false 0 0 0 0 0 0) 38)).setRow w2.heap.size (planC Q0 Q1 Q2 Q3 d.n0 e0 d.n1 e1 d.n2 e2 d.n3 e3 d.l d.p d.t)) (w2.heap.size + 1) w2.heap.size (stC Y0 Y1 Y2 Y3 s.pods.length f0 s.mnts.length f1 s.devs.length f2 s.lks.length f3 s.ph s.co s.ck s.bo s.ba s.lb s.gd s.pr) (by omega)).trans (setRow_heap _ _ _ (planC Q0 Q1 Q2 Q3 d.n0 e0 d.n1 e1 d.n2 e2 d.n3 e3 d.l d.p d.t) _ _ H6)
  have G7 := setRow_heap (((w2.alloc (.cells (planC none none none none 0 0 0 0 0 0 0 0 0 0 0) 29)).alloc (.cells (stC none none none none 0 0 0 0 0 0 0 0 0 false 0 0 0 0 0 0) 38)).setRow w2.heap.size (planC Q0 Q1 Q2 Q3 d.n0 e0 d.n1 e1 d.n2 e2 d.n3 e3 d.l d.p d.t)) (w2.heap.size + 1) _ (stC Y0 Y1 Y2 Y3 s.pods.length f0 s.mnts.length f1 s.devs.length f2 s.lks.length f3 s.ph s.co s.ck s.bo s.ba s.lb s.gd s.pr) _ _ H7'
  clear H6 H7 H7' hA
  replace b2 := (hA2.block _ (Array.getElem?_eq_some_iff.1 b2).1).trans b2
  replace b3 := (hA2.block _ (Array.getElem?_eq_some_iff.1 b3).1).trans b3
  replace Lp := Lp.below hA2
  replace Os := Os.below hA2
  replace KB := KB.trans (hA2.mono KB.size)
  replace CU := CU.below hA2
  have hg2 : g < w2.heap.size := by assumption
  clear hA2 hw2
  generalize (((w2.alloc (.cells (planC none none none none 0 0 0 0 0 0 0 0 0 0 0) 29)).alloc (.cells (stC none none none none 0 0 0 0 0 0 0 0 0 false 0 0 0 0 0 0) 38)).setRow w2.heap.size (planC Q0 Q1 Q2 Q3 d.n0 e0 d.n1 e1 d.n2 e2 d.n3 e3 d.l d.p d.t)).setRow (w2.heap.size + 1) (stC Y0 Y1 Y2 Y3 s.pods.length f0 s.mnts.length f1 s.devs.length f2 s.lks.length f3 s.ph s.co s.ck s.bo s.ba s.lb s.gd s.pr) = w3 at b2 b3 G6 G7 Lp Os KB CU ⊢
  obtain ⟨R7, hR7⟩ : ∃ R, w2.heap.size + 1 = R := ⟨_, rfl⟩
  rw [hR7] at G7 ⊢
  generalize w2.heap.size = R6 at G6 hR7 hz4 hl2 hg2 h2w ⊢
  have H6 := G6
  have H7 := G7
  clear G6 G7
  obtain ⟨ph, co, ck, bo, ba, lb, ps, ms, ds, ls, gd, pr⟩ := s
  dsimp only at Os H7 hs ⊢
  have hs0 : ps.length ≤ 12 := hs.s0
  have hms : ps.length ≤ 12 := hs.s0
  have hms1 : ms.length ≤ 12 := hs.s1
  have hds1 : ds.length ≤ 12 := hs.s2
  have h7 : ∀ o, w3.cell? ⟨R7, o, none⟩ = (stC Y0 Y1 Y2 Y3 ps.length f0 ms.length f1 ds.length f2 ls.length f3 ph co ck bo ba lb gd pr)[o]? := fun o => cell_of_row _ _ o _ _ _ H7
  go_wp2_with fail
  go_loopw [8] (fun i wr => ∃ (k : Nat) (P : List (Int × Int)), P.length = ps.length ∧ k ≤ ps.length ∧ i = .int .i64 k ∧ Cur 112 .i64 wr g ∧ Below w.heap.size w wr ∧ Lists wr w.heap.size (.slice Q0 d.n0 e0) (.slice Q1 d.n1 e1) (.slice Q2 d.n2 e2) (.slice Q3 d.n3 e3) d ∧ OwnSt wr w.heap.size (.agg (stC Y0 Y1 Y2 Y3 ps.length f0 ms.length f1 ds.length f2 ls.length f3 ph co ck bo ba lb gd pr)) ⟨ph, co, ck, bo, ba, lb, P, ms, ds, ls, gd, pr⟩ ∧ wr.heap[w.heap.size]? = some (.cells (planC none none none none 0 0 0 0 0 0 0 0 0 0 0) 29) ∧ wr.heap[w.heap.size + 1]? = some (.cells (stC none none none none 0 0 0 0 0 0 0 0 0 false 0 0 0 0 0 0) 38) ∧ wr.heap[R6]? = some (.cells (planC Q0 Q1 Q2 Q3 d.n0 e0 d.n1 e1 d.n2 e2 d.n3 e3 d.l d.p d.t) 29) ∧ wr.heap[R7]? = some (.cells (stC Y0 Y1 Y2 Y3 ps.length f0 ms.length f1 ds.length f2 ls.length f3 ph co ck bo ba lb gd pr) 38)) (fun i _ => ps.length - (intOf i).toNat)
  case atStart => exact ⟨0, ps, rfl, Nat.zero_le _, rfl, CU, KB, Lp, Os, b2, b3, H6, H7⟩
  case round =>
    clear h7 CU KB b2 b3 H6 H7 Lp Os
    obtain ⟨k, P, hl, hk, rfl, CU, KB, Lp, Os, b2, b3, H6, H7⟩ := hrel
    have h7 : ∀ o, wr.cell? ⟨R7, o, none⟩ = (stC Y0 Y1 Y2 Y3 ps.length f0 ms.length f1 ds.length f2 ls.length f3 ph co ck bo ba lb gd pr)[o]? := fun o => cell_of_row _ _ o _ _ _ H7
    by_cases hlt : k < ps.length
    · go_wp2_with fail
      refine (l1Once_any g 2 wr CU (by omega) (by omega)).mono ?_
      rintro e w4 ⟨b, rfl, CU4, hk4⟩
      obtain ⟨gcs, hgc⟩ := CU.cells
      replace Lp := Lp.keeps hk4 hgc (by decide)
      replace Os := Os.keepsT hk4 hgc (by decide)
      replace b2 := (hk4.block _ (Array.getElem?_eq_some_iff.1 b2).1 (by show ¬ w.heap.size = g; omega)).trans b2
      replace b3 := (hk4.block _ (Array.getElem?_eq_some_iff.1 b3).1 (by show ¬ w.heap.size + 1 = g; omega)).trans b3
      replace H6 := (hk4.block _ (Array.getElem?_eq_some_iff.1 H6).1 (by show ¬ R6 = g; omega)).trans H6
      replace H7 := (hk4.block _ (Array.getElem?_eq_some_iff.1 H7).1 (by show ¬ R7 = g; omega)).trans H7
      replace KB := KB.trans (hk4.below (B := w.heap.size) KB.size (by rintro b hb rfl; omega))
      clear hk4 CU hgc h7
      have CU := CU4
      clear CU4
      have h7 : ∀ o, w4.cell? ⟨R7, o, none⟩ = (stC Y0 Y1 Y2 Y3 ps.length f0 ms.length f1 ds.length f2 ls.length f3 ph co ck bo ba lb gd pr)[o]? := fun o => cell_of_row _ _ o _ _ _ H7
      cases b
      · go_wp2_with fail
        exact ⟨⟨k + 1, P, hl, by omega, by go_num, CU, KB, Lp, Os, b2, b3, H6, H7⟩, by simp [intOf]; omega⟩
      · obtain ⟨gr, hY, hBg, hgz, ⟨rcs, hgr⟩, HR⟩ := Os.podRow (i := k) (by show k < P.length; omega)
        subst hY
        have q0 := (HR (k * 2) (by rw [podCs_len]; show _ < P.length * 2; omega)).1.trans (podCs_at P (i := k) (by omega)).1
        have hf0 := (HR (k * 2) (by rw [podCs_len]; show _ < P.length * 2; omega)).2
        have hx : k * 2 + 2 ≤ 24 := by omega
        go_wp2_with fail
        have kk : Keeps (· = gr) w4 (w4.setCell ⟨gr, k * 2, none⟩ (.int .i64 4)) := Keeps.set (S := (· = gr)) (Keeps.refl _ _) rfl _
        have n6 : ¬ R6 = gr := ne_types hgr H6 (by decide)
        have n7 : ¬ R7 = gr := ne_types hgr H7 (by decide)
        have n2 : ¬ w.heap.size = gr := ne_types hgr b2 (by decide)
        have n3 : ¬ w.heap.size + 1 = gr := ne_types hgr b3 (by decide)
        have OsX := Os.podSet (i := k) (by show k < P.length; omega) 4
        have x6 := (kk.block _ (Array.getElem?_eq_some_iff.1 H6).1 n6).trans H6
        have x7 := (kk.block _ (Array.getElem?_eq_some_iff.1 H7).1 n7).trans H7
        have x2 := (kk.block _ (Array.getElem?_eq_some_iff.1 b2).1 n2).trans b2
        have x3 := (kk.block _ (Array.getElem?_eq_some_iff.1 b3).1 n3).trans b3
        have hgg : g < gr := HG gr ⟨_, 6, _, rfl, rfl, rfl⟩
        have LpX := Lp.keeps kk hgr (by decide)
        have CUX := CU.keeps kk (fun b hb e => by omega)
        have KBX := KB.trans (kk.below (B := w.heap.size) KB.size (by rintro b hb rfl; omega))
        exact ⟨⟨k + 1, P.set k (4, (podA P k).2), by rw [List.length_set]; exact hl, by omega, by go_num, CUX, KBX, LpX, OsX, x2, x3, x6, x7⟩, by simp [intOf]; omega⟩
    · obtain rfl : k = ps.length := by omega
      go_upto_region 8 with fail
      clear h7 hk
      refine wp_region_noPanic ?_
      refine wp_region_held_drew (S := fun W => (∀ o, W.cell? ⟨R6, o, none⟩ = (planC Q0 Q1 Q2 Q3 d.n0 e0 d.n1 e1 d.n2 e2 d.n3 e3 d.l d.p d.t)[o]?) ∧ (∀ o, W.cell? ⟨R7, o, none⟩ = (stC Y0 Y1 Y2 Y3 ps.length f0 ms.length f1 ds.length f2 ls.length f3 ph co ck bo ba lb gd pr)[o]?)) (by kernel_rfl) (by rw [← heap_drew wr] at H6 H7; exact ⟨fun o => cell_of_row _ _ o _ _ _ H6, fun o => cell_of_row _ _ o _ _ _ H7⟩) (fun _ => ?_)
      rw [← heap_drew wr] at b2 b3 H6 H7
      replace Lp := Lp.below (Below.refl _ _).drew
      replace Os := Os.below (Below.refl _ _).drew
      replace KB := KB.drew
      replace CU := CU.below (Below.refl _ _).drew
      generalize wr.drew = v0 at KB b2 b3 H6 H7 Lp Os CU ⊢
      refine wpAnyH_take (i := 0) (v := ?_) rfl (by kernel_rfl) (by kernel_rfl) (by kernel_rfl) (fun _ _ _ h => h) (Or.inl ⟨by rfl, ?_⟩) ⟨fun o => cell_of_row _ _ o _ _ _ H6, fun o => cell_of_row _ _ o _ _ _ H7⟩ ?_
      rotate_left 1
      · intro w hSw
        obtain ⟨hs6, hs7⟩ := hSw
        go_simp
        try with_reducible rfl
      change wpAnyH _ _ _ _ _ _ _ (Act.put _ (some 30) _) _
      dsimp only [Act.put]
      refine wpAnyH_take (i := 1) (v := ?_) rfl (by kernel_rfl) (by kernel_rfl) (by kernel_rfl) (fun _ _ _ h => h) (Or.inl ⟨by rfl, ?_⟩) ⟨fun o => cell_of_row _ _ o _ _ _ H6, fun o => cell_of_row _ _ o _ _ _ H7⟩ ?_
      rotate_left 1
      · intro w hSw
        obtain ⟨hs6, hs7⟩ := hSw
        go_simp
        try with_reducible rfl
      change wpAnyH _ _ _ _ _ _ _ (Act.put _ (some 31) _) _
      dsimp only [Act.put]
      refine wpAnyH_take (i := 2) (v := ?_) rfl (by kernel_rfl) (by kernel_rfl) (by kernel_rfl) (fun _ _ _ h => h) (Or.inl ⟨by rfl, ?_⟩) ⟨fun o => cell_of_row _ _ o _ _ _ H6, fun o => cell_of_row _ _ o _ _ _ H7⟩ ?_
      rotate_left 1
      · intro w hSw
        obtain ⟨hs6, hs7⟩ := hSw
        go_simp
        try with_reducible rfl
      change wpAnyH _ _ _ _ _ _ _ (Act.put _ (some 32) _) _
      dsimp only [Act.put]
      refine wpAnyH_take (i := 3) (v := ?_) rfl (by kernel_rfl) (by kernel_rfl) (by kernel_rfl) (fun _ _ _ h => h) (Or.inl ⟨by rfl, ?_⟩) ⟨fun o => cell_of_row _ _ o _ _ _ H6, fun o => cell_of_row _ _ o _ _ _ H7⟩ ?_
      rotate_left 1
      · intro w hSw
        obtain ⟨hs6, hs7⟩ := hSw
        go_simp
        try with_reducible rfl
      change wpAnyH _ _ _ _ _ _ _ (Act.put _ (some 33) _) _
      dsimp only [Act.put]
      refine wpAnyH_take (i := 4) (v := ?_) rfl (by kernel_rfl) (by kernel_rfl) (by kernel_rfl) (fun _ _ _ h => h) (Or.inl ⟨by rfl, ?_⟩) ⟨fun o => cell_of_row _ _ o _ _ _ H6, fun o => cell_of_row _ _ o _ _ _ H7⟩ ?_
      rotate_left 1
      · intro w hSw
        obtain ⟨hs6, hs7⟩ := hSw
        go_simp
        try with_reducible rfl
      change wpAnyH _ _ _ _ _ _ _ (Act.put _ (some 34) _) _
      dsimp only [Act.put]
      refine wpAnyH_take (i := 5) (v := ?_) rfl (by kernel_rfl) (by kernel_rfl) (by kernel_rfl) (fun _ _ _ h => h) (Or.inl ⟨by rfl, ?_⟩) ⟨fun o => cell_of_row _ _ o _ _ _ H6, fun o => cell_of_row _ _ o _ _ _ H7⟩ ?_
      rotate_left 1
      · intro w hSw
        obtain ⟨hs6, hs7⟩ := hSw
        go_simp
        try with_reducible rfl
      change wpAnyH _ _ _ _ _ _ _ (Act.put _ (some 35) _) _
      dsimp only [Act.put]
      refine wpAnyH_ready (rs := [6]) (by kernel_rfl) (by simp) ?_
      refine AllReadyH.cons rfl (fun K' hK => ?_) AllReadyH.nil
      go_simp
      go_at_call 61
      refine (l1From_any g (-1) ms.length v0 CU (by omega) (by omega) (by omega) (by omega)).mono ?_
      rintro e v1 ⟨k, rfl, -, -, CU9, hk⟩
      obtain ⟨gcs, hgc⟩ := CU.cells
      replace Lp := Lp.keeps hk hgc (by decide)
      replace Os := Os.keepsT hk hgc (by decide)
      replace b2 := (hk.block _ (Array.getElem?_eq_some_iff.1 b2).1 (by show ¬ w.heap.size = g; omega)).trans b2
      replace b3 := (hk.block _ (Array.getElem?_eq_some_iff.1 b3).1 (by show ¬ w.heap.size + 1 = g; omega)).trans b3
      replace H6 := (hk.block _ (Array.getElem?_eq_some_iff.1 H6).1 (by show ¬ R6 = g; omega)).trans H6
      replace H7 := (hk.block _ (Array.getElem?_eq_some_iff.1 H7).1 (by show ¬ R7 = g; omega)).trans H7
      replace KB := KB.trans (hk.below (B := w.heap.size) KB.size (by rintro b hb rfl; omega))
      clear hk CU CU9 hgc
      go_wp2_with fail
      refine hK.out _ _ ⟨fun o => cell_of_row _ _ o _ _ _ H6, fun o => cell_of_row _ _ o _ _ _ H7⟩ (fun _ => ?_)
      clear hK K'
      try (change wpAnyH _ _ _ _ _ _ _ (Act.put _ (some 36) _) _; dsimp only [Act.put])
      refine wpAnyH_ready (rs := [7]) (by kernel_rfl) (by simp) ?_
      refine AllReadyH.cons rfl (fun K' hK => ?_) AllReadyH.nil
      rw [if_pos (by rfl)]
      refine wp_store_row 29 (.tmp 2) (.tmp 30) rfl (w.heap.size) (planC Q0 Q1 Q2 Q3 d.n0 e0 d.n1 e1 d.n2 e2 d.n3 e3 d.l d.p d.t) rfl rfl 29 _ b2 HIP.out rfl (by simp [Value.oneCell']) ?_
      have kk := keepsRow_ v1 (w.heap.size) (planC Q0 Q1 Q2 Q3 d.n0 e0 d.n1 e1 d.n2 e2 d.n3 e3 d.l d.p d.t)
      replace KB := belowRow_ KB (B := w.heap.size) (by omega) (planC Q0 Q1 Q2 Q3 d.n0 e0 d.n1 e1 d.n2 e2 d.n3 e3 d.l d.p d.t)
      replace b3 := (setRow_other _ (w.heap.size) (w.heap.size + 1) (planC Q0 Q1 Q2 Q3 d.n0 e0 d.n1 e1 d.n2 e2 d.n3 e3 d.l d.p d.t) (by omega)).trans b3
      replace H6 := (setRow_other _ (w.heap.size) (R6) (planC Q0 Q1 Q2 Q3 d.n0 e0 d.n1 e1 d.n2 e2 d.n3 e3 d.l d.p d.t) (by omega)).trans H6
      replace H7 := (setRow_other _ (w.heap.size) (R7) (planC Q0 Q1 Q2 Q3 d.n0 e0 d.n1 e1 d.n2 e2 d.n3 e3 d.l d.p d.t) (by omega)).trans H7
      replace Lp := Lp.keeps kk b2 (by decide)
      replace Os := Os.keepsT kk b2 (by decide)
      replace b2 := setRow_heap _ _ _ (planC Q0 Q1 Q2 Q3 d.n0 e0 d.n1 e1 d.n2 e2 d.n3 e3 d.l d.p d.t) _ _ b2
      clear kk
      generalize v1.setRow (w.heap.size) (planC Q0 Q1 Q2 Q3 d.n0 e0 d.n1 e1 d.n2 e2 d.n3 e3 d.l d.p d.t) = v2 at KB b2 b3 H6 H7 Lp Os ⊢
      refine hK.out _ _ ⟨fun o => cell_of_row _ _ o _ _ _ H6, fun o => cell_of_row _ _ o _ _ _ H7⟩ (fun _ => ?_)
      clear hK K'
      try (change wpAnyH _ _ _ _ _ _ _ (Act.put _ none _) _; dsimp only [Act.put])
      refine wpAnyH_ready (rs := [8]) (by kernel_rfl) (by simp) ?_
      refine AllReadyH.cons rfl (fun K' hK => ?_) AllReadyH.nil
      rw [if_pos (by rfl)]
      refine wp_store_row 38 (.tmp 3) (.tmp 31) rfl (w.heap.size + 1) (stC Y0 Y1 Y2 Y3 ps.length f0 ms.length f1 ds.length f2 ls.length f3 ph co ck bo ba lb gd pr) rfl rfl 38 _ b3 HIS.out rfl (by simp [Value.oneCell']) ?_
      have kk := keepsRow_ v2 (w.heap.size + 1) (stC Y0 Y1 Y2 Y3 ps.length f0 ms.length f1 ds.length f2 ls.length f3 ph co ck bo ba lb gd pr)
      replace KB := belowRow_ KB (B := w.heap.size + 1) (by omega) (stC Y0 Y1 Y2 Y3 ps.length f0 ms.length f1 ds.length f2 ls.length f3 ph co ck bo ba lb gd pr)
      replace b2 := (setRow_other _ (w.heap.size + 1) (w.heap.size) (stC Y0 Y1 Y2 Y3 ps.length f0 ms.length f1 ds.length f2 ls.length f3 ph co ck bo ba lb gd pr) (by omega)).trans b2
      replace H6 := (setRow_other _ (w.heap.size + 1) (R6) (stC Y0 Y1 Y2 Y3 ps.length f0 ms.length f1 ds.length f2 ls.length f3 ph co ck bo ba lb gd pr) (by omega)).trans H6
      replace H7 := (setRow_other _ (w.heap.size + 1) (R7) (stC Y0 Y1 Y2 Y3 ps.length f0 ms.length f1 ds.length f2 ls.length f3 ph co ck bo ba lb gd pr) (by omega)).trans H7
      replace Lp := Lp.keeps kk b3 (by decide)
      replace Os := Os.keepsT kk b3 (by decide)
      replace b3 := setRow_heap _ _ _ (stC Y0 Y1 Y2 Y3 ps.length f0 ms.length f1 ds.length f2 ls.length f3 ph co ck bo ba lb gd pr) _ _ b3
      clear kk
      generalize v2.setRow (w.heap.size + 1) (stC Y0 Y1 Y2 Y3 ps.length f0 ms.length f1 ds.length f2 ls.length f3 ph co ck bo ba lb gd pr) = v3 at KB b2 b3 H6 H7 Lp Os ⊢
      refine hK.out _ _ ⟨fun o => cell_of_row _ _ o _ _ _ H6, fun o => cell_of_row _ _ o _ _ _ H7⟩ (fun _ => ?_)
      clear hK K'
      try (change wpAnyH _ _ _ _ _ _ _ (Act.put _ none _) _; dsimp only [Act.put])
      refine wpAnyH_ready (rs := [9]) (by kernel_rfl) (by simp) ?_
      refine AllReadyH.cons rfl (fun K' hK => ?_) AllReadyH.nil
      go_simp
      refine hK.out _ _ ⟨fun o => cell_of_row _ _ o _ _ _ H6, fun o => cell_of_row _ _ o _ _ _ H7⟩ (fun _ => ?_)
      clear hK K'
      try (change wpAnyH _ _ _ _ _ _ _ (Act.put _ (some 4) _) _; dsimp only [Act.put])
      refine wpAnyH_done (by kernel_rfl) ?_ _
      refine NoPanic.normal ?_
      go_wp2_with fail
      exact bodyPost_ret (v := .tuple #[.agg (planC Q0 Q1 Q2 Q3 d.n0 e0 d.n1 e1 d.n2 e2 d.n3 e3 d.l d.p d.t), .agg (stC Y0 Y1 Y2 Y3 ps.length f0 ms.length f1 ds.length f2 ls.length f3 ph co ck bo ba lb gd pr), .int .i64 k]) (results_cells_num Tryz.results32 _ _ _ _ _ _ _ _ _ _ _ _ _ rfl rfl rfl b2 b3 Tryz.underlying29 rfl HIP.out Tryz.underlying38 rfl HIS.out) rfl ⟨_, _, _, _, d, _, ⟨ph, co, ck, bo, ba, lb, P, ms, ds, ls, gd, pr⟩, k, rfl, Lp, Os, hd, ⟨(by show P.length ≤ 12; rw [hl]; exact hs.s0), hs.s1, hs.s2, hs.s3⟩, KB⟩

set_option maxRecDepth 100000 in
set_option maxHeartbeats 8000000 in
theorem drawMayGive_any (A : Option Addr) (n c : Nat) (w : World) (hB : Bytes w w.heap.size A n) (hn : n ≤ 4096) : Calls Tryz.prog 33 #[.slice A n c] w (GivesPSN w) := by
  have HIP : Hid ((Tryz.prog.info? 29).map (·.size) = some 7) := Lib.hid (by kernel_rfl)
  have HIS : Hid ((Tryz.prog.info? 38).map (·.size) = some 12) := Lib.hid (by kernel_rfl)
  have b2 : ((w.alloc (.cells (planC none none none none 0 0 0 0 0 0 0 0 0 0 0) 29)).alloc (.cells (stC none none none none 0 0 0 0 0 0 0 0 0 false 0 0 0 0 0 0) 38)).heap[w.heap.size]? = some (.cells (planC none none none none 0 0 0 0 0 0 0 0 0 0 0) 29) := by
    have hb := (Below.refl (w.alloc (.cells (planC none none none none 0 0 0 0 0 0 0 0 0 0 0) 29)).heap.size (w.alloc (.cells (planC none none none none 0 0 0 0 0 0 0 0 0 0 0) 29))).alloc (Nat.le_refl _) (.cells (stC none none none none 0 0 0 0 0 0 0 0 0 false 0 0 0 0 0 0) 38)
    exact (hb.block w.heap.size (by simp)).trans (heap_alloc_new w _)
  have b3 := heap_alloc2_new w (.cells (planC none none none none 0 0 0 0 0 0 0 0 0 0 0) 29) (.cells (stC none none none none 0 0 0 0 0 0 0 0 0 false 0 0 0 0 0 0) 38)
  have KB : Below w.heap.size w ((w.alloc (.cells (planC none none none none 0 0 0 0 0 0 0 0 0 0 0) 29)).alloc (.cells (stC none none none none 0 0 0 0 0 0 0 0 0 false 0 0 0 0 0 0) 38)) := ((Below.refl _ _).alloc (Nat.le_refl _) _).alloc (by simp) _
  have HB := Lib.hid ((hB.below KB (Nat.le_refl _)).more KB.size)
  clear hB
  go_enter Tryz.func33, Tryz.ntmps33
  go_wp2_with fail
  generalize ((w.alloc (.cells (planC none none none none 0 0 0 0 0 0 0 0 0 0 0) 29)).alloc (.cells (stC none none none none 0 0 0 0 0 0 0 0 0 false 0 0 0 0 0 0) 38)) = w0 at b2 b3 KB HB ⊢
  refine (l1New_any A n c w0 HB.out hn).mono ?_
  rintro e w1 ⟨g, rfl, hg, hc1, K1⟩
  have hz3 := (Array.getElem?_eq_some_iff.1 b3).1
  replace b2 := (K1.block _ (Array.getElem?_eq_some_iff.1 b2).1).trans b2
  replace b3 := (K1.block _ (Array.getElem?_eq_some_iff.1 b3).1).trans b3
  replace KB := KB.trans (K1.mono KB.size)
  clear K1 HB
  go_wp2_with fail
  refine (l5DrawAny_any g w1 hc1).mono ?_
  rintro e w2 ⟨v0, v1, v2, v3, d, vs, s, rfl, Lp, Os, hd, hs, CU, hk⟩
  replace b2 := (hk.block _ (Array.getElem?_eq_some_iff.1 b2).1 (by show ¬ w.heap.size = g; omega)).trans b2
  replace b3 := (hk.block _ (Array.getElem?_eq_some_iff.1 b3).1 (by show ¬ w.heap.size + 1 = g; omega)).trans b3
  have hl2 : g < w2.heap.size := CU.lt
  have hz4 := (Array.getElem?_eq_some_iff.1 b3).1
  replace Lp := Lp.base KB.size
  have HG : ∀ r, rowsOf vs r → g < r := fun r hr => Nat.lt_of_lt_of_le hc1.lt (Os.blocks hr).1
  replace Os := Os.base KB.size
  replace KB := KB.trans (hk.below (B := w.heap.size) KB.size (by rintro b hb rfl; omega))
  clear hk hc1
  obtain ⟨y0, y1, y2, y3, rfl, -⟩ := Os.it
  obtain ⟨⟨Y0, f0, rfl⟩, ⟨Y1, f1, rfl⟩, ⟨Y2, f2, rfl⟩, ⟨Y3, f3, rfl⟩⟩ := Os.shapes
  obtain ⟨Q0, e0, rfl, -, -⟩ := Lp.o0.formR
  obtain ⟨Q1, e1, rfl, -, -⟩ := Lp.o1.formR
  obtain ⟨Q2, e2, rfl, -, -⟩ := Lp.o2.formR
  obtain ⟨Q3, e3, rfl, -, -⟩ := Lp.o3.formR
  have hA : Below w2.heap.size w2 ((w2.alloc (.cells (planC none none none none 0 0 0 0 0 0 0 0 0 0 0) 29)).alloc (.cells (stC none none none none 0 0 0 0 0 0 0 0 0 false 0 0 0 0 0 0) 38)) := ((Below.refl _ _).alloc (Nat.le_refl _) _).alloc (by simp) _
  have H6 : ((w2.alloc (.cells (planC none none none none 0 0 0 0 0 0 0 0 0 0 0) 29)).alloc (.cells (stC none none none none 0 0 0 0 0 0 0 0 0 false 0 0 0 0 0 0) 38)).heap[w2.heap.size]? = some (.cells (planC none none none none 0 0 0 0 0 0 0 0 0 0 0) 29) := by
    have hb := (Below.refl (w2.alloc (.cells (planC none none none none 0 0 0 0 0 0 0 0 0 0 0) 29)).heap.size (w2.alloc (.cells (planC none none none none 0 0 0 0 0 0 0 0 0 0 0) 29))).alloc (Nat.le_refl _) (.cells (stC none none none none 0 0 0 0 0 0 0 0 0 false 0 0 0 0 0 0) 38)
    exact (hb.block w2.heap.size (by simp)).trans (heap_alloc_new w2 _)
  have H7 := heap_alloc2_new w2 (.cells (planC none none none none 0 0 0 0 0 0 0 0 0 0 0) 29) (.cells (stC none none none none 0 0 0 0 0 0 0 0 0 false 0 0 0 0 0 0) 38)
  have H7' := (setRow_other ((w2.alloc (.cells (planC none none none none 0 0 0 0 0 0 0 0 0 0 0) 29)).alloc (.cells (stC none none none none 0 0 0 0 0 0 0 0 0 false 0 0 0 0 0 0) 38)) w2.heap.size _ (planC Q0 Q1 Q2 Q3 d.n0 e0 d.n1 e1 d.n2 e2 d.n3 e3 d.l d.p d.t) (Nat.succ_ne_self _)).trans H7
  go_upto_region 3 with (first
    | ((with_reducible refine store_plan (x := 6) (y := 14) (g := w2.heap.size) (cs := planC Q0 Q1 Q2 Q3 d.n0 e0 d.n1 e1 d.n2 e2 d.n3 e3 d.l d.p d.t) ?_ ?_ H6 ?_ ?_ ?_ ?_)
       · rfl
       · rfl
       · exact HIP.out
       · rfl
       · simp [Value.oneCell'])
    | ((with_reducible refine store_state (x := 7) (y := 15) (g := w2.heap.size + 1) (cs := stC Y0 Y1 Y2 Y3 s.pods.length f0 s.mnts.length f1 s.devs.length f2 s.lks.length f3 s.ph s.co s.ck s.bo s.ba s.lb s.gd s.pr) ?_ ?_ H7' ?_ ?_ ?_ ?_)
       · rfl
       · rfl
       · exact HIS.out
       · rfl
       · simp [Value.oneCell']))
  have h2w := KB.size
  have hw2 : w2.heap.size < w2.heap.size + 1 := Nat.lt_succ_self _
  have hA2 := below_setRow (below_setRow hA (Nat.le_refl _) (planC Q0 Q1 Q2 Q3 d.n0 e0 d.n1 e1 d.n2 e2 d.n3 e3 d.l d.p d.t)) (Nat.le_succ _) (stC Y0 Y1 Y2 Y3 s.pods.length f0 s.mnts.length f1 s.devs.length f2 s.lks.length f3 s.ph s.co s.ck s.bo s.ba s.lb s.gd s.pr)
  have G6 := (setRow_other (((w2.alloc (.cells (planC none none none none 0 0 0 0 0 0 0 0 0 0 0) 29)).alloc (.cells (stC none none none none 0 0 0 0 0 0 0 0 0 false 0 0 0 0 0 0) 38)).setRow w2.heap.size (planC Q0 Q1 Q2 Q3 d.n0 e0 d.n1 e1 d.n2 e2 d.n3 e3 d.l d.p d.t)) (w2.heap.size + 1) w2.heap.size (stC Y0 Y1 Y2 Y3 s.pods.length f0 s.mnts.length f1 s.devs.length f2 s.lks.length f3 s.ph s.co s.ck s.bo s.ba s.lb s.gd s.pr) (by omega)).trans (setRow_heap _ _ _ (planC Q0 Q1 Q2 Q3 d.n0 e0 d.n1 e1 d.n2 e2 d.n3 e3 d.l d.p d.t) _ _ H6)
  have G7 := setRow_heap (((w2.alloc (.cells (planC none none none none 0 0 0 0 0 0 0 0 0 0 0) 29)).alloc (.cells (stC none none none none 0 0 0 0 0 0 0 0 0 false 0 0 0 0 0 0) 38)).setRow w2.heap.size (planC Q0 Q1 Q2 Q3 d.n0 e0 d.n1 e1 d.n2 e2 d.n3 e3 d.l d.p d.t)) (w2.heap.size + 1) _ (stC Y0 Y1 Y2 Y3 s.pods.length f0 s.mnts.length f1 s.devs.length f2 s.lks.length f3 s.ph s.co s.ck s.bo s.ba s.lb s.gd s.pr) _ _ H7'
  clear H6 H7 H7' hA
  replace b2 := (hA2.block _ (Array.getElem?_eq_some_iff.1 b2).1).trans b2
  replace b3 := (hA2.block _ (Array.getElem?_eq_some_iff.1 b3).1).trans b3
  replace Lp := Lp.below hA2
  replace Os := Os.below hA2
  replace KB := KB.trans (hA2.mono KB.size)
  replace CU := CU.below hA2
  have hg2 : g < w2.heap.size := by assumption
  clear hA2 hw2
  generalize (((w2.alloc (.cells (planC none none none none 0 0 0 0 0 0 0 0 0 0 0) 29)).alloc (.cells (stC none none none none 0 0 0 0 0 0 0 0 0 false 0 0 0 0 0 0) 38)).setRow w2.heap.size (planC Q0 Q1 Q2 Q3 d.n0 e0 d.n1 e1 d.n2 e2 d.n3 e3 d.l d.p d.t)).setRow (w2.heap.size + 1) (stC Y0 Y1 Y2 Y3 s.pods.length f0 s.mnts.length f1 s.devs.length f2 s.lks.length f3 s.ph s.co s.ck s.bo s.ba s.lb s.gd s.pr) = w3 at b2 b3 G6 G7 Lp Os KB CU ⊢
  obtain ⟨R7, hR7⟩ : ∃ R, w2.heap.size + 1 = R := ⟨_, rfl⟩
  rw [hR7] at G7 ⊢
  generalize w2.heap.size = R6 at G6 hR7 hz4 hl2 hg2 h2w ⊢
  have H6 := G6
  have H7 := G7
  clear G6 G7
  obtain ⟨ph, co, ck, bo, ba, lb, ps, ms, ds, ls, gd, pr⟩ := s
  dsimp only at Os H7 hs ⊢
  have hs0 : ps.length ≤ 12 := hs.s0
  have hms : ms.length ≤ 12 := hs.s1
  have hms1 : ms.length ≤ 12 := hs.s1
  have hds1 : ds.length ≤ 12 := hs.s2
  have h7 : ∀ o, w3.cell? ⟨R7, o, none⟩ = (stC Y0 Y1 Y2 Y3 ps.length f0 ms.length f1 ds.length f2 ls.length f3 ph co ck bo ba lb gd pr)[o]? := fun o => cell_of_row _ _ o _ _ _ H7
  go_wp2_with fail
  go_loopw [8] (fun i wr => ∃ (k : Nat) (P : List (Bool × Int)), P.length = ms.length ∧ k ≤ ms.length ∧ i = .int .i64 k ∧ Cur 112 .i64 wr g ∧ Below w.heap.size w wr ∧ Lists wr w.heap.size (.slice Q0 d.n0 e0) (.slice Q1 d.n1 e1) (.slice Q2 d.n2 e2) (.slice Q3 d.n3 e3) d ∧ OwnSt wr w.heap.size (.agg (stC Y0 Y1 Y2 Y3 ps.length f0 ms.length f1 ds.length f2 ls.length f3 ph co ck bo ba lb gd pr)) ⟨ph, co, ck, bo, ba, lb, ps, P, ds, ls, gd, pr⟩ ∧ wr.heap[w.heap.size]? = some (.cells (planC none none none none 0 0 0 0 0 0 0 0 0 0 0) 29) ∧ wr.heap[w.heap.size + 1]? = some (.cells (stC none none none none 0 0 0 0 0 0 0 0 0 false 0 0 0 0 0 0) 38) ∧ wr.heap[R6]? = some (.cells (planC Q0 Q1 Q2 Q3 d.n0 e0 d.n1 e1 d.n2 e2 d.n3 e3 d.l d.p d.t) 29) ∧ wr.heap[R7]? = some (.cells (stC Y0 Y1 Y2 Y3 ps.length f0 ms.length f1 ds.length f2 ls.length f3 ph co ck bo ba lb gd pr) 38)) (fun i _ => ms.length - (intOf i).toNat)
  case atStart => exact ⟨0, ms, rfl, Nat.zero_le _, rfl, CU, KB, Lp, Os, b2, b3, H6, H7⟩
  case round =>
    clear h7 CU KB b2 b3 H6 H7 Lp Os
    obtain ⟨k, P, hl, hk, rfl, CU, KB, Lp, Os, b2, b3, H6, H7⟩ := hrel
    have h7 : ∀ o, wr.cell? ⟨R7, o, none⟩ = (stC Y0 Y1 Y2 Y3 ps.length f0 ms.length f1 ds.length f2 ls.length f3 ph co ck bo ba lb gd pr)[o]? := fun o => cell_of_row _ _ o _ _ _ H7
    by_cases hlt : k < ms.length
    · go_wp2_with fail
      refine (l1Once_any g 2 wr CU (by omega) (by omega)).mono ?_
      rintro e w4 ⟨b, rfl, CU4, hk4⟩
      obtain ⟨gcs, hgc⟩ := CU.cells
      replace Lp := Lp.keeps hk4 hgc (by decide)
      replace Os := Os.keepsT hk4 hgc (by decide)
      replace b2 := (hk4.block _ (Array.getElem?_eq_some_iff.1 b2).1 (by show ¬ w.heap.size = g; omega)).trans b2
      replace b3 := (hk4.block _ (Array.getElem?_eq_some_iff.1 b3).1 (by show ¬ w.heap.size + 1 = g; omega)).trans b3
      replace H6 := (hk4.block _ (Array.getElem?_eq_some_iff.1 H6).1 (by show ¬ R6 = g; omega)).trans H6
      replace H7 := (hk4.block _ (Array.getElem?_eq_some_iff.1 H7).1 (by show ¬ R7 = g; omega)).trans H7
      replace KB := KB.trans (hk4.below (B := w.heap.size) KB.size (by rintro b hb rfl; omega))
      clear hk4 CU hgc h7
      have CU := CU4
      clear CU4
      have h7 : ∀ o, w4.cell? ⟨R7, o, none⟩ = (stC Y0 Y1 Y2 Y3 ps.length f0 ms.length f1 ds.length f2 ls.length f3 ph co ck bo ba lb gd pr)[o]? := fun o => cell_of_row _ _ o _ _ _ H7
      cases b
      · go_wp2_with fail
        exact ⟨⟨k + 1, P, hl, by omega, by go_num, CU, KB, Lp, Os, b2, b3, H6, H7⟩, by simp [intOf]; omega⟩
      · obtain ⟨gr, hY, hBg, hgz, ⟨rcs, hgr⟩, HR⟩ := Os.mntRow (i := k) (by show k < P.length; omega)
        subst hY
        have q0 := (HR (k * 2) (by rw [mntCs_len]; show _ < P.length * 2; omega)).1.trans (mntCs_at P (i := k) (by omega)).1
        have hf0 := (HR (k * 2) (by rw [mntCs_len]; show _ < P.length * 2; omega)).2
        have q1 := (HR (k * 2 + 1) (by rw [mntCs_len]; show _ < P.length * 2; omega)).1.trans (mntCs_at P (i := k) (by omega)).2
        have hf1 := (HR (k * 2 + 1) (by rw [mntCs_len]; show _ < P.length * 2; omega)).2
        have hx : k * 2 + 2 ≤ 24 := by omega
        go_wp2_with fail
        have kk : Keeps (· = gr) w4 ((w4.setCell ⟨gr, k * 2, none⟩ (.bool false)).setCell ⟨gr, k * 2 + 1, none⟩ (.int .i64 0)) := Keeps.set (S := (· = gr)) (Keeps.set (S := (· = gr)) (Keeps.refl _ _) rfl _) rfl _
        have n6 : ¬ R6 = gr := ne_types hgr H6 (by decide)
        have n7 : ¬ R7 = gr := ne_types hgr H7 (by decide)
        have n2 : ¬ w.heap.size = gr := ne_types hgr b2 (by decide)
        have n3 : ¬ w.heap.size + 1 = gr := ne_types hgr b3 (by decide)
        have OsX := Os.mntSet (i := k) (by show k < P.length; omega)
        have x6 := (kk.block _ (Array.getElem?_eq_some_iff.1 H6).1 n6).trans H6
        have x7 := (kk.block _ (Array.getElem?_eq_some_iff.1 H7).1 n7).trans H7
        have x2 := (kk.block _ (Array.getElem?_eq_some_iff.1 b2).1 n2).trans b2
        have x3 := (kk.block _ (Array.getElem?_eq_some_iff.1 b3).1 n3).trans b3
        have hgg : g < gr := HG gr ⟨_, 7, _, rfl, rfl, rfl⟩
        have LpX := Lp.keeps kk hgr (by decide)
        have CUX := CU.keeps kk (fun b hb e => by omega)
        have KBX := KB.trans (kk.below (B := w.heap.size) KB.size (by rintro b hb rfl; omega))
        exact ⟨⟨k + 1, P.set k (false, 0), by rw [List.length_set]; exact hl, by omega, by go_num, CUX, KBX, LpX, OsX, x2, x3, x6, x7⟩, by simp [intOf]; omega⟩
    · obtain rfl : k = ms.length := by omega
      go_upto_region 8 with fail
      clear h7 hk
      refine wp_region_noPanic ?_
      refine wp_region_held_drew (S := fun W => (∀ o, W.cell? ⟨R6, o, none⟩ = (planC Q0 Q1 Q2 Q3 d.n0 e0 d.n1 e1 d.n2 e2 d.n3 e3 d.l d.p d.t)[o]?) ∧ (∀ o, W.cell? ⟨R7, o, none⟩ = (stC Y0 Y1 Y2 Y3 ps.length f0 ms.length f1 ds.length f2 ls.length f3 ph co ck bo ba lb gd pr)[o]?)) (by kernel_rfl) (by rw [← heap_drew wr] at H6 H7; exact ⟨fun o => cell_of_row _ _ o _ _ _ H6, fun o => cell_of_row _ _ o _ _ _ H7⟩) (fun _ => ?_)
      rw [← heap_drew wr] at b2 b3 H6 H7
      replace Lp := Lp.below (Below.refl _ _).drew
      replace Os := Os.below (Below.refl _ _).drew
      replace KB := KB.drew
      replace CU := CU.below (Below.refl _ _).drew
      generalize wr.drew = v0 at KB b2 b3 H6 H7 Lp Os CU ⊢
      refine wpAnyH_take (i := 0) (v := ?_) rfl (by kernel_rfl) (by kernel_rfl) (by kernel_rfl) (fun _ _ _ h => h) (Or.inl ⟨by rfl, ?_⟩) ⟨fun o => cell_of_row _ _ o _ _ _ H6, fun o => cell_of_row _ _ o _ _ _ H7⟩ ?_
      rotate_left 1
      · intro w hSw
        obtain ⟨hs6, hs7⟩ := hSw
        go_simp
        try with_reducible rfl
      change wpAnyH _ _ _ _ _ _ _ (Act.put _ (some 30) _) _
      dsimp only [Act.put]
      refine wpAnyH_take (i := 1) (v := ?_) rfl (by kernel_rfl) (by kernel_rfl) (by kernel_rfl) (fun _ _ _ h => h) (Or.inl ⟨by rfl, ?_⟩) ⟨fun o => cell_of_row _ _ o _ _ _ H6, fun o => cell_of_row _ _ o _ _ _ H7⟩ ?_
      rotate_left 1
      · intro w hSw
        obtain ⟨hs6, hs7⟩ := hSw
        go_simp
        try with_reducible rfl
      change wpAnyH _ _ _ _ _ _ _ (Act.put _ (some 31) _) _
      dsimp only [Act.put]
      refine wpAnyH_take (i := 2) (v := ?_) rfl (by kernel_rfl) (by kernel_rfl) (by kernel_rfl) (fun _ _ _ h => h) (Or.inl ⟨by rfl, ?_⟩) ⟨fun o => cell_of_row _ _ o _ _ _ H6, fun o => cell_of_row _ _ o _ _ _ H7⟩ ?_
      rotate_left 1
      · intro w hSw
        obtain ⟨hs6, hs7⟩ := hSw
        go_simp
        try with_reducible rfl
      change wpAnyH _ _ _ _ _ _ _ (Act.put _ (some 32) _) _
      dsimp only [Act.put]
      refine wpAnyH_take (i := 3) (v := ?_) rfl (by kernel_rfl) (by kernel_rfl) (by kernel_rfl) (fun _ _ _ h => h) (Or.inl ⟨by rfl, ?_⟩) ⟨fun o => cell_of_row _ _ o _ _ _ H6, fun o => cell_of_row _ _ o _ _ _ H7⟩ ?_
      rotate_left 1
      · intro w hSw
        obtain ⟨hs6, hs7⟩ := hSw
        go_simp
        try with_reducible rfl
      change wpAnyH _ _ _ _ _ _ _ (Act.put _ (some 33) _) _
      dsimp only [Act.put]
      refine wpAnyH_take (i := 4) (v := ?_) rfl (by kernel_rfl) (by kernel_rfl) (by kernel_rfl) (fun _ _ _ h => h) (Or.inl ⟨by rfl, ?_⟩) ⟨fun o => cell_of_row _ _ o _ _ _ H6, fun o => cell_of_row _ _ o _ _ _ H7⟩ ?_
      rotate_left 1
      · intro w hSw
        obtain ⟨hs6, hs7⟩ := hSw
        go_simp
        try with_reducible rfl
      change wpAnyH _ _ _ _ _ _ _ (Act.put _ (some 34) _) _
      dsimp only [Act.put]
      refine wpAnyH_take (i := 5) (v := ?_) rfl (by kernel_rfl) (by kernel_rfl) (by kernel_rfl) (fun _ _ _ h => h) (Or.inl ⟨by rfl, ?_⟩) ⟨fun o => cell_of_row _ _ o _ _ _ H6, fun o => cell_of_row _ _ o _ _ _ H7⟩ ?_
      rotate_left 1
      · intro w hSw
        obtain ⟨hs6, hs7⟩ := hSw
        go_simp
        try with_reducible rfl
      change wpAnyH _ _ _ _ _ _ _ (Act.put _ (some 35) _) _
      dsimp only [Act.put]
      refine wpAnyH_ready (rs := [6]) (by kernel_rfl) (by simp) ?_
      refine AllReadyH.cons rfl (fun K' hK => ?_) AllReadyH.nil
      go_simp
      go_at_call 61
      refine (l1From_any g (-1) ds.length v0 CU (by omega) (by omega) (by omega) (by omega)).mono ?_
      rintro e v1 ⟨k, rfl, -, -, CU9, hk⟩
      obtain ⟨gcs, hgc⟩ := CU.cells
      replace Lp := Lp.keeps hk hgc (by decide)
      replace Os := Os.keepsT hk hgc (by decide)
      replace b2 := (hk.block _ (Array.getElem?_eq_some_iff.1 b2).1 (by show ¬ w.heap.size = g; omega)).trans b2
      replace b3 := (hk.block _ (Array.getElem?_eq_some_iff.1 b3).1 (by show ¬ w.heap.size + 1 = g; omega)).trans b3
      replace H6 := (hk.block _ (Array.getElem?_eq_some_iff.1 H6).1 (by show ¬ R6 = g; omega)).trans H6
      replace H7 := (hk.block _ (Array.getElem?_eq_some_iff.1 H7).1 (by show ¬ R7 = g; omega)).trans H7
      replace KB := KB.trans (hk.below (B := w.heap.size) KB.size (by rintro b hb rfl; omega))
      clear hk CU CU9 hgc
      go_wp2_with fail
      refine hK.out _ _ ⟨fun o => cell_of_row _ _ o _ _ _ H6, fun o => cell_of_row _ _ o _ _ _ H7⟩ (fun _ => ?_)
      clear hK K'
      try (change wpAnyH _ _ _ _ _ _ _ (Act.put _ (some 36) _) _; dsimp only [Act.put])
      refine wpAnyH_ready (rs := [7]) (by kernel_rfl) (by simp) ?_
      refine AllReadyH.cons rfl (fun K' hK => ?_) AllReadyH.nil
      rw [if_pos (by rfl)]
      refine wp_store_row 29 (.tmp 2) (.tmp 30) rfl (w.heap.size) (planC Q0 Q1 Q2 Q3 d.n0 e0 d.n1 e1 d.n2 e2 d.n3 e3 d.l d.p d.t) rfl rfl 29 _ b2 HIP.out rfl (by simp [Value.oneCell']) ?_
      have kk := keepsRow_ v1 (w.heap.size) (planC Q0 Q1 Q2 Q3 d.n0 e0 d.n1 e1 d.n2 e2 d.n3 e3 d.l d.p d.t)
      replace KB := belowRow_ KB (B := w.heap.size) (by omega) (planC Q0 Q1 Q2 Q3 d.n0 e0 d.n1 e1 d.n2 e2 d.n3 e3 d.l d.p d.t)
      replace b3 := (setRow_other _ (w.heap.size) (w.heap.size + 1) (planC Q0 Q1 Q2 Q3 d.n0 e0 d.n1 e1 d.n2 e2 d.n3 e3 d.l d.p d.t) (by omega)).trans b3
      replace H6 := (setRow_other _ (w.heap.size) (R6) (planC Q0 Q1 Q2 Q3 d.n0 e0 d.n1 e1 d.n2 e2 d.n3 e3 d.l d.p d.t) (by omega)).trans H6
      replace H7 := (setRow_other _ (w.heap.size) (R7) (planC Q0 Q1 Q2 Q3 d.n0 e0 d.n1 e1 d.n2 e2 d.n3 e3 d.l d.p d.t) (by omega)).trans H7
      replace Lp := Lp.keeps kk b2 (by decide)
      replace Os := Os.keepsT kk b2 (by decide)
      replace b2 := setRow_heap _ _ _ (planC Q0 Q1 Q2 Q3 d.n0 e0 d.n1 e1 d.n2 e2 d.n3 e3 d.l d.p d.t) _ _ b2
      clear kk
      generalize v1.setRow (w.heap.size) (planC Q0 Q1 Q2 Q3 d.n0 e0 d.n1 e1 d.n2 e2 d.n3 e3 d.l d.p d.t) = v2 at KB b2 b3 H6 H7 Lp Os ⊢
      refine hK.out _ _ ⟨fun o => cell_of_row _ _ o _ _ _ H6, fun o => cell_of_row _ _ o _ _ _ H7⟩ (fun _ => ?_)
      clear hK K'
      try (change wpAnyH _ _ _ _ _ _ _ (Act.put _ none _) _; dsimp only [Act.put])
      refine wpAnyH_ready (rs := [8]) (by kernel_rfl) (by simp) ?_
      refine AllReadyH.cons rfl (fun K' hK => ?_) AllReadyH.nil
      rw [if_pos (by rfl)]
      refine wp_store_row 38 (.tmp 3) (.tmp 31) rfl (w.heap.size + 1) (stC Y0 Y1 Y2 Y3 ps.length f0 ms.length f1 ds.length f2 ls.length f3 ph co ck bo ba lb gd pr) rfl rfl 38 _ b3 HIS.out rfl (by simp [Value.oneCell']) ?_
      have kk := keepsRow_ v2 (w.heap.size + 1) (stC Y0 Y1 Y2 Y3 ps.length f0 ms.length f1 ds.length f2 ls.length f3 ph co ck bo ba lb gd pr)
      replace KB := belowRow_ KB (B := w.heap.size + 1) (by omega) (stC Y0 Y1 Y2 Y3 ps.length f0 ms.length f1 ds.length f2 ls.length f3 ph co ck bo ba lb gd pr)
      replace b2 := (setRow_other _ (w.heap.size + 1) (w.heap.size) (stC Y0 Y1 Y2 Y3 ps.length f0 ms.length f1 ds.length f2 ls.length f3 ph co ck bo ba lb gd pr) (by omega)).trans b2
      replace H6 := (setRow_other _ (w.heap.size + 1) (R6) (stC Y0 Y1 Y2 Y3 ps.length f0 ms.length f1 ds.length f2 ls.length f3 ph co ck bo ba lb gd pr) (by omega)).trans H6
      replace H7 := (setRow_other _ (w.heap.size + 1) (R7) (stC Y0 Y1 Y2 Y3 ps.length f0 ms.length f1 ds.length f2 ls.length f3 ph co ck bo ba lb gd pr) (by omega)).trans H7
      replace Lp := Lp.keeps kk b3 (by decide)
      replace Os := Os.keepsT kk b3 (by decide)
      replace b3 := setRow_heap _ _ _ (stC Y0 Y1 Y2 Y3 ps.length f0 ms.length f1 ds.length f2 ls.length f3 ph co ck bo ba lb gd pr) _ _ b3
      clear kk
      generalize v2.setRow (w.heap.size + 1) (stC Y0 Y1 Y2 Y3 ps.length f0 ms.length f1 ds.length f2 ls.length f3 ph co ck bo ba lb gd pr) = v3 at KB b2 b3 H6 H7 Lp Os ⊢
      refine hK.out _ _ ⟨fun o => cell_of_row _ _ o _ _ _ H6, fun o => cell_of_row _ _ o _ _ _ H7⟩ (fun _ => ?_)
      clear hK K'
      try (change wpAnyH _ _ _ _ _ _ _ (Act.put _ none _) _; dsimp only [Act.put])
      refine wpAnyH_ready (rs := [9]) (by kernel_rfl) (by simp) ?_
      refine AllReadyH.cons rfl (fun K' hK => ?_) AllReadyH.nil
      go_simp
      refine hK.out _ _ ⟨fun o => cell_of_row _ _ o _ _ _ H6, fun o => cell_of_row _ _ o _ _ _ H7⟩ (fun _ => ?_)
      clear hK K'
      try (change wpAnyH _ _ _ _ _ _ _ (Act.put _ (some 4) _) _; dsimp only [Act.put])
      refine wpAnyH_done (by kernel_rfl) ?_ _
      refine NoPanic.normal ?_
      go_wp2_with fail
      exact bodyPost_ret (v := .tuple #[.agg (planC Q0 Q1 Q2 Q3 d.n0 e0 d.n1 e1 d.n2 e2 d.n3 e3 d.l d.p d.t), .agg (stC Y0 Y1 Y2 Y3 ps.length f0 ms.length f1 ds.length f2 ls.length f3 ph co ck bo ba lb gd pr), .int .i64 k]) (results_cells_num Tryz.results33 _ _ _ _ _ _ _ _ _ _ _ _ _ rfl rfl rfl b2 b3 Tryz.underlying29 rfl HIP.out Tryz.underlying38 rfl HIS.out) rfl ⟨_, _, _, _, d, _, ⟨ph, co, ck, bo, ba, lb, ps, P, ds, ls, gd, pr⟩, k, rfl, Lp, Os, hd, ⟨hs.s0, (by show P.length ≤ 12; rw [hl]; exact hs.s1), hs.s2, hs.s3⟩, KB⟩

end Go.Proofs.YtdkmhaghnfhajaaGreat
/- Tn -/
set_option linter.unusedVariables false
namespace Go.Proofs.YtdkmhaghnfhajaaGreat
open Go.RowKit

/-- How many mounts are held. -/
def heldN (d : PlanD) (s : StD) : Nat := (List.range d.n2).countP fun i => (mntAt s i).1
/-- A mount given back. -/
def looseS (s : StD) (m : Nat) : StD := { s with mnts := s.mnts.set m (false, 0) }
theorem loose_ok {d : PlanD} {s : StD} (h : StOk d s) (m : Nat) : StOk d (looseS s m) := by
  have := ok_free h (i := m) (b := 0)
  simpa [looseS, applyR] using this
theorem mntAt_loose {d : PlanD} {s : StD} (h : StOk d s) {m i : Nat} (hm : m < d.n2) : mntAt (looseS s m) i = if i = m then (false, 0) else mntAt s i := by
  have hl : m < s.mnts.length := by rw [h.nm]; exact hm
  simp only [mntAt, looseS]
  by_cases e : i = m
  · subst e
    simp [List.getD, hl]
  · simp [List.getD, Ne.symm e, e]
theorem free_some {d : PlanD} {s : StD} (h : StOk d s) (hd : ∀ i, i < d.n0 → aliveB (podAt s i).1 = false) (hh : 0 < heldN d s) : ∃ i, i < d.n2 ∧ freeB d s i = true := by
  obtain ⟨i, hi, hp⟩ := List.countP_pos_iff.1 hh
  obtain ⟨i, hi, h1, hg⟩ := greatest (n := d.n2) (p := fun i => (mntAt s i).1) ⟨i, List.mem_range.1 hi, hp⟩
  refine ⟨i, hi, ?_⟩
  simp only [freeB, Bool.and_eq_true, h1, hd _ (mount_facts h.plan hi).1, List.all_eq_true, List.mem_range, Bool.not_false, true_and]
  intro j hj
  by_cases e : mpar d j = i
  · have := (mount_facts h.plan hj).2.2
    rw [hg j hj (by omega)]
    simp
  · simp [e]
theorem free_held {d : PlanD} {s : StD} {i : Nat} (h : freeB d s i = true) : (mntAt s i).1 = true ∧ ∀ j, j < d.n2 → mpar d j = i → (mntAt s j).1 = false := by
  simp only [freeB, Bool.and_eq_true, List.all_eq_true, List.mem_range] at h
  refine ⟨h.1.1, fun j hj e => ?_⟩
  have := h.2 j hj
  simpa [e] using this
theorem held_less {d : PlanD} {s : StD} {m : Nat} (h : StOk d s) (hm : m < d.n2) (hf : (mntAt s m).1 = true) : heldN d s = heldN d (looseS s m) + 1 := by
  have := count_flip (P := fun i => (mntAt s i).1) (Q := fun i => (mntAt (looseS s m) i).1) (i := m) hf (by rw [mntAt_loose h hm, if_pos rfl]) (fun j hj => by rw [mntAt_loose h hm, if_neg hj]) d.n2
  rw [if_pos hm] at this
  exact this
theorem held_none {d : PlanD} {s : StD} (h : heldN d s = 0) {i : Nat} (hi : i < d.n2) : (mntAt s i).1 = false := by
  have := List.countP_eq_zero.1 h i (List.mem_range.2 hi)
  simpa using this
theorem held_new {d : PlanD} {s : StD} (h : ∀ i, i < d.n2 → (mntAt s i).1 = true) : heldN d s = d.n2 := by
  unfold heldN
  rw [List.countP_eq_length.2 fun i hi => h i (List.mem_range.1 hi), List.length_range]
end Go.Proofs.YtdkmhaghnfhajaaGreat
/- He -/
set_option linter.unusedVariables false
namespace Go.Proofs.YtdkmhaghnfhajaaGreat
open Go.RowKit

theorem newS_held {d : PlanD} (h : planOkB d = true) : (∀ i, i < d.n2 → (mntAt (newS d) i).1 = true) ∧ (∀ i, i < d.n3 → devAt (newS d) i = true) := by
  unfold newS
  rw [if_pos h]
  constructor
  · intro i hi
    simp [mntAt, hi]
  · intro i hi
    simp [devAt, hi]
theorem stop_ok {d : PlanD} {ph ck bo ba lb gd pr : Int} {co : Bool} {P : List (Int × Int)} {ms : List (Bool × Int)} {ds : List Bool} {ls : List Int} (h : StOk d ⟨ph, co, ck, bo, ba, lb, P, ms, ds, ls, gd, pr⟩) {k : Nat} (hk : k < P.length) : StOk d ⟨ph, co, ck, bo, ba, lb, P.set k (4, (podA P k).2), ms, ds, ls, gd, pr⟩ := by
  obtain ⟨h1, h2, h3, h4, h5, h6, h7, h8, h9, h10, h11, h12, h13, h14, h15, h16⟩ := h
  refine ⟨h1, h2, h3, h4, h5, h6, h7, h8, h9, by simpa using h10, h11, h12, ?_, h14, h15, h16⟩
  intro q hq
  rcases List.mem_or_eq_of_mem_set hq with h | h
  · exact h13 q h
  · subst h
    refine ⟨⟨by show (0 : Int) ≤ 4; decide, by show (4 : Int) ≤ 6; decide⟩, ?_⟩
    have : podA P k = P[k] := by simp [podA, List.getD, hk]
    rw [this]
    exact (h13 _ (List.getElem_mem hk)).2
theorem stop_all {P : List (Int × Int)} {k : Nat} {y : Int} (h : ∀ j, j < k → (podA P j).1 = 4) (hk : k < P.length) : ∀ j, j < k + 1 → (podA (P.set k (4, y)) j).1 = 4 := fun j hj => by
  by_cases e : j = k
  · subst e
    simp [podA, List.getD, hk]
  · have := h j (by omega)
    simpa [podA, List.getD, Ne.symm e] using this
theorem heldN_le (d : PlanD) (s : StD) : heldN d s ≤ d.n2 := by
  have := List.countP_le_length (p := fun i => (mntAt s i).1) (l := List.range d.n2)
  simpa [heldN] using this
theorem picks_pos {n : Nat} {p : Nat → Bool} {i : Nat} (hi : i < n) (h : p i = true) : 0 < (picks n p).length := by
  have : (i : Int) ∈ picks n p := by
    unfold picks
    exact List.mem_map.2 ⟨i, List.mem_filter.2 ⟨List.mem_range.2 hi, h⟩, rfl⟩
  exact List.length_pos_of_mem this
theorem give_all {d : PlanD} {s : StD} (h : StOk d s) (hm : ∀ j, j < d.n2 → (mntAt s j).1 = false) (hd : ∀ j, j < d.n3 → devAt s j = true) {i : Nat} (hi : i < d.n3) : giveB d s i = true := by
  obtain ⟨m, -, hml, hmp⟩ := dev_mnt h.plan hi
  unfold giveB
  rw [hmp, hm m hml, hd i hi]
  rfl

set_option maxRecDepth 100000 in
set_option maxHeartbeats 16000000 in
theorem lawHolds (A : Option Addr) (n c : Nat) (w : World) (hB : Bytes w w.heap.size A n) (hn : n ≤ maxLen) : Calls Tryz.prog 5 #[.slice A n c] w fun e w' => e = .returned (.bool true) ∧ Below w.heap.size w w' := by
  have HB := Lib.hid hB
  clear hB
  go_enter Tryz.func5, Tryz.ntmps5
  go_wp2_with fail
  refine (big_any A n c _ hn).mono ?_
  rintro e w2 ⟨rfl, rfl⟩
  by_cases hbig : 4096 < (n : Int)
  · go_wp2_with fail
    go_ret
    exact ⟨rfl, Below.refl _ _⟩
  · have hn4 : n ≤ 4096 := by omega
    clear hbig
    go_wp2_with fail
    refine (roll_any A n c 9 _ HB.out hn4).mono ?_
    rintro e w1 ⟨g, rfl, hg, CU, K⟩
    go_wp2_with fail
    refine (scheme2_any g w1 CU).mono ?_
    rintro e w2 ⟨v0, v1, v2, v3, d, rfl, o0, o1, o2, o3, CU2, hk, ⟨hok, hn6, -, hn5, hn3⟩, hn0, hn1⟩
    have Lp : Lists w2 w1.heap.size v0 v1 v2 v3 d := ⟨o0, o1, o2, o3⟩
    replace Lp := Lp.base K.size
    have hgl := CU.lt
    replace K := K.trans (hk.below (B := w.heap.size) K.size (by rintro b hb rfl; omega))
    replace CU := CU2
    clear o0 o1 o2 o3 CU2 hk
    have HOK := Lib.hid hok
    obtain ⟨V0, C0, rfl, -, -⟩ := Lp.o0.formR
    obtain ⟨V1, C1, rfl, -, -⟩ := Lp.o1.formR
    obtain ⟨V2, C2, rfl, -, -⟩ := Lp.o2.formR
    obtain ⟨V3, C3, rfl, -, -⟩ := Lp.o3.formR
    have hg2 : g < w2.heap.size := CU.lt
    go_upto_region 5 with fail
    have HP4 := heap_alloc_new w2 (.cells (planC V0 V1 V2 V3 d.n0 C0 d.n1 C1 d.n2 C2 d.n3 C3 d.l d.p d.t) 29)
    have hb : Below w2.heap.size w2 (w2.alloc (.cells (planC V0 V1 V2 V3 d.n0 C0 d.n1 C1 d.n2 C2 d.n3 C3 d.l d.p d.t) 29)) := (Below.refl _ _).alloc (Nat.le_refl _) _
    replace K := K.trans (hb.mono K.size)
    replace CU := CU.below hb
    replace Lp := Lp.below hb
    clear hb
    generalize w2.alloc (.cells (planC V0 V1 V2 V3 d.n0 C0 d.n1 C1 d.n2 C2 d.n3 C3 d.l d.p d.t) 29) = w3 at K CU Lp HP4 ⊢
    generalize w2.heap.size = R4 at HP4 hg2 ⊢
    have h4z := (Array.getElem?_eq_some_iff.1 HP4).1
    have h4 : ∀ o, w3.cell? ⟨R4, o, none⟩ = (planC V0 V1 V2 V3 d.n0 C0 d.n1 C1 d.n2 C2 d.n3 C3 d.l d.p d.t)[o]? := fun o => cell_of_row _ _ o _ _ _ HP4
    go_wp2_with fail
    refine (specNewState_any _ d w3 Lp.plan).mono ?_
    rintro e w4 ⟨v', rfl, Os, hb⟩
    have HG : ∀ r, rowsOf v' r → g < r := fun r hr => Nat.lt_of_lt_of_le (Nat.lt_trans hg2 h4z) (Os.blocks hr).1
    replace Os := Os.base K.size
    clear h4
    replace K := K.trans (hb.mono K.size)
    replace CU := CU.below hb
    replace Lp := Lp.below hb
    replace HP4 := (hb.block _ (Array.getElem?_eq_some_iff.1 HP4).1).trans HP4
    clear hb
    have N0 := newS_ok hok
    have N1 := newS_held hok
    obtain ⟨s1, hs1⟩ : ∃ s, newS d = s := ⟨_, rfl⟩
    rw [hs1] at Os N0 N1
    clear hs1
    obtain ⟨y0, y1, y2, y3, rfl, -⟩ := Os.it
    obtain ⟨⟨E0, k0, rfl⟩, ⟨E1, k1, rfl⟩, ⟨E2, k2, rfl⟩, ⟨E3, k3, rfl⟩⟩ := Os.shapes
    obtain ⟨ph, co, ck, bo, ba, lb, ps, ms, ds, ls, gd, pr⟩ := s1
    dsimp only at Os N0 N1 ⊢
    go_upto_region 6 with fail
    replace h4z : R4 < w4.heap.size := (Array.getElem?_eq_some_iff.1 HP4).1
    have HS5 := heap_alloc_new w4 (.cells (stC E0 E1 E2 E3 ps.length k0 ms.length k1 ds.length k2 ls.length k3 ph co ck bo ba lb gd pr) 38)
    have hb : Below w4.heap.size w4 (w4.alloc (.cells (stC E0 E1 E2 E3 ps.length k0 ms.length k1 ds.length k2 ls.length k3 ph co ck bo ba lb gd pr) 38)) := (Below.refl _ _).alloc (Nat.le_refl _) _
    replace K := K.trans (hb.mono K.size)
    replace CU := CU.below hb
    replace Lp := Lp.below hb
    replace HP4 := (hb.block _ (Array.getElem?_eq_some_iff.1 HP4).1).trans HP4
    replace Os := Os.below hb
    clear hb
    generalize w4.alloc (.cells (stC E0 E1 E2 E3 ps.length k0 ms.length k1 ds.length k2 ls.length k3 ph co ck bo ba lb gd pr) 38) = w5 at K CU Lp HP4 Os HS5 ⊢
    generalize w4.heap.size = R5 at HS5 h4z ⊢
    have SO := Lib.hid N0
    have HD := Lib.hid N1.2
    have HM1 := Lib.hid N1.1
    have hnp : ps.length = d.n0 := N0.np
    have hnm : ms.length = d.n2 := N0.nm
    have hnd : ds.length = d.n3 := N0.nd
    have HNP := Lib.hid hnp
    have HNM := Lib.hid hnm
    have HND := Lib.hid hnd
    have hp12 : ps.length ≤ 6 := by omega
    have hm12 : ms.length ≤ 5 := by omega
    have hd12 : ds.length ≤ 3 := by omega
    clear N0 N1 hok hnp hnm hnd
    have h5 : ∀ o, w5.cell? ⟨R5, o, none⟩ = (stC E0 E1 E2 E3 ps.length k0 ms.length k1 ds.length k2 ls.length k3 ph co ck bo ba lb gd pr)[o]? := fun o => cell_of_row _ _ o _ _ _ HS5
    go_wp2_with fail
    go_loopw [6] (fun i wr => ∃ (k : Nat) (P : List (Int × Int)), P.length = ps.length ∧ k ≤ ps.length ∧ i = .int .i64 k ∧ StOk d (⟨ph, co, ck, bo, ba, lb, P, ms, ds, ls, gd, pr⟩ : StD) ∧ (∀ j, j < k → (podA P j).1 = 4) ∧ Cur 81 .u64 wr g ∧ Below w.heap.size w wr ∧ Lists wr w.heap.size (.slice V0 d.n0 C0) (.slice V1 d.n1 C1) (.slice V2 d.n2 C2) (.slice V3 d.n3 C3) d ∧ OwnSt wr w.heap.size (.agg (stC E0 E1 E2 E3 ps.length k0 ms.length k1 ds.length k2 ls.length k3 ph co ck bo ba lb gd pr)) (⟨ph, co, ck, bo, ba, lb, P, ms, ds, ls, gd, pr⟩ : StD) ∧ wr.heap[R4]? = some (.cells (planC V0 V1 V2 V3 d.n0 C0 d.n1 C1 d.n2 C2 d.n3 C3 d.l d.p d.t) 29) ∧ wr.heap[R5]? = some (.cells (stC E0 E1 E2 E3 ps.length k0 ms.length k1 ds.length k2 ls.length k3 ph co ck bo ba lb gd pr) 38)) (fun i _ => ps.length - (intOf i).toNat)
    case atStart => exact ⟨0, ps, rfl, Nat.zero_le _, rfl, SO.out, fun j hj => absurd hj (Nat.not_lt_zero _), CU, K, Lp, Os, HP4, HS5⟩
    case round =>
      clear h5 SO CU K Lp Os HP4 HS5
      obtain ⟨k, P, hl, hk, rfl, so, hall, CU, K, Lp, Os, HP4, HS5⟩ := hrel
      have SO := Lib.hid so
      have HALL := Lib.hid hall
      clear so hall
      have h5 : ∀ o, wr.cell? ⟨R5, o, none⟩ = (stC E0 E1 E2 E3 ps.length k0 ms.length k1 ds.length k2 ls.length k3 ph co ck bo ba lb gd pr)[o]? := fun o => cell_of_row _ _ o _ _ _ HS5
      by_cases hlt : k < ps.length
      · obtain ⟨gr, hY, hBg, hgz, ⟨rcs, hgr⟩, HR⟩ := Os.podRow (i := k) (by show k < P.length; omega)
        subst hY
        have q0 := (HR (k * 2) (by rw [podCs_len]; show _ < P.length * 2; omega)).1.trans (podCs_at P (i := k) (by omega)).1
        have hf0 := (HR (k * 2) (by rw [podCs_len]; show _ < P.length * 2; omega)).2
        clear HR
        have hx : k * 2 + 2 ≤ 24 := by omega
        go_wp2_with fail
        have kk : Keeps (· = gr) wr (wr.setCell ⟨gr, k * 2, none⟩ (.int .i64 4)) := Keeps.set (S := (· = gr)) (Keeps.refl _ _) rfl _
        have n4 : ¬ R4 = gr := ne_types hgr HP4 (by decide)
        have n5 : ¬ R5 = gr := ne_types hgr HS5 (by decide)
        have OsX := Os.podSet (i := k) (by show k < P.length; omega) 4
        have x4 := (kk.block _ (Array.getElem?_eq_some_iff.1 HP4).1 n4).trans HP4
        have x5 := (kk.block _ (Array.getElem?_eq_some_iff.1 HS5).1 n5).trans HS5
        have hgg : g < gr := HG gr ⟨_, 6, _, rfl, rfl, rfl⟩
        have LpX := Lp.keeps kk hgr (by decide)
        have CUX := CU.keeps kk (fun b hb e => by omega)
        have KX := K.trans (kk.below (B := w.heap.size) K.size (by rintro b hb rfl; omega))
        exact ⟨⟨k + 1, P.set k (4, (podA P k).2), by rw [List.length_set]; exact hl, by omega, by go_num, stop_ok SO.out (by omega), stop_all HALL.out (by omega), CUX, KX, LpX, OsX, x4, x5⟩, by simp [intOf]; omega⟩
      · obtain rfl : k = ps.length := by omega
        have HST : Hid (∀ i, i < d.n0 → aliveB (podA P i).1 = false) := Lib.hid fun i hi => by rw [HALL.out i (by rw [HNP.out]; exact hi)]; rfl
        clear HALL hk
        go_wp2_with fail
        go_loopw [7] (fun j wr => ∃ (h : Nat) (M : List (Bool × Int)), M.length = ms.length ∧ j = .int .i64 h ∧ h = heldN d (⟨ph, co, ck, bo, ba, lb, P, M, ds, ls, gd, pr⟩ : StD) ∧ StOk d (⟨ph, co, ck, bo, ba, lb, P, M, ds, ls, gd, pr⟩ : StD) ∧ Cur 81 .u64 wr g ∧ Below w.heap.size w wr ∧ Lists wr w.heap.size (.slice V0 d.n0 C0) (.slice V1 d.n1 C1) (.slice V2 d.n2 C2) (.slice V3 d.n3 C3) d ∧ OwnSt wr w.heap.size (.agg (stC E0 E1 E2 E3 ps.length k0 ms.length k1 ds.length k2 ls.length k3 ph co ck bo ba lb gd pr)) (⟨ph, co, ck, bo, ba, lb, P, M, ds, ls, gd, pr⟩ : StD) ∧ wr.heap[R4]? = some (.cells (planC V0 V1 V2 V3 d.n0 C0 d.n1 C1 d.n2 C2 d.n3 C3 d.l d.p d.t) 29) ∧ wr.heap[R5]? = some (.cells (stC E0 E1 E2 E3 ps.length k0 ms.length k1 ds.length k2 ls.length k3 ph co ck bo ba lb gd pr) 38)) (fun j _ => (intOf j).toNat)
        case atStart => exact ⟨ms.length, ms, rfl, rfl, by rw [HNM.out]; exact (held_new HM1.out).symm, SO.out, CU, K, Lp, Os, HP4, HS5⟩
        case round =>
          clear h5 SO CU K Lp Os HP4 HS5
          obtain ⟨h, M, hlM, rfl, hh, so, CU, K, Lp, Os, HP4, HS5⟩ := hrel
          have SO := Lib.hid so
          have HH := Lib.hid hh
          clear so hh
          obtain ⟨t, ht⟩ : ∃ t, t = (⟨ph, co, ck, bo, ba, lb, P, M, ds, ls, gd, pr⟩ : StD) := ⟨_, rfl⟩
          have HT := Lib.hid ht
          have hle : h ≤ 5 := by rw [HH.out]; have := heldN_le d (⟨ph, co, ck, bo, ba, lb, P, M, ds, ls, gd, pr⟩ : StD); omega
          by_cases hpos : 0 < h
          · obtain ⟨f, hf, hff⟩ := free_some SO.out (fun i hi => HST.out i hi) (by rw [← HH.out]; exact hpos)
            have HFF : Hid (0 < (picks d.n2 (freeB d (⟨ph, co, ck, bo, ba, lb, P, M, ds, ls, gd, pr⟩ : StD))).length) := Lib.hid (picks_pos hf hff)
            clear hf hff
            have hp0 : ¬ (h : Int) ≤ 0 := by omega
            go_wp2_with fail
            have hb0 : Below wr.heap.size wr (wr.alloc (.cells #[] 2)) := (Below.refl _ _).alloc (Nat.le_refl _) _
            have O1 : (wr.alloc (.cells #[] 2)).ownsRow wr.heap.size 2 1 (.slice (some ⟨wr.heap.size, 0, none⟩) 0 0) 0 [] := by
              have := World.ownsRow_made (base := wr.heap.size) (e := 2) (size := 1) wr #[] 0 (by simp) (Nat.zero_le _) rfl
              simpa using this
            obtain ⟨i0, hi, hz0, hz1, hz2⟩ := info_parts info_i64
            have HI := Lib.hid hi
            have HZ0 := Lib.hid hz0
            have HZ1 := Lib.hid hz1
            have HZ2 := Lib.hid hz2
            clear hi hz0 hz1 hz2
            obtain ⟨q, hq⟩ : ∃ q, q = freeB d (⟨ph, co, ck, bo, ba, lb, P, M, ds, ls, gd, pr⟩ : StD) := ⟨_, rfl⟩
            have HQ := Lib.hid hq
            rw [← hq] at HFF
            clear hq
            have h4z0 : R4 < wr.heap.size := (Array.getElem?_eq_some_iff.1 HP4).1
            have h5z0 : R5 < wr.heap.size := (Array.getElem?_eq_some_iff.1 HS5).1
            have hgz0 : g < wr.heap.size := CU.lt
            have hKz := K.size
            obtain ⟨wo, hwo⟩ : ∃ x, x = wr := ⟨_, rfl⟩
            subst hwo
            have h4 : ∀ o, wo.cell? ⟨R4, o, none⟩ = (planC V0 V1 V2 V3 d.n0 C0 d.n1 C1 d.n2 C2 d.n3 C3 d.l d.p d.t)[o]? := fun o => cell_of_row _ _ o _ _ _ HP4
            have h5 : ∀ o, wo.cell? ⟨R5, o, none⟩ = (stC E0 E1 E2 E3 ps.length k0 ms.length k1 ds.length k2 ls.length k3 ph co ck bo ba lb gd pr)[o]? := fun o => cell_of_row _ _ o _ _ _ HS5
            have h4a : ∀ o, (wo.alloc (.cells #[] 2)).cell? ⟨R4, o, none⟩ = (planC V0 V1 V2 V3 d.n0 C0 d.n1 C1 d.n2 C2 d.n3 C3 d.l d.p d.t)[o]? := fun o => (hb0.cell (p := ⟨R4, o, none⟩) h4z0).trans (h4 o)
            clear h4 h5
            go_loopw [8, 9] (fun v i wx => ∃ k : Nat, k ≤ d.n2 ∧ i = .int .i64 k ∧ wx.ownsRow wo.heap.size 2 1 v (picks k q).length ((picks k q).map (Value.int .i64)) ∧ Below wo.heap.size wo wx) (fun _ i _ => d.n2 - (intOf i).toNat)
            case atStart => exact ⟨0, Nat.zero_le _, rfl, O1, hb0⟩
            case round =>
              clear O1 hb0 h4a
              skip
              obtain ⟨k, hk, rfl, O, hb⟩ := hrel
              have HO := Lib.hid O
              clear O
              have HB4 := (hb.block _ h4z0).trans HP4
              have HB5 := (hb.block _ h5z0).trans HS5
              have LpY := Lp.below hb
              have OsY := Os.below hb
              have hbz := hb.size
              have h4 := fun o => cell_of_row _ R4 o _ _ _ HB4
              have h5 := fun o => cell_of_row _ R5 o _ _ _ HB5
              by_cases hlt : k < d.n2
              · have hans : (stOkB d (⟨ph, co, ck, bo, ba, lb, P, M, ds, ls, gd, pr⟩ : StD) && mayFreeB d (⟨ph, co, ck, bo, ba, lb, P, M, ds, ls, gd, pr⟩ : StD) k) = q k := by
                  rw [stOkB_iff.2 SO.out, mayFreeB, show inB (k : Int) 0 (d.n2 - 1) = true from by rw [inB_true]; omega, HQ.out, Int.toNat_natCast]; rfl
                go_wp2_with fail
                refine (implMayFree_any _ _ d (⟨ph, co, ck, bo, ba, lb, P, M, ds, ls, gd, pr⟩ : StD) k _ LpY.plan OsY.st).mono ?_
                rw [hans]
                rintro e wz ⟨rfl, hb2⟩
                have HO2 := Lib.hid (ownsRow_below HO.out hb2)
                have hb3 := hb.trans (hb2.mono hb.size)
                clear HO h4 h5 hans HB4 HB5 LpY OsY
                cases hv : q k
                · have HV := Lib.hid (picks_no (n := k) (p := q) hv)
                  go_wp2
                  refine ⟨⟨k + 1, by omega, by go_num, by rw [HV.out]; exact HO2.out, hb3⟩, by simp [intOf]; omega⟩
                · have HV := Lib.hid (picks_yes (n := k) (p := q) hv)
                  have hle2 := picks_le k q
                  have hk5 : k < 5 := by omega
                  have h63 : (picks k q).length + 1 ≤ maxLen := by unfold maxLen; omega
                  have hby : ((picks k q).length + 1) * 8 ≤ 140737488355328 := by omega
                  have H63 := Lib.hid h63
                  have HBY := Lib.hid hby
                  clear h63 hby hle2
                  go_wp2_with (at_builtin; refine wpList_append_own _ rfl _ _ 25 rfl wo.heap.size 2 i0 (.int .i64 0) 1 8 Tryz.underlying25 HI.out HZ0.out HZ1.out HZ2.out rfl (by decide) _ _ _ rfl (HO2.out.alloc (.cells #[.int .i64 k] 2)) ⟨wz.heap.size, 0, none⟩ 1 1 [.int .i64 k] rfl rfl (cell_one_new wz (.int .i64 k) 2) (fun x hx => by simp at hx; subst hx; rfl) H63.out HBY.out (by have := hb3.size; simp <;> omega) ?_; intro v' w4 hown' hgrow hnil)
                  have hb4 : Below wo.heap.size wo w4 := by
                    have hb5 : Below wo.heap.size wo (wz.alloc (.cells #[.int .i64 k] 2)) := hb3.trans ((Below.refl _ _).alloc hb3.size _)
                    obtain ⟨h1, h2, h3, h6, h7⟩ := hgrow
                    exact hb5.trans ⟨h1, h2, h3, h6, fun i hi => h7 i (by have := hb5.size; omega) (fun e => by have := (HO2.out.lt i e.symm).1; omega)⟩
                  refine ⟨⟨k + 1, by omega, by go_num, ?_, hb4⟩, by simp [intOf]; omega⟩
                  rw [HV.out]
                  simpa using hown'
              · obtain rfl : k = d.n2 := by omega
                clear HP4 HS5 Lp Os
                have HP4 := HB4
                have HS5 := HB5
                have Lp := LpY
                have Os := OsY
                have KW := K.trans (hb.mono K.size)
                replace CU := CU.below hb
                clear HB4 HB5 LpY OsY
                obtain ⟨Al, cl, gl, hv, hA, -, hBl, hglz, RL, -, -⟩ := open_row HO.out
                obtain rfl := hA HFF.out
                subst hv
                have hll : ¬ ((picks d.n2 q).length : Int) = 0 := by have := HFF.out; omega
                have hl5 : (picks d.n2 q).length ≤ 5 := by have := picks_le d.n2 q; omega
                go_wp2_with fail
                refine (below_any g (picks d.n2 q).length _ CU (by have := HFF.out; omega) (by omega)).mono ?_
                rintro e w9 ⟨a, rfl, a0, a1, CU9, hk9⟩
                obtain ⟨gcs, hgc⟩ := CU.cells
                have hgl : ¬ gl = g := by omega
                replace Lp := Lp.keeps hk9 hgc (by decide)
                replace Os := Os.keepsT hk9 hgc (by decide)
                replace HP4 := (hk9.block _ (Array.getElem?_eq_some_iff.1 HP4).1 (by show ¬ R4 = g; omega)).trans HP4
                replace HS5 := (hk9.block _ (Array.getElem?_eq_some_iff.1 HS5).1 (by show ¬ R5 = g; exact fun e => by have := ne_types hgc HS5 (by decide); exact this e)).trans HS5
                replace KW := KW.trans (hk9.below (B := w.heap.size) KW.size (by rintro b hb rfl; omega))
                replace CU := CU9
                clear CU9 hgc K
                have K := KW
                clear KW
                obtain ⟨i, rfl⟩ := Int.eq_ofNat_of_zero_le a0
                have hi : i < (picks d.n2 q).length := by omega
                obtain ⟨m, hm, hpm, hqm⟩ := picks_mem (List.getElem_mem hi)
                have ql : w9.cell? ⟨gl, i, none⟩ = some (.int .i64 m) := by
                  refine (hk9.cell (p := ⟨gl, i, none⟩) (hglz HFF.out) hgl).trans ((RL i (by rw [List.length_map]; exact hi)).1.trans ?_)
                  rw [List.getElem?_map, List.getElem?_eq_getElem hi, hpm]
                  rfl
                clear hk9 hpm HO RL h4 h5
                rw [HQ.out] at hqm
                have hfh := free_held hqm
                have hmM : m < M.length := by have := HNM.out; omega
                have hm1 : (mntA M m).1 = true := hfh.1
                obtain ⟨gr, hY, hBg, hgz, ⟨rcs, hgr⟩, HR⟩ := Os.mntRow (i := m) hmM
                subst hY
                have q0 := (HR (m * 2) (by rw [mntCs_len]; show _ < M.length * 2; omega)).1.trans (mntCs_at M (i := m) hmM).1
                have hf0 := (HR (m * 2) (by rw [mntCs_len]; show _ < M.length * 2; omega)).2
                have q1 := (HR (m * 2 + 1) (by rw [mntCs_len]; show _ < M.length * 2; omega)).1.trans (mntCs_at M (i := m) hmM).2
                have hf1 := (HR (m * 2 + 1) (by rw [mntCs_len]; show _ < M.length * 2; omega)).2
                rw [hm1] at q0
                have HFH := Lib.hid hfh
                clear HR hfh hqm
                have h5 := fun o => cell_of_row _ R5 o _ _ _ HS5
                have hx : m * 2 + 2 ≤ 24 := by omega
                go_wp2_with fail
                have kk : Keeps (· = gr) w9 ((w9.setCell ⟨gr, m * 2, none⟩ (.bool false)).setCell ⟨gr, m * 2 + 1, none⟩ (.int .i64 0)) := Keeps.set (S := (· = gr)) (Keeps.set (S := (· = gr)) (Keeps.refl _ _) rfl _) rfl _
                have n4 : ¬ R4 = gr := ne_types hgr HP4 (by decide)
                have n5 : ¬ R5 = gr := ne_types hgr HS5 (by decide)
                have OsX := Os.mntSet (i := m) hmM
                have x4 := (kk.block _ (Array.getElem?_eq_some_iff.1 HP4).1 n4).trans HP4
                have x5 := (kk.block _ (Array.getElem?_eq_some_iff.1 HS5).1 n5).trans HS5
                have hgg : g < gr := HG gr ⟨_, 7, _, rfl, rfl, rfl⟩
                have LpX := Lp.keeps kk hgr (by decide)
                have CUX := CU.keeps kk (fun b hb e => by omega)
                have KX := K.trans (kk.below (B := w.heap.size) K.size (by rintro b hb rfl; omega))
                clear h5 q0 q1 hf0 hf1 ql CU K Lp Os HP4 HS5 kk hgr n4 n5 hgz
                generalize ((w9.setCell ⟨gr, m * 2, none⟩ (.bool false)).setCell ⟨gr, m * 2 + 1, none⟩ (.int .i64 0)) = w10 at OsX x4 x5 LpX CUX KX ⊢
                have CU := CUX
                have K := KX
                have Lp := LpX
                have Os := OsX
                have HP4 := x4
                have HS5 := x5
                clear CUX KX LpX OsX x4 x5
                dsimp only at Os
                have SO2 := Lib.hid (loose_ok SO.out m)
                have HH2 : Hid (h = heldN d (⟨ph, co, ck, bo, ba, lb, P, (M.set m (false, 0)), ds, ls, gd, pr⟩ : StD) + 1) := Lib.hid (HH.out.trans (held_less SO.out hm HFH.out.1))
                have HMN : Hid (∀ i, mntA (M.set m (false, 0)) i = if i = m then (false, 0) else mntA M i) := Lib.hid fun i => mntAt_loose (i := i) SO.out hm
                obtain ⟨M2, hM2⟩ : ∃ x, M.set m (false, 0) = x := ⟨_, rfl⟩
                have hlM2 : M2.length = ms.length := by rw [← hM2, List.length_set]; exact hlM
                rw [show looseS (⟨ph, co, ck, bo, ba, lb, P, M, ds, ls, gd, pr⟩ : StD) m = (⟨ph, co, ck, bo, ba, lb, P, (M.set m (false, 0)), ds, ls, gd, pr⟩ : StD) from rfl] at SO2
                rw [hM2] at Os SO2 HH2 HMN
                clear hM2
                have h4 : ∀ o, w10.cell? ⟨R4, o, none⟩ = (planC V0 V1 V2 V3 d.n0 C0 d.n1 C1 d.n2 C2 d.n3 C3 d.l d.p d.t)[o]? := fun o => cell_of_row _ _ o _ _ _ HP4
                have h5 : ∀ o, w10.cell? ⟨R5, o, none⟩ = (stC E0 (some ⟨gr, 0, none⟩) E2 E3 ps.length k0 ms.length k1 ds.length k2 ls.length k3 ph co ck bo ba lb gd pr)[o]? := fun o => cell_of_row _ _ o _ _ _ HS5
                go_loopw [11] (fun i wx => wx = w10 ∧ ∃ k : Nat, k ≤ d.n2 ∧ i = .int .i64 k) (fun i _ => d.n2 - (intOf i).toNat)
                case atStart => exact ⟨rfl, 0, Nat.zero_le _, rfl⟩
                case round =>
                  obtain ⟨rfl, k, hk, rfl⟩ := hrel
                  by_cases hlt : k < d.n2
                  · have hkM : k < M2.length := by have := HNM.out; omega
                    obtain ⟨gr2, hY, -, -, -, HR⟩ := Os.mntRow (i := k) hkM
                    injection hY with hY
                    injection hY with hY _ _
                    subst hY
                    have q0 := (HR (k * 2) (by rw [mntCs_len]; show _ < M2.length * 2; omega)).1.trans (mntCs_at M2 (i := k) hkM).1
                    obtain ⟨Aq, cq, hv0, -, sl2⟩ := Lp.o2.formR
                    injection hv0 with e0 _ e0c
                    subst e0 e0c
                    obtain ⟨bp, op, hV2, hbp, -, q1⟩ := sl2.cell2 hlt
                    subst hV2
                    have hkm := HMN.out k
                    have hpar := HFH.out.2 k hlt
                    clear HR sl2
                    cases hx1 : (mntA M2 k).1
                    · rw [hx1] at q0
                      clear hkm hpar
                      go_wp2_with fail
                      exact ⟨⟨by trivial, k + 1, by omega, by go_num⟩, by simp [intOf]; omega⟩
                    · rw [hx1] at q0
                      have hpe : (d.x2 (k * 2 + 1) == (m : Int)) = false := by
                        rw [beq_eq_false_iff_ne]
                        intro e
                        by_cases ekm : k = m
                        · rw [if_pos ekm] at hkm; rw [hkm] at hx1; cases hx1
                        · rw [if_neg ekm] at hkm
                          have := hpar e
                          rw [show mntAt (⟨ph, co, ck, bo, ba, lb, P, M, ds, ls, gd, pr⟩ : StD) k = mntA M k from rfl, ← hkm, hx1] at this
                          cases this
                      clear hkm hpar
                      go_wp2_with fail
                      exact ⟨⟨by trivial, k + 1, by omega, by go_num⟩, by simp [intOf]; omega⟩
                  · obtain rfl : k = d.n2 := by omega
                    obtain ⟨h', rfl⟩ : ∃ h', h = h' + 1 := ⟨h - 1, by omega⟩
                    have HH3 : Hid (h' = heldN d (⟨ph, co, ck, bo, ba, lb, P, M2, ds, ls, gd, pr⟩ : StD)) := Lib.hid (by have := HH2.out; omega)
                    clear HH2 HH
                    go_wp2_with fail
                    refine ⟨⟨h', M2, hlM2, by first | (congr 1; omega) | (congr 1) | go_num, HH3.out, SO2.out, CU, K, Lp, Os, HP4, HS5⟩, by first | (simp [intOf]; omega) | simp [intOf]⟩
          · have hp0 : (h : Int) ≤ 0 := by omega
            have H0 : Hid (h = 0) := Lib.hid (by omega)
            have HG : Hid (∀ i, i < d.n3 → giveB d (⟨ph, co, ck, bo, ba, lb, P, M, ds, ls, gd, pr⟩ : StD) i = true) := Lib.hid fun i hi => give_all SO.out (fun j hj => held_none (HH.out.symm.trans H0.out) hj) (fun j hj => HD.out j hj) hi
            clear HH
            obtain ⟨wo, hwo⟩ : ∃ x, x = wr := ⟨_, rfl⟩
            subst hwo
            have h4 : ∀ o, wo.cell? ⟨R4, o, none⟩ = (planC V0 V1 V2 V3 d.n0 C0 d.n1 C1 d.n2 C2 d.n3 C3 d.l d.p d.t)[o]? := fun o => cell_of_row _ _ o _ _ _ HP4
            go_wp2_with fail
            go_loopw [12] (fun i wx => ∃ k : Nat, k ≤ d.n3 ∧ i = .int .i64 k ∧ Below wo.heap.size wo wx) (fun i _ => d.n3 - (intOf i).toNat)
            case atStart => exact ⟨0, Nat.zero_le _, rfl, Below.refl _ _⟩
            case round =>
              clear h4
              obtain ⟨k, hk, rfl, hb⟩ := hrel
              have HB4 := (hb.block _ (Array.getElem?_eq_some_iff.1 HP4).1).trans HP4
              have HB5 := (hb.block _ (Array.getElem?_eq_some_iff.1 HS5).1).trans HS5
              have LpY := Lp.below hb
              have OsY := Os.below hb
              have h4 := fun o => cell_of_row _ R4 o _ _ _ HB4
              have h5 := fun o => cell_of_row _ R5 o _ _ _ HB5
              by_cases hlt : k < d.n3
              · have hans : (stOkB d (⟨ph, co, ck, bo, ba, lb, P, M, ds, ls, gd, pr⟩ : StD) && mayGiveB d (⟨ph, co, ck, bo, ba, lb, P, M, ds, ls, gd, pr⟩ : StD) k) = true := by
                  rw [stOkB_iff.2 SO.out, mayGiveB, show inB (k : Int) 0 (d.n3 - 1) = true from by rw [inB_true]; omega, Int.toNat_natCast, HG.out k hlt]; rfl
                go_wp2_with fail
                refine (implMayGive_any _ _ d (⟨ph, co, ck, bo, ba, lb, P, M, ds, ls, gd, pr⟩ : StD) k _ LpY.plan OsY.st).mono ?_
                rw [hans]
                rintro e wz ⟨rfl, hb2⟩
                have hb3 := hb.trans (hb2.mono hb.size)
                clear h4 h5 hans HB4 HB5 LpY OsY
                go_wp2
                exact ⟨⟨k + 1, by omega, by go_num, hb3⟩, by simp [intOf]; omega⟩
              · obtain rfl : k = d.n3 := by omega
                replace K := K.trans (hb.mono K.size)
                clear LpY OsY Lp Os HP4 HS5 CU SO HG HST hb
                skip
                go_wp2_with fail
                clear h4 h5 HB4 HB5
                refine (drawMayFree_any A n c _ ((HB.out.below K (Nat.le_refl _)).more K.size) hn4).mono ?_
                rintro e w20 ⟨v0, v1, v2, v3, q, us, u, kp, rfl, Lq, Ou, -, -, hb⟩
                replace Lq := Lq.base K.size
                replace Ou := Ou.base K.size
                replace K := K.trans (hb.mono K.size)
                clear hb
                obtain ⟨U0, G0, rfl, -, -⟩ := Lq.o0.formR
                obtain ⟨U1, G1, rfl, -, -⟩ := Lq.o1.formR
                obtain ⟨U2, G2, rfl, -, -⟩ := Lq.o2.formR
                obtain ⟨U3, G3, rfl, -, -⟩ := Lq.o3.formR
                obtain ⟨y0, y1, y2, y3, rfl, -⟩ := Ou.it
                obtain ⟨⟨I0, j0, rfl⟩, ⟨I1, j1, rfl⟩, ⟨I2, j2, rfl⟩, ⟨I3, j3, rfl⟩⟩ := Ou.shapes
                go_upto_region 36 with fail
                have hK0 : Below w20.heap.size w20 w20 := Below.refl _ _
                have XQ := Own.box2 K (planC U0 U1 U2 U3 q.n0 G0 q.n1 G1 q.n2 G2 q.n3 G3 q.l q.p q.t) 29
                have hK1 := hK0.alloc hK0.size (.cells (planC U0 U1 U2 U3 q.n0 G0 q.n1 G1 q.n2 G2 q.n3 G3 q.l q.p q.t) 29)
                have XU := Own.box2 (K.trans (hK1.mono K.size)) (stC I0 I1 I2 I3 u.pods.length j0 u.mnts.length j1 u.devs.length j2 u.lks.length j3 u.ph u.co u.ck u.bo u.ba u.lb u.gd u.pr) 38
                have hK2 := hK1.alloc hK1.size (.cells (stC I0 I1 I2 I3 u.pods.length j0 u.mnts.length j1 u.devs.length j2 u.lks.length j3 u.ph u.co u.ck u.bo u.ba u.lb u.gd u.pr) 38)
                replace XQ := XQ.alloc (.cells (stC I0 I1 I2 I3 u.pods.length j0 u.mnts.length j1 u.devs.length j2 u.lks.length j3 u.ph u.co u.ck u.bo u.ba u.lb u.gd u.pr) 38)
                have hb := hK2
                replace K := K.trans (hb.mono K.size)
                replace Lq := Lq.below hb
                replace Ou := Ou.below hb
                clear hb hK0 hK1 hK2
                try rw [heap_size_alloc_] at XU
                generalize ((w20.alloc (.cells (planC U0 U1 U2 U3 q.n0 G0 q.n1 G1 q.n2 G2 q.n3 G3 q.l q.p q.t) 29)).alloc (.cells (stC I0 I1 I2 I3 u.pods.length j0 u.mnts.length j1 u.devs.length j2 u.lks.length j3 u.ph u.co u.ck u.bo u.ba u.lb u.gd u.pr) 38)) = w21 at K Lq Ou XQ XU ⊢
                have hzw21 := XQ.z
                generalize hww21 : w20.heap.size = B1 at XQ XU hzw21 ⊢
                go_wp2_with fail
                refine (drawMayGive_any A n c w21 ((HB.out.below K (Nat.le_refl _)).more K.size) hn4).mono ?_
                rintro e w22 ⟨v0, v1, v2, v3, r, us, z, kg, rfl, Lr, Oz, -, -, hb⟩
                replace Lr := Lr.base K.size
                replace Oz := Oz.base K.size
                replace K := K.trans (hb.mono K.size)
                replace Lq := Lq.below hb
                replace Ou := Ou.below hb
                replace XQ := XQ.step hb
                replace XU := XU.step hb
                clear hb
                obtain ⟨M0, H0, rfl, -, -⟩ := Lr.o0.formR
                obtain ⟨M1, H1, rfl, -, -⟩ := Lr.o1.formR
                obtain ⟨M2, H2, rfl, -, -⟩ := Lr.o2.formR
                obtain ⟨M3, H3, rfl, -, -⟩ := Lr.o3.formR
                obtain ⟨y0, y1, y2, y3, rfl, -⟩ := Oz.it
                obtain ⟨⟨N0, l0, rfl⟩, ⟨N1, l1, rfl⟩, ⟨N2, l2, rfl⟩, ⟨N3, l3, rfl⟩⟩ := Oz.shapes
                go_upto_region 37 with fail
                have hK0 : Below w22.heap.size w22 w22 := Below.refl _ _
                have XR := Own.box2 K (planC M0 M1 M2 M3 r.n0 H0 r.n1 H1 r.n2 H2 r.n3 H3 r.l r.p r.t) 29
                have hK1 := hK0.alloc hK0.size (.cells (planC M0 M1 M2 M3 r.n0 H0 r.n1 H1 r.n2 H2 r.n3 H3 r.l r.p r.t) 29)
                have XZ := Own.box2 (K.trans (hK1.mono K.size)) (stC N0 N1 N2 N3 z.pods.length l0 z.mnts.length l1 z.devs.length l2 z.lks.length l3 z.ph z.co z.ck z.bo z.ba z.lb z.gd z.pr) 38
                have hK2 := hK1.alloc hK1.size (.cells (stC N0 N1 N2 N3 z.pods.length l0 z.mnts.length l1 z.devs.length l2 z.lks.length l3 z.ph z.co z.ck z.bo z.ba z.lb z.gd z.pr) 38)
                replace XR := XR.alloc (.cells (stC N0 N1 N2 N3 z.pods.length l0 z.mnts.length l1 z.devs.length l2 z.lks.length l3 z.ph z.co z.ck z.bo z.ba z.lb z.gd z.pr) 38)
                have hb := hK2
                replace K := K.trans (hb.mono K.size)
                replace Lq := Lq.below hb
                replace Ou := Ou.below hb
                replace XQ := XQ.step hb
                replace XU := XU.step hb
                replace Lr := Lr.below hb
                replace Oz := Oz.below hb
                clear hb hK0 hK1 hK2
                try rw [heap_size_alloc_] at XZ
                generalize ((w22.alloc (.cells (planC M0 M1 M2 M3 r.n0 H0 r.n1 H1 r.n2 H2 r.n3 H3 r.l r.p r.t) 29)).alloc (.cells (stC N0 N1 N2 N3 z.pods.length l0 z.mnts.length l1 z.devs.length l2 z.lks.length l3 z.ph z.co z.ck z.bo z.ba z.lb z.gd z.pr) 38)) = w23 at K Lq Ou XQ XU Lr Oz XR XZ ⊢
                have hzw23 := XR.z
                generalize hww23 : w22.heap.size = B2 at XR XZ hzw23 ⊢
                refine wp_region_noPanic ?_
                refine wp_region_held_drew (S := fun W => (∀ o, W.cell? ⟨B1, o, none⟩ = (planC U0 U1 U2 U3 q.n0 G0 q.n1 G1 q.n2 G2 q.n3 G3 q.l q.p q.t)[o]?) ∧ (∀ o, W.cell? ⟨B1 + 1, o, none⟩ = (stC I0 I1 I2 I3 u.pods.length j0 u.mnts.length j1 u.devs.length j2 u.lks.length j3 u.ph u.co u.ck u.bo u.ba u.lb u.gd u.pr)[o]?) ∧ (∀ o, W.cell? ⟨B2, o, none⟩ = (planC M0 M1 M2 M3 r.n0 H0 r.n1 H1 r.n2 H2 r.n3 H3 r.l r.p r.t)[o]?) ∧ (∀ o, W.cell? ⟨B2 + 1, o, none⟩ = (stC N0 N1 N2 N3 z.pods.length l0 z.mnts.length l1 z.devs.length l2 z.lks.length l3 z.ph z.co z.ck z.bo z.ba z.lb z.gd z.pr)[o]?)) (by kernel_rfl) (⟨XQ.drew.C, XU.drew.C, XR.drew.C, XZ.drew.C⟩) (fun _ => ?_)
                replace K := K.drew
                replace Lq := Lq.below (Below.refl _ _).drew
                replace Ou := Ou.below (Below.refl _ _).drew
                replace XQ := XQ.drew
                replace XU := XU.drew
                replace Lr := Lr.below (Below.refl _ _).drew
                replace Oz := Oz.below (Below.refl _ _).drew
                replace XR := XR.drew
                replace XZ := XZ.drew
                generalize w23.drew = v0 at K Lq Ou XQ XU Lr Oz XR XZ ⊢
                refine wpAnyH_take (i := 0) (v := ?_) rfl (by kernel_rfl) (by kernel_rfl) (by kernel_rfl) (fun _ _ _ h => h) (Or.inl ⟨by rfl, ?_⟩) ⟨XQ.C, XU.C, XR.C, XZ.C⟩ ?_
                rotate_left 1
                · intro w hSw
                  obtain ⟨hs1, hs2, hs3, hs4⟩ := hSw
                  go_simp
                  try with_reducible rfl
                change wpAnyH _ _ _ _ _ _ _ (Act.put _ (some 131) _) _
                dsimp only [Act.put]
                refine wpAnyH_take (i := 1) (v := ?_) rfl (by kernel_rfl) (by kernel_rfl) (by kernel_rfl) (fun _ _ _ h => h) (Or.inl ⟨by rfl, ?_⟩) ⟨XQ.C, XU.C, XR.C, XZ.C⟩ ?_
                rotate_left 1
                · intro w hSw
                  obtain ⟨hs1, hs2, hs3, hs4⟩ := hSw
                  go_simp
                  try with_reducible rfl
                change wpAnyH _ _ _ _ _ _ _ (Act.put _ (some 132) _) _
                dsimp only [Act.put]
                refine wpAnyH_take (i := 2) (v := ?_) rfl (by kernel_rfl) (by kernel_rfl) (by kernel_rfl) (fun _ _ _ h => h) (Or.inl ⟨by rfl, ?_⟩) ⟨XQ.C, XU.C, XR.C, XZ.C⟩ ?_
                rotate_left 1
                · intro w hSw
                  obtain ⟨hs1, hs2, hs3, hs4⟩ := hSw
                  go_simp
                  try with_reducible rfl
                change wpAnyH _ _ _ _ _ _ _ (Act.put _ (some 133) _) _
                dsimp only [Act.put]
                refine wpAnyH_take (i := 4) (v := ?_) rfl (by kernel_rfl) (by kernel_rfl) (by kernel_rfl) (fun _ _ _ h => h) (Or.inl ⟨by rfl, ?_⟩) ⟨XQ.C, XU.C, XR.C, XZ.C⟩ ?_
                rotate_left 1
                · intro w hSw
                  obtain ⟨hs1, hs2, hs3, hs4⟩ := hSw
                  go_simp
                  try with_reducible rfl
                change wpAnyH _ _ _ _ _ _ _ (Act.put _ (some 135) _) _
                dsimp only [Act.put]
                refine wpAnyH_take (i := 5) (v := ?_) rfl (by kernel_rfl) (by kernel_rfl) (by kernel_rfl) (fun _ _ _ h => h) (Or.inl ⟨by rfl, ?_⟩) ⟨XQ.C, XU.C, XR.C, XZ.C⟩ ?_
                rotate_left 1
                · intro w hSw
                  obtain ⟨hs1, hs2, hs3, hs4⟩ := hSw
                  go_simp
                  try with_reducible rfl
                change wpAnyH _ _ _ _ _ _ _ (Act.put _ (some 136) _) _
                dsimp only [Act.put]
                refine wpAnyH_take (i := 6) (v := ?_) rfl (by kernel_rfl) (by kernel_rfl) (by kernel_rfl) (fun _ _ _ h => h) (Or.inl ⟨by rfl, ?_⟩) ⟨XQ.C, XU.C, XR.C, XZ.C⟩ ?_
                rotate_left 1
                · intro w hSw
                  obtain ⟨hs1, hs2, hs3, hs4⟩ := hSw
                  go_simp
                  try with_reducible rfl
                change wpAnyH _ _ _ _ _ _ _ (Act.put _ (some 137) _) _
                dsimp only [Act.put]
                refine wpAnyH_ready (rs := [3]) (by kernel_rfl) (by simp) ?_
                refine AllReadyH.cons rfl (fun K' hK => ?_) AllReadyH.nil
                go_simp
                go_at_call 30
                refine (implMayFree_any _ _ q u kp v0 Lq.plan Ou.st).mono ?_
                rintro e v1 ⟨rfl, hb⟩
                replace K := K.trans (hb.mono K.size)
                replace Lq := Lq.below hb
                replace Ou := Ou.below hb
                replace XQ := XQ.step hb
                replace XU := XU.step hb
                replace Lr := Lr.below hb
                replace Oz := Oz.below hb
                replace XR := XR.step hb
                replace XZ := XZ.step hb
                clear hb
                go_wp2_with fail
                refine hK.out _ _ ⟨XQ.C, XU.C, XR.C, XZ.C⟩ (fun _ => ?_)
                clear hK K'
                try (change wpAnyH _ _ _ _ _ _ _ (Act.put _ (some 134) _) _; dsimp only [Act.put])
                refine wpAnyH_ready (rs := [7]) (by kernel_rfl) (by simp) ?_
                refine AllReadyH.cons rfl (fun K' hK => ?_) AllReadyH.nil
                go_simp
                go_at_call 34
                refine (mayFree_any _ _ q u kp v1 Lq.plan Ou.st).mono ?_
                rintro e v2 ⟨rfl, hb⟩
                replace K := K.trans (hb.mono K.size)
                replace Lq := Lq.below hb
                replace Ou := Ou.below hb
                replace XQ := XQ.step hb
                replace XU := XU.step hb
                replace Lr := Lr.below hb
                replace Oz := Oz.below hb
                replace XR := XR.step hb
                replace XZ := XZ.step hb
                clear hb
                go_wp2_with fail
                refine hK.out _ _ ⟨XQ.C, XU.C, XR.C, XZ.C⟩ (fun _ => ?_)
                clear hK K'
                try (change wpAnyH _ _ _ _ _ _ _ (Act.put _ (some 138) _) _; dsimp only [Act.put])
                refine wpAnyH_ready (rs := [8]) (by kernel_rfl) (by simp) ?_
                refine AllReadyH.cons rfl (fun K' hK => ?_) AllReadyH.nil
                go_simp
                refine hK.out _ _ ⟨XQ.C, XU.C, XR.C, XZ.C⟩ (fun _ => ?_)
                clear hK K'
                try (change wpAnyH _ _ _ _ _ _ _ (Act.put _ (some 139) _) _; dsimp only [Act.put])
                refine wpAnyH_ready (rs := [9]) (by kernel_rfl) (by simp) ?_
                refine AllReadyH.cons rfl (fun K' hK => ?_) AllReadyH.nil
                go_simp
                refine hK.out _ _ ⟨XQ.C, XU.C, XR.C, XZ.C⟩ (fun _ => ?_)
                clear hK K'
                try (change wpAnyH _ _ _ _ _ _ _ (Act.put _ (some 140) _) _; dsimp only [Act.put])
                refine wpAnyH_take (i := 10) (v := ?_) rfl (by kernel_rfl) (by kernel_rfl) (by kernel_rfl) (fun _ _ _ h => h) (Or.inl ⟨by rfl, ?_⟩) ⟨XQ.C, XU.C, XR.C, XZ.C⟩ ?_
                rotate_left 1
                · intro w hSw
                  obtain ⟨hs1, hs2, hs3, hs4⟩ := hSw
                  go_simp
                  try with_reducible rfl
                change wpAnyH _ _ _ _ _ _ _ (Act.put _ (some 141) _) _
                dsimp only [Act.put]
                refine wpAnyH_take (i := 11) (v := ?_) rfl (by kernel_rfl) (by kernel_rfl) (by kernel_rfl) (fun _ _ _ h => h) (Or.inl ⟨by rfl, ?_⟩) ⟨XQ.C, XU.C, XR.C, XZ.C⟩ ?_
                rotate_left 1
                · intro w hSw
                  obtain ⟨hs1, hs2, hs3, hs4⟩ := hSw
                  go_simp
                  try with_reducible rfl
                change wpAnyH _ _ _ _ _ _ _ (Act.put _ (some 142) _) _
                dsimp only [Act.put]
                refine wpAnyH_take (i := 12) (v := ?_) rfl (by kernel_rfl) (by kernel_rfl) (by kernel_rfl) (fun _ _ _ h => h) (Or.inl ⟨by rfl, ?_⟩) ⟨XQ.C, XU.C, XR.C, XZ.C⟩ ?_
                rotate_left 1
                · intro w hSw
                  obtain ⟨hs1, hs2, hs3, hs4⟩ := hSw
                  go_simp
                  try with_reducible rfl
                change wpAnyH _ _ _ _ _ _ _ (Act.put _ (some 143) _) _
                dsimp only [Act.put]
                refine wpAnyH_take (i := 14) (v := ?_) rfl (by kernel_rfl) (by kernel_rfl) (by kernel_rfl) (fun _ _ _ h => h) (Or.inl ⟨by rfl, ?_⟩) ⟨XQ.C, XU.C, XR.C, XZ.C⟩ ?_
                rotate_left 1
                · intro w hSw
                  obtain ⟨hs1, hs2, hs3, hs4⟩ := hSw
                  go_simp
                  try with_reducible rfl
                change wpAnyH _ _ _ _ _ _ _ (Act.put _ (some 145) _) _
                dsimp only [Act.put]
                refine wpAnyH_take (i := 15) (v := ?_) rfl (by kernel_rfl) (by kernel_rfl) (by kernel_rfl) (fun _ _ _ h => h) (Or.inl ⟨by rfl, ?_⟩) ⟨XQ.C, XU.C, XR.C, XZ.C⟩ ?_
                rotate_left 1
                · intro w hSw
                  obtain ⟨hs1, hs2, hs3, hs4⟩ := hSw
                  go_simp
                  try with_reducible rfl
                change wpAnyH _ _ _ _ _ _ _ (Act.put _ (some 146) _) _
                dsimp only [Act.put]
                refine wpAnyH_take (i := 16) (v := ?_) rfl (by kernel_rfl) (by kernel_rfl) (by kernel_rfl) (fun _ _ _ h => h) (Or.inl ⟨by rfl, ?_⟩) ⟨XQ.C, XU.C, XR.C, XZ.C⟩ ?_
                rotate_left 1
                · intro w hSw
                  obtain ⟨hs1, hs2, hs3, hs4⟩ := hSw
                  go_simp
                  try with_reducible rfl
                change wpAnyH _ _ _ _ _ _ _ (Act.put _ (some 147) _) _
                dsimp only [Act.put]
                refine wpAnyH_ready (rs := [13]) (by kernel_rfl) (by simp) ?_
                refine AllReadyH.cons rfl (fun K' hK => ?_) AllReadyH.nil
                rw [if_pos (by rfl)]
                go_simp
                go_at_call 31
                refine (implMayGive_any _ _ r z kg v2 Lr.plan Oz.st).mono ?_
                rintro e v3 ⟨rfl, hb⟩
                replace K := K.trans (hb.mono K.size)
                replace Lq := Lq.below hb
                replace Ou := Ou.below hb
                replace XQ := XQ.step hb
                replace XU := XU.step hb
                replace Lr := Lr.below hb
                replace Oz := Oz.below hb
                replace XR := XR.step hb
                replace XZ := XZ.step hb
                clear hb
                go_wp2_with fail
                refine hK.out _ _ ⟨XQ.C, XU.C, XR.C, XZ.C⟩ (fun _ => ?_)
                clear hK K'
                try (change wpAnyH _ _ _ _ _ _ _ (Act.put _ (some 144) _) _; dsimp only [Act.put])
                refine wpAnyH_ready (rs := [17]) (by kernel_rfl) (by simp) ?_
                refine AllReadyH.cons rfl (fun K' hK => ?_) AllReadyH.nil
                rw [if_pos (by rfl)]
                go_simp
                go_at_call 35
                refine (mayGive_any _ _ r z kg v3 Lr.plan Oz.st).mono ?_
                rintro e v4 ⟨rfl, hb⟩
                replace K := K.trans (hb.mono K.size)
                replace Lq := Lq.below hb
                replace Ou := Ou.below hb
                replace XQ := XQ.step hb
                replace XU := XU.step hb
                replace Lr := Lr.below hb
                replace Oz := Oz.below hb
                replace XR := XR.step hb
                replace XZ := XZ.step hb
                clear hb
                go_wp2_with fail
                refine hK.out _ _ ⟨XQ.C, XU.C, XR.C, XZ.C⟩ (fun _ => ?_)
                clear hK K'
                try (change wpAnyH _ _ _ _ _ _ _ (Act.put _ (some 148) _) _; dsimp only [Act.put])
                refine wpAnyH_ready (rs := [18]) (by kernel_rfl) (by simp) ?_
                refine AllReadyH.cons rfl (fun K' hK => ?_) AllReadyH.nil
                rw [if_pos (by rfl)]
                go_simp
                refine hK.out _ _ ⟨XQ.C, XU.C, XR.C, XZ.C⟩ (fun _ => ?_)
                clear hK K'
                try (change wpAnyH _ _ _ _ _ _ _ (Act.put _ (some 149) _) _; dsimp only [Act.put])
                refine wpAnyH_ready (rs := [19]) (by kernel_rfl) (by simp) ?_
                refine AllReadyH.cons rfl (fun K' hK => ?_) AllReadyH.nil
                go_simp
                refine hK.out _ _ ⟨XQ.C, XU.C, XR.C, XZ.C⟩ (fun _ => ?_)
                clear hK K'
                try (change wpAnyH _ _ _ _ _ _ _ (Act.put _ (some 150) _) _; dsimp only [Act.put])
                refine wpAnyH_ready (rs := [20]) (by kernel_rfl) (by simp) ?_
                refine AllReadyH.cons rfl (fun K' hK => ?_) AllReadyH.nil
                go_simp
                refine hK.out _ _ ⟨XQ.C, XU.C, XR.C, XZ.C⟩ (fun _ => ?_)
                clear hK K'
                try (change wpAnyH _ _ _ _ _ _ _ (Act.put _ (some 2) _) _; dsimp only [Act.put])
                refine wpAnyH_done (by kernel_rfl) ?_ _
                refine NoPanic.normal ?_
                go_wp2_with fail
                go_ret
                exact ⟨ret_bool (by simp), K⟩
end Go.Proofs.YtdkmhaghnfhajaaGreat
/- Hf -/
set_option linter.unusedVariables false
namespace Go.Proofs.YtdkmhaghnfhajaaGreat
open Go.ChangeShapes Go.WideShapes Go.ChangeAt Go.RowKit Go.Deep

namespace lawHoldsRow
set_option maxRecDepth 100000 in
theorem contract (H : Type) (enc : TypeId × Value → H) (W : World) (base : Nat) (args : Array Value) (ds gs : List (DataW H)) (before : List MemPlace)
    (hval : ∀ (j : Nat) t v, Tryz.f5.params[j]? = some t → args[j]? = some v → Value.okWide Tryz.prog W .any base t v)
    (hW : DataW.Whole enc Tryz.prog Tryz.f5.params.toList Rows.fnHoldsSpec.vars false W args.toList ds gs before) :
    Calls Tryz.prog 5 args W fun e W' => ∃ v, e = .returned v ∧ Rows.fnHoldsSpec.post enc Tryz.prog Tryz.f5 false true false false W args v W' := by
  have hW' := hW
  obtain ⟨p, q, hA0, hV, rfl, hfz, hnd⟩ := hW
  have hA : DataW.TrodAll enc Tryz.prog W 0 (fun _ => true) true Tryz.f5.params.toList args.toList ds p := hA0
  rw [Tryz.params5] at hA hval
  obtain ⟨v0, d0, rfl, rfl, h0⟩ := trodAll_one hA
  obtain ⟨rfl, rfl⟩ := trodVars_none hV
  obtain ⟨A, n, c, rfl, hn, hB⟩ := open_bytes (hval 0 22 v0 rfl rfl) h0
  clear hA0
  simp only [List.append_nil] at hW'
  have hlt : ∀ x ∈ p, x.block < W.heap.size := fun x hx => by simpa using hW'.lt x hx
  refine (lawHolds A n c W hB hn).mono fun e W' ⟨he, K⟩ => ?_
  subst he
  refine ⟨_, rfl, ⟨_, _, _, [], p, [], hW', ?_, ?_, ?_, K.frame _, fun h => by cases h⟩⟩
  · exact trodAll_mk1 (shut_bool Tryz.underlying4 _)
  · exact trodAll_mk1 (Below.trod laid_ (by kernel_rfl) (of_decide_eq_true (by kernel_rfl)) h0 K hlt)
  · exact rfl

set_option maxRecDepth 100000 in
theorem lifted (os : Os) (started : os.Started) (H : Type) (enc : TypeId × Value → H) :
    ReturnsInHanded {} Tryz.checked os 5 .any (Rows.fnHoldsSpec.pre6 enc Tryz.prog Tryz.f5 Rows.fnHoldsRow.domain false) (Rows.fnHoldsSpec.post enc Tryz.prog Tryz.f5 false true false false) := by
  refine returnsInHanded_of_change (C := Tryz.checked) (s := Rows.fnHoldsSpec) own_ started (by kernel_rfl) Tryz.func5
    (ChangeSpec.witness6 (enc := enc) (C := Tryz.checked) (s := Rows.fnHoldsSpec) false ⟨#[], #[.slice none 0 0], []⟩ 8 (by kernel_rfl) (by kernel_rfl) (by kernel_rfl) (by kernel_rfl)) ?_
  intro W base args ds gs before hval hW _ _
  exact contract H enc W base args ds gs before hval hW
end lawHoldsRow

theorem fnHolds_holds : Rows.FnHoldsSaid :=
  OpenClaim.holds_of_wide 5 Tryz.f5 rfl rfl rfl rfl rfl rfl rfl ⟨rfl, rfl, rfl, rfl, rfl⟩ rfl rfl rfl rfl rfl (by kernel_rfl) Tryz.func5 (by kernel_rfl)
    (of_decide_eq_true (by kernel_rfl)) (by unfold Func.isWrapper; first | (rw [if_pos (by decide +kernel)]; kernel_rfl) | (rw [if_neg (by decide +kernel)]; exact ⟨rfl, rfl⟩))
    (fun os started H enc _ => lawHoldsRow.lifted os started H enc)
#print axioms fnHolds_holds
end Go.Proofs.YtdkmhaghnfhajaaGreat
