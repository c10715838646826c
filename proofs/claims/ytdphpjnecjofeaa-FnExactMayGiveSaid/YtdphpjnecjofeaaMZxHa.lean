/-
  Chapter 9: MayFree, MayGive, the model's and the program's.
-/
import Derived.Test.YtdphpjnecjofeaaMZ8
import Derived.Test.YtdphpjnecjofeaaMZ4
import Derived.Test.YtdphpjnecjofeaaMZxVc
import Derived.Test.YtdphpjnecjofeaaMZ9
import Derived.Test.YtdphpjnecjofeaaMZ7
import Derived.Deep.DeepCutAuto
/- Ha -/
set_option linter.unusedVariables false
namespace Go.Proofs.Ytdphpjnecjofeaa
open Go.RowKit

def mayFreeB (d : PlanD) (s : StD) (a : Int) : Bool := inB a 0 (d.n2 - 1) && freeB d s a.toNat
def mayGiveB (d : PlanD) (s : StD) (a : Int) : Bool := inB a 0 (d.n3 - 1) && giveB d s a.toNat

set_option maxRecDepth 4000 in
set_option maxHeartbeats 4000000 in
theorem mayFree_any (pv sv : Value) (d : PlanD) (s : StD) (a : Int) (w : World) (hp : IsPlan w w.heap.size pv d) (hs : IsSt w w.heap.size sv s) :
    Calls Try.prog 33 #[pv, sv, .int .i64 a] w fun e w' => e = .returned (.bool (stOkB d s && mayFreeB d s a)) ∧ Below w.heap.size w w' := by
  have HP := Lib.hid hp
  have HS := Lib.hid hs
  obtain ⟨⟨P0, P1, P2, P3, k0, k1, k2, k3, rfl, s0, s1, s2, s3⟩, b0, b1, b2, b3⟩ := hp
  obtain ⟨⟨A0, A1, A2, A3, c0, c1, c2, c3, rfl, t0, t1, t2, t3⟩, f0, f1, f2, f3⟩ := hs
  have S0 := Lib.hid s0
  have S1 := Lib.hid s1
  have S2 := Lib.hid s2
  have S3 := Lib.hid s3
  have R0 := Lib.hid t0
  have R1 := Lib.hid t1
  have R2 := Lib.hid t2
  have R3 := Lib.hid t3
  unfold maxLen at b0 b1 b2 b3 f0 f1 f2 f3
  clear s0 s1 s2 s3 t0 t1 t2 t3
  have T0 := Two.start w (planC P0 P1 P2 P3 d.n0 k0 d.n1 k1 d.n2 k2 d.n3 k3 d.l d.p d.t) (stC A0 A1 A2 A3 s.pods.length c0 s.mnts.length c1 s.devs.length c2 s.lks.length c3 s.ph s.co s.ck s.bo s.ba s.lb s.gd s.pr) 41 46
  obtain ⟨ans, hans⟩ : ∃ ans, (stOkB d s && mayFreeB d s a) = ans := ⟨_, rfl⟩
  rw [hans]
  have HANS := Lib.hid hans
  clear hans
  go_enter Try.func33, Try.ntmps33
  go_wp2_with fail
  refine (specStateOk_any _ _ d s _ ((HP.out.below T0.A.K (Nat.le_refl _)).more T0.A.K.size) ((HS.out.below T0.A.K (Nat.le_refl _)).more T0.A.K.size)).mono ?_
  rintro e w1 ⟨rfl, hb⟩
  have T1 := T0.step hb
  have hC := T1.A.C
  have hD := T1.O.C
  clear hb T0
  cases hok : stOkB d s
  · have OKB := Lib.hid hok
    clear hok
    go_wp2
    all_goals (go_ret; exact ⟨ret_bool (by rw [← HANS.out, OKB.out]; rfl), T1.A.K⟩)
  · have OK := Lib.hid (stOkB_iff.1 hok)
    have OKB := Lib.hid hok
    clear hok
    go_wp2_with fail
    refine (in_any _ _ _ _).mono ?_
    rintro e w2 ⟨rfl, rfl⟩
    cases hin : inB a 0 (d.n2 - 1)
    · have HIN := Lib.hid hin
      clear hin
      go_wp2
      all_goals (go_ret; exact ⟨ret_bool (by rw [← HANS.out, OKB.out]; simp [mayFreeB, HIN.out]), T1.A.K⟩)
    · have HIN := Lib.hid hin
      obtain ⟨i, rfl, hi⟩ := index_nat (a := a) (n := d.n2) (by rw [hin]; decide)
      clear hin
      go_wp2_with fail
      refine (l9Free_any _ _ d s i _ ((HP.out.below T1.A.K (Nat.le_refl _)).more T1.A.K.size) ((HS.out.below T1.A.K (Nat.le_refl _)).more T1.A.K.size) OK.out hi).mono ?_
      rintro e w3 ⟨rfl, hb3⟩
      have T3 := T1.step hb3
      have HANS2 : Hid (ans = freeB d s i) := Lib.hid (by rw [← HANS.out, OKB.out]; simp [mayFreeB, HIN.out])
      clear hb3 T1 hC hD
      generalize freeB d s i = y at HANS2 ⊢
      go_wp2
      all_goals (go_ret; exact ⟨ret_bool (by rw [HANS2.out]), T3.A.K⟩)

set_option maxRecDepth 4000 in
set_option maxHeartbeats 4000000 in
theorem mayGive_any (pv sv : Value) (d : PlanD) (s : StD) (a : Int) (w : World) (hp : IsPlan w w.heap.size pv d) (hs : IsSt w w.heap.size sv s) :
    Calls Try.prog 35 #[pv, sv, .int .i64 a] w fun e w' => e = .returned (.bool (stOkB d s && mayGiveB d s a)) ∧ Below w.heap.size w w' := by
  have HP := Lib.hid hp
  have HS := Lib.hid hs
  obtain ⟨⟨P0, P1, P2, P3, k0, k1, k2, k3, rfl, s0, s1, s2, s3⟩, b0, b1, b2, b3⟩ := hp
  obtain ⟨⟨A0, A1, A2, A3, c0, c1, c2, c3, rfl, t0, t1, t2, t3⟩, f0, f1, f2, f3⟩ := hs
  have S0 := Lib.hid s0
  have S1 := Lib.hid s1
  have S2 := Lib.hid s2
  have S3 := Lib.hid s3
  have R0 := Lib.hid t0
  have R1 := Lib.hid t1
  have R2 := Lib.hid t2
  have R3 := Lib.hid t3
  unfold maxLen at b0 b1 b2 b3 f0 f1 f2 f3
  clear s0 s1 s2 s3 t0 t1 t2 t3
  have T0 := Two.start w (planC P0 P1 P2 P3 d.n0 k0 d.n1 k1 d.n2 k2 d.n3 k3 d.l d.p d.t) (stC A0 A1 A2 A3 s.pods.length c0 s.mnts.length c1 s.devs.length c2 s.lks.length c3 s.ph s.co s.ck s.bo s.ba s.lb s.gd s.pr) 41 46
  obtain ⟨ans, hans⟩ : ∃ ans, (stOkB d s && mayGiveB d s a) = ans := ⟨_, rfl⟩
  rw [hans]
  have HANS := Lib.hid hans
  clear hans
  go_enter Try.func35, Try.ntmps35
  go_wp2_with fail
  refine (specStateOk_any _ _ d s _ ((HP.out.below T0.A.K (Nat.le_refl _)).more T0.A.K.size) ((HS.out.below T0.A.K (Nat.le_refl _)).more T0.A.K.size)).mono ?_
  rintro e w1 ⟨rfl, hb⟩
  have T1 := T0.step hb
  have hC := T1.A.C
  have hD := T1.O.C
  clear hb T0
  cases hok : stOkB d s
  · have OKB := Lib.hid hok
    clear hok
    go_wp2
    all_goals (go_ret; exact ⟨ret_bool (by rw [← HANS.out, OKB.out]; rfl), T1.A.K⟩)
  · have OK := Lib.hid (stOkB_iff.1 hok)
    have OKB := Lib.hid hok
    clear hok
    go_wp2_with fail
    refine (in_any _ _ _ _).mono ?_
    rintro e w2 ⟨rfl, rfl⟩
    cases hin : inB a 0 (d.n3 - 1)
    · have HIN := Lib.hid hin
      clear hin
      go_wp2
      all_goals (go_ret; exact ⟨ret_bool (by rw [← HANS.out, OKB.out]; simp [mayGiveB, HIN.out]), T1.A.K⟩)
    · have HIN := Lib.hid hin
      obtain ⟨i, rfl, hi⟩ := index_nat (a := a) (n := d.n3) (by rw [hin]; decide)
      clear hin
      go_wp2_with fail
      refine (l9Give_any _ _ d s i _ ((HP.out.below T1.A.K (Nat.le_refl _)).more T1.A.K.size) ((HS.out.below T1.A.K (Nat.le_refl _)).more T1.A.K.size) OK.out hi).mono ?_
      rintro e w3 ⟨rfl, hb3⟩
      have T3 := T1.step hb3
      have HANS2 : Hid (ans = giveB d s i) := Lib.hid (by rw [← HANS.out, OKB.out]; simp [mayGiveB, HIN.out])
      clear hb3 T1 hC hD
      generalize giveB d s i = y at HANS2 ⊢
      go_wp2
      all_goals (go_ret; exact ⟨ret_bool (by rw [HANS2.out]), T3.A.K⟩)

set_option maxRecDepth 100000 in
set_option maxHeartbeats 4000000 in
theorem implMayGive_any (pv sv : Value) (d : PlanD) (s : StD) (a : Int) (w : World) (hp : IsPlan w w.heap.size pv d) (hs : IsSt w w.heap.size sv s) :
    Calls Try.prog 36 #[pv, sv, .int .i64 a] w fun e w' => e = .returned (.bool (stOkB d s && mayGiveB d s a)) ∧ Below w.heap.size w w' := by
  have HP := Lib.hid hp
  have HS := Lib.hid hs
  obtain ⟨⟨P0, P1, P2, P3, k0, k1, k2, k3, rfl, s0, s1, s2, s3⟩, b0, b1, b2, b3⟩ := hp
  obtain ⟨⟨A0, A1, A2, A3, c0, c1, c2, c3, rfl, t0, t1, t2, t3⟩, f0, f1, f2, f3⟩ := hs
  have S0 := Lib.hid s0
  have S1 := Lib.hid s1
  have S2 := Lib.hid s2
  have S3 := Lib.hid s3
  have R0 := Lib.hid t0
  have R1 := Lib.hid t1
  have R2 := Lib.hid t2
  have R3 := Lib.hid t3
  unfold maxLen at b0 b1 b2 b3 f0 f1 f2 f3
  clear s0 s1 s2 s3 t0 t1 t2 t3
  have T0 := Two.start w (planC P0 P1 P2 P3 d.n0 k0 d.n1 k1 d.n2 k2 d.n3 k3 d.l d.p d.t) (stC A0 A1 A2 A3 s.pods.length c0 s.mnts.length c1 s.devs.length c2 s.lks.length c3 s.ph s.co s.ck s.bo s.ba s.lb s.gd s.pr) 41 46
  obtain ⟨ans, hans⟩ : ∃ ans, (stOkB d s && mayGiveB d s a) = ans := ⟨_, rfl⟩
  rw [hans]
  have HANS := Lib.hid hans
  clear hans
  go_enter Try.func36, Try.ntmps36
  go_wp2_with fail
  refine (implStateOk_any _ _ d s _ ((HP.out.below T0.A.K (Nat.le_refl _)).more T0.A.K.size) ((HS.out.below T0.A.K (Nat.le_refl _)).more T0.A.K.size)).mono ?_
  rintro e w1 ⟨rfl, hb⟩
  have T1 := T0.step hb
  have hC := T1.A.C
  have hD := T1.O.C
  clear hb T0
  cases hok : stOkB d s
  · have OKB := Lib.hid hok
    clear hok
    go_wp2
    all_goals (go_ret; exact ⟨ret_bool (by rw [← HANS.out, OKB.out]; rfl), T1.A.K⟩)
  · have OK := Lib.hid (stOkB_iff.1 hok)
    have OKB := Lib.hid hok
    clear hok
    go_wp2_with fail
    refine (isIndex_any _ _ _).mono ?_
    rintro e w2 ⟨rfl, rfl⟩
    cases hin : inB a 0 (d.n3 - 1)
    · have HIN := Lib.hid hin
      clear hin
      go_wp2
      all_goals (go_ret; exact ⟨ret_bool (by rw [← HANS.out, OKB.out]; simp [mayGiveB, HIN.out]), T1.A.K⟩)
    · have HIN := Lib.hid hin
      obtain ⟨i, rfl, hi⟩ := index_nat (a := a) (n := d.n3) (by rw [hin]; decide)
      clear hin
      have hld : i < s.devs.length := by rw [OK.out.nd]; exact hi
      obtain ⟨m, hm, hml, hmp⟩ := dev_mnt OK.out.plan hi
      have hlm : m < s.mnts.length := by rw [OK.out.nm]; exact hml
      obtain ⟨b, off, rfl, hb, q0⟩ := (S3.out.own T1.A).cell1 hi
      obtain ⟨b', off', rfl, hb', hc⟩ := (R2.out.below T1.A.K (Nat.le_refl _)).cell hld
      have p0 := (hc 0 (by decide)).trans (devCs_at s.devs (i := i * 1 + 0) (by omega))
      rw [Nat.add_zero, Nat.mul_one] at p0
      obtain ⟨b2_, off2, rfl, hb2, hc2⟩ := (R1.out.below T1.A.K (Nat.le_refl _)).cell hlm
      have r0 := (hc2 0 (by decide)).trans (mntCs_at s.mnts hlm).1
      rw [Nat.add_zero] at r0
      clear hc hc2
      rw [hm] at q0
      have GB : Hid (giveB d s i = (devA s.devs i && !(mntA s.mnts m).1)) := Lib.hid (by unfold giveB; rw [hmp]; rfl)
      have HANS2 : Hid (ans = giveB d s i) := Lib.hid (by rw [← HANS.out, OKB.out]; simp [mayGiveB, HIN.out])
      generalize giveB d s i = g at GB HANS2
      generalize devA s.devs i = x at p0 GB
      generalize (mntA s.mnts m).1 = y at r0 GB
      clear hm hmp
      cases x
      · go_wp2
        all_goals (go_ret; exact ⟨ret_bool (by rw [HANS2.out, GB.out]; rfl), (T1.A).K⟩)
      · go_wp2_with fail
        go_quiet (fail)
        go_wp2
        all_goals (go_ret; exact ⟨ret_bool (by rw [HANS2.out, GB.out]; simp), (T1.A.drewN _).K⟩)

set_option maxRecDepth 100000 in
set_option maxHeartbeats 4000000 in
theorem implChildHeld_any (pv sv : Value) (d : PlanD) (s : StD) (i : Nat) (w : World) (hp : IsPlan w w.heap.size pv d) (hs : IsSt w w.heap.size sv s) (hok : StOk d s) :
    Calls Try.prog 89 #[pv, sv, .int .i64 i] w fun e w' => e = .returned (.bool (!(List.range d.n2).all (kidB d s i))) ∧ Below w.heap.size w w' := by
  have HP := Lib.hid hp
  have HS := Lib.hid hs
  obtain ⟨⟨P0, P1, P2, P3, k0, k1, k2, k3, rfl, s0, s1, s2, s3⟩, b0, b1, b2, b3⟩ := hp
  obtain ⟨⟨A0, A1, A2, A3, c0, c1, c2, c3, rfl, t0, t1, t2, t3⟩, f0, f1, f2, f3⟩ := hs
  have S0 := Lib.hid s0
  have S1 := Lib.hid s1
  have S2 := Lib.hid s2
  have S3 := Lib.hid s3
  have R0 := Lib.hid t0
  have R1 := Lib.hid t1
  have R2 := Lib.hid t2
  have R3 := Lib.hid t3
  unfold maxLen at b0 b1 b2 b3 f0 f1 f2 f3
  clear s0 s1 s2 s3 t0 t1 t2 t3
  have T0 := Two.start w (planC P0 P1 P2 P3 d.n0 k0 d.n1 k1 d.n2 k2 d.n3 k3 d.l d.p d.t) (stC A0 A1 A2 A3 s.pods.length c0 s.mnts.length c1 s.devs.length c2 s.lks.length c3 s.ph s.co s.ck s.bo s.ba s.lb s.gd s.pr) 41 46
  have HLN := Lib.hid hok.nm
  obtain ⟨ans, hans⟩ : ∃ ans, (List.range d.n2).all (kidB d s i) = ans := ⟨_, rfl⟩
  rw [hans]
  have HANS := Lib.hid hans
  clear hans hok
  have hC := T0.A.C
  have hD := T0.O.C
  go_enter Try.func89, Try.ntmps89
  go_wp2
  go_step3
  go_wp2
  go_step3
  go_wp2_with fail
  go_loopw [7, 13] (fun h j wr => h = .bool false ∧ ∃ k : Nat, k ≤ d.n2 ∧ j = .int .i64 k ∧ (∀ j, j < k → kidB d s i j = true) ∧ Two w wr (planC P0 P1 P2 P3 d.n0 k0 d.n1 k1 d.n2 k2 d.n3 k3 d.l d.p d.t) (stC A0 A1 A2 A3 s.pods.length c0 s.mnts.length c1 s.devs.length c2 s.lks.length c3 s.ph s.co s.ck s.bo s.ba s.lb s.gd s.pr)) (fun _ j _ => d.n2 - (intOf j).toNat)
  case atStart => exact ⟨rfl, 0, Nat.zero_le _, rfl, fun j hj => absurd hj (by omega), T0⟩
  case round =>
    clear hC hD T0
    obtain ⟨rfl, k, hk, rfl, hall, T⟩ := hrel
    have HALL := Lib.hid hall
    clear hall
    have hC := T.A.C
    have hD := T.O.C
    by_cases hlt : k < d.n2
    · have hlp : k < s.mnts.length := by rw [HLN.out]; exact hlt
      obtain ⟨b3_, off3, rfl, hb3, q0, q1⟩ := (S2.out.own T.A).cell2 hlt
      obtain ⟨b4_, off4, rfl, hb4, hc⟩ := (R1.out.below T.A.K (Nat.le_refl _)).cell hlp
      have r0 := (hc 0 (by decide)).trans (mntCs_at s.mnts (i := k) hlp).1
      rw [Nat.add_zero] at r0
      clear hc
      have KB : Hid (kidB d s i k = !(decide (d.x2 (k * 2 + 1) = i) && (mntA s.mnts k).1)) := Lib.hid rfl
      have HFALSE : Hid (kidB d s i k = false → ans = false) := Lib.hid fun h => by rw [← HANS.out, all_not hlt h]
      have HSTEP : Hid (kidB d s i k = true → ∀ j, j < k + 1 → kidB d s i j = true) := Lib.hid fun h => step_all HALL.out h
      have hz := T.A.z
      have hz' := T.O.z
      have hb4' : b4_ < wr.heap.size := Nat.lt_of_lt_of_le hb4 T.A.K.size
      generalize kidB d s i k = kb at KB HFALSE HSTEP
      generalize (mntA s.mnts k).1 = z at r0 KB
      generalize d.x2 (k * 2) = p at q0
      cases hv : (d.x2 (k * 2 + 1) != (i : Int))
      · cases z
        · have CF : Hid (kb = true) := Lib.hid (by rw [KB.out]; simp)
          clear KB HFALSE
          go_wp2
          refine ⟨⟨rfl, k + 1, by omega, by go_num, HSTEP.out CF.out, T.step ((Below.refl _ _).alloc (Nat.le_refl _) _)⟩, by simp [intOf]; omega⟩
        · have CF : Hid (kb = false) := Lib.hid (by rw [KB.out]; simp at hv; simp [hv])
          clear KB HSTEP
          go_wp2
          all_goals (first | rw [Exit.noGoto_ret] | skip); all_goals (go_ret; exact ⟨ret_bool (by rw [HFALSE.out CF.out]; rfl), (T.step ((Below.refl _ _).alloc (Nat.le_refl _) _)).A.K⟩)
      · have CF : Hid (kb = true) := Lib.hid (by rw [KB.out]; simp at hv; simp [hv])
        clear KB HFALSE
        go_wp2
        refine ⟨⟨rfl, k + 1, by omega, by go_num, HSTEP.out CF.out, T.step ((Below.refl _ _).alloc (Nat.le_refl _) _)⟩, by simp [intOf]; omega⟩
    · obtain rfl : k = d.n2 := by omega
      go_wp2
      all_goals (first | rw [Exit.noGoto_ret] | skip); all_goals (go_ret; exact ⟨ret_bool (by rw [← HANS.out, all_yes HALL.out]; rfl), T.A.K⟩)

set_option maxRecDepth 100000 in
set_option maxHeartbeats 4000000 in
theorem implMayFree_any (pv sv : Value) (d : PlanD) (s : StD) (a : Int) (w : World) (hp : IsPlan w w.heap.size pv d) (hs : IsSt w w.heap.size sv s) :
    Calls Try.prog 34 #[pv, sv, .int .i64 a] w fun e w' => e = .returned (.bool (stOkB d s && mayFreeB d s a)) ∧ Below w.heap.size w w' := by
  have HP := Lib.hid hp
  have HS := Lib.hid hs
  obtain ⟨⟨P0, P1, P2, P3, k0, k1, k2, k3, rfl, s0, s1, s2, s3⟩, b0, b1, b2, b3⟩ := hp
  obtain ⟨⟨A0, A1, A2, A3, c0, c1, c2, c3, rfl, t0, t1, t2, t3⟩, f0, f1, f2, f3⟩ := hs
  have S0 := Lib.hid s0
  have S1 := Lib.hid s1
  have S2 := Lib.hid s2
  have S3 := Lib.hid s3
  have R0 := Lib.hid t0
  have R1 := Lib.hid t1
  have R2 := Lib.hid t2
  have R3 := Lib.hid t3
  unfold maxLen at b0 b1 b2 b3 f0 f1 f2 f3
  clear s0 s1 s2 s3 t0 t1 t2 t3
  have T0 := Two.start w (planC P0 P1 P2 P3 d.n0 k0 d.n1 k1 d.n2 k2 d.n3 k3 d.l d.p d.t) (stC A0 A1 A2 A3 s.pods.length c0 s.mnts.length c1 s.devs.length c2 s.lks.length c3 s.ph s.co s.ck s.bo s.ba s.lb s.gd s.pr) 41 46
  obtain ⟨ans, hans⟩ : ∃ ans, (stOkB d s && mayFreeB d s a) = ans := ⟨_, rfl⟩
  rw [hans]
  have HANS := Lib.hid hans
  clear hans
  go_enter Try.func34, Try.ntmps34
  go_wp2_with fail
  refine (implStateOk_any _ _ d s _ ((HP.out.below T0.A.K (Nat.le_refl _)).more T0.A.K.size) ((HS.out.below T0.A.K (Nat.le_refl _)).more T0.A.K.size)).mono ?_
  rintro e w1 ⟨rfl, hb⟩
  have T1 := T0.step hb
  have hC := T1.A.C
  have hD := T1.O.C
  clear hb T0
  cases hok : stOkB d s
  · have OKB := Lib.hid hok
    clear hok
    go_wp2
    all_goals (go_ret; exact ⟨ret_bool (by rw [← HANS.out, OKB.out]; rfl), T1.A.K⟩)
  · have OK := Lib.hid (stOkB_iff.1 hok)
    have OKB := Lib.hid hok
    clear hok
    go_wp2_with fail
    refine (isIndex_any _ _ _).mono ?_
    rintro e w2 ⟨rfl, rfl⟩
    cases hin : inB a 0 (d.n2 - 1)
    · have HIN := Lib.hid hin
      clear hin
      go_wp2
      all_goals (go_ret; exact ⟨ret_bool (by rw [← HANS.out, OKB.out]; simp [mayFreeB, HIN.out]), T1.A.K⟩)
    · have HIN := Lib.hid hin
      obtain ⟨i, rfl, hi⟩ := index_nat (a := a) (n := d.n2) (by rw [hin]; decide)
      clear hin
      have HLN := Lib.hid OK.out.nm
      obtain ⟨m, hm, hml, hmp⟩ := mount_pod OK.out.plan hi
      have hlm : m < s.pods.length := by rw [OK.out.np]; exact hml
      obtain ⟨b, off, rfl, hb, q0, -⟩ := (S2.out.own T1.A).cell2 hi
      obtain ⟨b', off', rfl, hb', hc⟩ := (R1.out.below T1.A.K (Nat.le_refl _)).cell (i := i) (by rw [HLN.out]; exact hi)
      have p0 := (hc 0 (by decide)).trans (mntCs_at s.mnts (i := i) (by rw [HLN.out]; exact hi)).1
      obtain ⟨b2_, off2, rfl, hb2, hc2⟩ := (R0.out.below T1.A.K (Nat.le_refl _)).cell hlm
      have r0 := (hc2 0 (by decide)).trans (podCs_at s.pods hlm).1
      have r1 := (hc2 1 (by decide)).trans (podCs_at s.pods hlm).2
      rw [Nat.add_zero] at r0 p0
      clear hc hc2
      rw [hm] at q0
      have GB : Hid (ans = ((mntA s.mnts i).1 && !aliveB (podA s.pods m).1 && (List.range d.n2).all (kidB d s i))) := Lib.hid (by
        rw [← HANS.out, OKB.out, mayFreeB, HIN.out, Int.toNat_natCast]; unfold freeB; rw [hmp]; rfl)
      have hlti : i < s.mnts.length := by rw [HLN.out]; exact hi
      generalize hX : (mntA s.mnts i).1 = x at p0 GB
      generalize podA s.pods m = y at r0 r1 GB
      obtain ⟨y, z⟩ := y
      dsimp only at r0 r1 GB
      clear hX hm hmp HANS
      cases x
      · go_wp2
        all_goals (go_ret; exact ⟨ret_bool (by rw [GB.out]; rfl), T1.A.K⟩)
      · go_upto_region 3 with fail
        have hz := T1.A.z
        have hz' := T1.O.z
        have hzb : b < w1.heap.size := hb
        have hzb2 : b2_ < w1.heap.size := Nat.lt_of_lt_of_le hb2 T1.A.K.size
        go_cut [7] (fun s7 wx => ∃ g, s7 = .pointer (some ⟨g, 0, none⟩) ∧ wx.heap[g]? = some (.cells #[.int .i64 y, .int .i64 z] 96) ∧ Below w1.heap.size w1 wx)
        case first =>
          go_region
          all_goals (go_wp2_with fail; go_meet)
          all_goals
            apply Exists.intro
            refine ⟨rfl, ?h3, ?hb⟩
            case h3 => repeat (first | exact alloc_here (by simp) | refine (alloc_there (by simp <;> omega)).trans ?_)
            case hb => repeat (first | exact Below.refl _ _ | refine Below.drew ?_ | refine Below.alloc ?_ (by simp <;> omega) _)
        case rest =>
          obtain ⟨g, rfl, hg, Kx⟩ := hcut
          have T2 := T1.step Kx
          have XB : ∀ o, wc.cell? ⟨g, o, none⟩ = #[Value.int .i64 y, .int .i64 z][o]? := fun o => cell_of_row _ _ o _ _ _ hg
          clear T1 hC hD hz hz' q0 p0 r0 r1
          have hC := T2.A.C
          have hD := T2.O.C
          go_wp2_with fail
          refine (implAlive_any _ _).mono ?_
          rintro e w5 ⟨rfl, rfl⟩
          cases ha : aliveB y
          · have HAL := Lib.hid ha
            clear ha
            go_wp2_with fail
            refine (implChildHeld_any _ _ d s i _ ((HP.out.below T2.A.K (Nat.le_refl _)).more T2.A.K.size) ((HS.out.below T2.A.K (Nat.le_refl _)).more T2.A.K.size) OK.out).mono ?_
            rintro e w6 ⟨rfl, hb6⟩
            have T3 := T2.step hb6
            clear hb6 T2 hC hD
            generalize (List.range d.n2).all (kidB d s i) = u at GB ⊢
            go_wp2
            all_goals (go_ret; exact ⟨ret_bool (by rw [GB.out, HAL.out]; simp), T3.A.K⟩)
          · have HAL := Lib.hid ha
            clear ha
            go_wp2
            all_goals (go_ret; exact ⟨ret_bool (by rw [GB.out, HAL.out]; rfl), T2.A.K⟩)

end Go.Proofs.Ytdphpjnecjofeaa
