/-
  Chapter 9: MayFree, MayGive, the model's and the program's.
-/
import Derived.Test.YtlmjjkljkmalpaaMG5
import Derived.Test.YtlmjjkljkmalpaaMG4
import Derived.Test.YtlmjjkljkmalpaaMG0
import Derived.Test.YtlmjjkljkmalpaaMGxTh
import Derived.Deep.DeepCutAuto
/- Ha -/
set_option linter.unusedVariables false
namespace Go.Proofs.Ytlmjjkljkmalpaa
open Go.RowKit

def mayGiveB (d : PlanD) (s : StD) (a : Int) : Bool := inB a 0 (d.n3 - 1) && giveB d s a.toNat

set_option maxRecDepth 4000 in
set_option maxHeartbeats 4000000 in
theorem mayGive_any (pv sv : Value) (d : PlanD) (s : StD) (a : Int) (w : World) (hp : IsPlan w w.heap.size pv d) (hs : IsSt w w.heap.size sv s) :
    Calls Try.prog 13 #[pv, sv, .int .i64 a] w fun e w' => e = .returned (.bool (stOkB d s && mayGiveB d s a)) ∧ Below w.heap.size w w' := by
  have HP := Lib.hid hp
  have HS := Lib.hid hs
  obtain ⟨⟨P0, P1, P2, P3, k0, k1, k2, k3, rfl, s0, s1, s2, s3⟩, b0, b1, b2, b3⟩ := hp
  obtain ⟨⟨A0, A1, A2, A3, c0, c1, c2, c3, rfl, t0, t1, t2, t3⟩, f0, f1, f2, f3⟩ := hs
  have S0 := Lib.hid s0
  have S1 := Lib.hid s1
  have S2 := Lib.hid s2
  have S3 := Lib.hid s3
  have R0 := Lib.hid t0
  have R1 := Lib.hid t1
  have R2 := Lib.hid t2
  have R3 := Lib.hid t3
  unfold maxLen at b0 b1 b2 b3 f0 f1 f2 f3
  clear s0 s1 s2 s3 t0 t1 t2 t3
  have T0 := Two.start w (planC P0 P1 P2 P3 d.n0 k0 d.n1 k1 d.n2 k2 d.n3 k3 d.l d.p d.t) (stC A0 A1 A2 A3 s.pods.length c0 s.mnts.length c1 s.devs.length c2 s.lks.length c3 s.ph s.co s.ck s.bo s.ba s.lb s.gd s.pr) 40 45
  obtain ⟨ans, hans⟩ : ∃ ans, (stOkB d s && mayGiveB d s a) = ans := ⟨_, rfl⟩
  rw [hans]
  have HANS := Lib.hid hans
  clear hans
  go_enter Try.func13, Try.ntmps13
  go_wp2_with fail
  refine (specStateOk_any _ _ d s _ ((HP.out.below T0.A.K (Nat.le_refl _)).more T0.A.K.size) ((HS.out.below T0.A.K (Nat.le_refl _)).more T0.A.K.size)).mono ?_
  rintro e w1 ⟨rfl, hb⟩
  have T1 := T0.step hb
  have hC := T1.A.C
  have hD := T1.O.C
  clear hb T0
  cases hok : stOkB d s
  · have OKB := Lib.hid hok
    clear hok
    go_wp2
    all_goals (go_ret; exact ⟨ret_bool (by rw [← HANS.out, OKB.out]; rfl), T1.A.K⟩)
  · have OK := Lib.hid (stOkB_iff.1 hok)
    have OKB := Lib.hid hok
    clear hok
    go_wp2_with fail
    refine (in_any _ _ _ _).mono ?_
    rintro e w2 ⟨rfl, rfl⟩
    cases hin : inB a 0 (d.n3 - 1)
    · have HIN := Lib.hid hin
      clear hin
      go_wp2
      all_goals (go_ret; exact ⟨ret_bool (by rw [← HANS.out, OKB.out]; simp [mayGiveB, HIN.out]), T1.A.K⟩)
    · have HIN := Lib.hid hin
      obtain ⟨i, rfl, hi⟩ := index_nat (a := a) (n := d.n3) (by rw [hin]; decide)
      clear hin
      go_wp2_with fail
      refine (l9Give_any _ _ d s i _ ((HP.out.below T1.A.K (Nat.le_refl _)).more T1.A.K.size) ((HS.out.below T1.A.K (Nat.le_refl _)).more T1.A.K.size) OK.out hi).mono ?_
      rintro e w3 ⟨rfl, hb3⟩
      have T3 := T1.step hb3
      have HANS2 : Hid (ans = giveB d s i) := Lib.hid (by rw [← HANS.out, OKB.out]; simp [mayGiveB, HIN.out])
      clear hb3 T1 hC hD
      generalize giveB d s i = y at HANS2 ⊢
      go_wp2
      all_goals (go_ret; exact ⟨ret_bool (by rw [HANS2.out]), T3.A.K⟩)

set_option maxRecDepth 100000 in
set_option maxHeartbeats 4000000 in
theorem implMayGive_any (pv sv : Value) (d : PlanD) (s : StD) (a : Int) (w : World) (hp : IsPlan w w.heap.size pv d) (hs : IsSt w w.heap.size sv s) :
    Calls Try.prog 14 #[pv, sv, .int .i64 a] w fun e w' => e = .returned (.bool (stOkB d s && mayGiveB d s a)) ∧ Below w.heap.size w w' := by
  have HP := Lib.hid hp
  have HS := Lib.hid hs
  obtain ⟨⟨P0, P1, P2, P3, k0, k1, k2, k3, rfl, s0, s1, s2, s3⟩, b0, b1, b2, b3⟩ := hp
  obtain ⟨⟨A0, A1, A2, A3, c0, c1, c2, c3, rfl, t0, t1, t2, t3⟩, f0, f1, f2, f3⟩ := hs
  have S0 := Lib.hid s0
  have S1 := Lib.hid s1
  have S2 := Lib.hid s2
  have S3 := Lib.hid s3
  have R0 := Lib.hid t0
  have R1 := Lib.hid t1
  have R2 := Lib.hid t2
  have R3 := Lib.hid t3
  unfold maxLen at b0 b1 b2 b3 f0 f1 f2 f3
  clear s0 s1 s2 s3 t0 t1 t2 t3
  have T0 := Two.start w (planC P0 P1 P2 P3 d.n0 k0 d.n1 k1 d.n2 k2 d.n3 k3 d.l d.p d.t) (stC A0 A1 A2 A3 s.pods.length c0 s.mnts.length c1 s.devs.length c2 s.lks.length c3 s.ph s.co s.ck s.bo s.ba s.lb s.gd s.pr) 40 45
  obtain ⟨ans, hans⟩ : ∃ ans, (stOkB d s && mayGiveB d s a) = ans := ⟨_, rfl⟩
  rw [hans]
  have HANS := Lib.hid hans
  clear hans
  go_enter Try.func14, Try.ntmps14
  go_wp2_with fail
  refine (implStateOk_any _ _ d s _ ((HP.out.below T0.A.K (Nat.le_refl _)).more T0.A.K.size) ((HS.out.below T0.A.K (Nat.le_refl _)).more T0.A.K.size)).mono ?_
  rintro e w1 ⟨rfl, hb⟩
  have T1 := T0.step hb
  have hC := T1.A.C
  have hD := T1.O.C
  clear hb T0
  cases hok : stOkB d s
  · have OKB := Lib.hid hok
    clear hok
    go_wp2
    all_goals (go_ret; exact ⟨ret_bool (by rw [← HANS.out, OKB.out]; rfl), T1.A.K⟩)
  · have OK := Lib.hid (stOkB_iff.1 hok)
    have OKB := Lib.hid hok
    clear hok
    go_wp2_with fail
    refine (isIndex_any _ _ _).mono ?_
    rintro e w2 ⟨rfl, rfl⟩
    cases hin : inB a 0 (d.n3 - 1)
    · have HIN := Lib.hid hin
      clear hin
      go_wp2
      all_goals (go_ret; exact ⟨ret_bool (by rw [← HANS.out, OKB.out]; simp [mayGiveB, HIN.out]), T1.A.K⟩)
    · have HIN := Lib.hid hin
      obtain ⟨i, rfl, hi⟩ := index_nat (a := a) (n := d.n3) (by rw [hin]; decide)
      clear hin
      have hld : i < s.devs.length := by rw [OK.out.nd]; exact hi
      obtain ⟨m, hm, hml, hmp⟩ := dev_mnt OK.out.plan hi
      have hlm : m < s.mnts.length := by rw [OK.out.nm]; exact hml
      obtain ⟨b, off, rfl, hb, q0⟩ := (S3.out.own T1.A).cell1 hi
      obtain ⟨b', off', rfl, hb', hc⟩ := (R2.out.below T1.A.K (Nat.le_refl _)).cell hld
      have p0 := (hc 0 (by decide)).trans (devCs_at s.devs (i := i * 1 + 0) (by omega))
      rw [Nat.add_zero, Nat.mul_one] at p0
      obtain ⟨b2_, off2, rfl, hb2, hc2⟩ := (R1.out.below T1.A.K (Nat.le_refl _)).cell hlm
      have r0 := (hc2 0 (by decide)).trans (mntCs_at s.mnts hlm).1
      rw [Nat.add_zero] at r0
      clear hc hc2
      rw [hm] at q0
      have GB : Hid (giveB d s i = (devA s.devs i && !(mntA s.mnts m).1)) := Lib.hid (by unfold giveB; rw [hmp]; rfl)
      have HANS2 : Hid (ans = giveB d s i) := Lib.hid (by rw [← HANS.out, OKB.out]; simp [mayGiveB, HIN.out])
      generalize giveB d s i = g at GB HANS2
      generalize devA s.devs i = x at p0 GB
      generalize (mntA s.mnts m).1 = y at r0 GB
      clear hm hmp
      cases x
      · go_wp2
        all_goals (go_ret; exact ⟨ret_bool (by rw [HANS2.out, GB.out]; rfl), (T1.A).K⟩)
      · go_wp2_with fail
        go_quiet (fail)
        go_wp2
        all_goals (go_ret; exact ⟨ret_bool (by rw [HANS2.out, GB.out]; simp), (T1.A.drewN _).K⟩)

end Go.Proofs.Ytlmjjkljkmalpaa
