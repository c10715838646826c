/-
  Small things for the law walks of AppliedAll and AppliedRec.
-/
import Derived.Test.YtogekogahblpgaaGreatMZ6
import Derived.Test.YtogekogahblpgaaGreatMZxUi
import Derived.Test.YtogekogahblpgaaGreatMZ1
import Derived.Deep.RegionHeld3
import Derived.Deep.RegionLaw
import Derived.StillTailTactics
import Derived.Test.YtogekogahblpgaaGreatMZ3
import Derived.BigQuiet
import Derived.Test.YtogekogahblpgaaGreatMZ4
import Derived.Test.YtogekogahblpgaaGreatMZ0
import Derived.Test.YtogekogahblpgaaGreatMZ2
import Derived.Test.YtogekogahblpgaaGreatMZ5
/- Wc -/
set_option linter.unusedVariables false
namespace Go.Proofs.YtogekogahblpgaaGreat
open Go.RowKit

end Go.Proofs.YtogekogahblpgaaGreat
/- We -/
set_option linter.unusedVariables false
namespace Go.Proofs.YtogekogahblpgaaGreat
open Go.RowKit

theorem mount_pod {d : PlanD} (h : planOkB d = true) {i : Nat} (hi : i < d.n2) : ∃ m : Nat, d.x2 (i * 2) = m ∧ m < d.n0 ∧ mpod d i = m := by
  have hf := mount_facts h hi
  simp only [planOkB, Bool.and_eq_true] at h
  obtain ⟨⟨-, hm⟩, -⟩ := h
  have := allB_true.1 hm i hi
  simp only [mountB, Bool.and_eq_true, inB_true] at this
  exact ⟨mpod d i, by unfold mpod; omega, hf.1, rfl⟩
theorem dev_mnt {d : PlanD} (h : planOkB d = true) {i : Nat} (hi : i < d.n3) : ∃ m : Nat, d.x3 i = m ∧ m < d.n2 ∧ dmnt d i = m := by
  simp only [planOkB, Bool.and_eq_true] at h
  obtain ⟨-, hm⟩ := h
  have := allB_true.1 hm i hi
  simp only [deviceB, inB_true] at this
  exact ⟨dmnt d i, by unfold dmnt; omega, by unfold dmnt; omega, rfl⟩
set_option maxRecDepth 4000 in
set_option maxHeartbeats 4000000 in
theorem l9Give_any (pv sv : Value) (d : PlanD) (s : StD) (i : Nat) (w : World) (hp : IsPlan w w.heap.size pv d) (hs : IsSt w w.heap.size sv s) (hok : StOk d s) (hi : i < d.n3) :
    Calls Tryz.prog 88 #[pv, sv, .int .i64 i] w fun e w' => e = .returned (.bool (giveB d s i)) ∧ Below w.heap.size w w' := by
  have HP := Lib.hid hp
  have HS := Lib.hid hs
  obtain ⟨⟨P0, P1, P2, P3, k0, k1, k2, k3, rfl, s0, s1, s2, s3⟩, b0, b1, b2, b3⟩ := hp
  obtain ⟨⟨A0, A1, A2, A3, c0, c1, c2, c3, rfl, t0, t1, t2, t3⟩, f0, f1, f2, f3⟩ := hs
  have S0 := Lib.hid s0
  have S1 := Lib.hid s1
  have S2 := Lib.hid s2
  have S3 := Lib.hid s3
  have R0 := Lib.hid t0
  have R1 := Lib.hid t1
  have R2 := Lib.hid t2
  have R3 := Lib.hid t3
  unfold maxLen at b0 b1 b2 b3 f0 f1 f2 f3
  clear s0 s1 s2 s3 t0 t1 t2 t3
  have T0 := Two.start w (planC P0 P1 P2 P3 d.n0 k0 d.n1 k1 d.n2 k2 d.n3 k3 d.l d.p d.t) (stC A0 A1 A2 A3 s.pods.length c0 s.mnts.length c1 s.devs.length c2 s.lks.length c3 s.ph s.co s.ck s.bo s.ba s.lb s.gd s.pr) 42 47
  have hD := T0.O.C
  have hC := T0.A.C
  have hld : i < s.devs.length := by rw [hok.nd]; exact hi
  obtain ⟨m, hm, hml, hmp⟩ := dev_mnt hok.plan hi
  have hlm : m < s.mnts.length := by rw [hok.nm]; exact hml
  obtain ⟨b, off, rfl, hb, q0⟩ := (S3.out.own T0.A).cell1 hi
  obtain ⟨b', off', rfl, hb', hc⟩ := (R2.out.below T0.A.K (Nat.le_refl _)).cell hld
  have p0 := (hc 0 (by decide)).trans (devCs_at s.devs (i := i * 1 + 0) (by omega))
  rw [Nat.add_zero, Nat.mul_one] at p0
  obtain ⟨b2_, off2, rfl, hb2, hc2⟩ := (R1.out.below T0.A.K (Nat.le_refl _)).cell hlm
  have r0 := (hc2 0 (by decide)).trans (mntCs_at s.mnts hlm).1
  rw [Nat.add_zero] at r0
  clear hc hc2
  rw [hm] at q0
  have GB : Hid (giveB d s i = (devA s.devs i && !(mntA s.mnts m).1)) := Lib.hid (by unfold giveB; rw [hmp]; rfl)
  generalize giveB d s i = ans at GB
  generalize devA s.devs i = x at p0 GB
  generalize (mntA s.mnts m).1 = y at r0 GB
  have KT := T0.A.K
  cases x
  · go_enter Tryz.func88, Tryz.ntmps88
    go_wp2_with fail
    go_quiet (fail)
    go_wp2
    all_goals (go_ret; exact ⟨ret_bool (by rw [GB.out]; rfl), (T0.A.drewN _).K⟩)
  · go_enter Tryz.func88, Tryz.ntmps88
    go_wp2_with fail
    go_quiet (fail)
    go_wp2
    all_goals (go_ret; exact ⟨ret_bool (by rw [GB.out]; simp), (T0.A.drewN _).K⟩)

end Go.Proofs.YtogekogahblpgaaGreat
/- Wf -/
set_option linter.unusedVariables false
namespace Go.Proofs.YtogekogahblpgaaGreat
open Go.RowKit

theorem Two.drewN {w w1 : World} {cs os : Array Value} (h : Two w w1 cs os) (n : Nat) : Two w (w1.drewN n) cs os := ⟨h.A.drewN n, h.O.drewN n⟩
theorem all_yes {n : Nat} {f : Nat → Bool} (h : ∀ j, j < n → f j = true) : (List.range n).all f = true := by simpa using h
theorem all_not {n k : Nat} {f : Nat → Bool} (hk : k < n) (h : f k = false) : (List.range n).all f = false := by
  rw [List.all_eq_false]
  exact ⟨k, by simpa using hk, by simp [h]⟩
def kidB (d : PlanD) (s : StD) (i j : Nat) : Bool := !(decide (mpar d j = i) && (mntA s.mnts j).1)

set_option maxRecDepth 4000 in
set_option maxHeartbeats 4000000 in
theorem l9Free_any (pv sv : Value) (d : PlanD) (s : StD) (i : Nat) (w : World) (hp : IsPlan w w.heap.size pv d) (hs : IsSt w w.heap.size sv s) (hok : StOk d s) (hi : i < d.n2) :
    Calls Tryz.prog 87 #[pv, sv, .int .i64 i] w fun e w' => e = .returned (.bool (freeB d s i)) ∧ Below w.heap.size w w' := by
  have HP := Lib.hid hp
  have HS := Lib.hid hs
  obtain ⟨⟨P0, P1, P2, P3, k0, k1, k2, k3, rfl, s0, s1, s2, s3⟩, b0, b1, b2, b3⟩ := hp
  obtain ⟨⟨A0, A1, A2, A3, c0, c1, c2, c3, rfl, t0, t1, t2, t3⟩, f0, f1, f2, f3⟩ := hs
  have S0 := Lib.hid s0
  have S1 := Lib.hid s1
  have S2 := Lib.hid s2
  have S3 := Lib.hid s3
  have R0 := Lib.hid t0
  have R1 := Lib.hid t1
  have R2 := Lib.hid t2
  have R3 := Lib.hid t3
  unfold maxLen at b0 b1 b2 b3 f0 f1 f2 f3
  clear s0 s1 s2 s3 t0 t1 t2 t3
  have T0 := Two.start w (planC P0 P1 P2 P3 d.n0 k0 d.n1 k1 d.n2 k2 d.n3 k3 d.l d.p d.t) (stC A0 A1 A2 A3 s.pods.length c0 s.mnts.length c1 s.devs.length c2 s.lks.length c3 s.ph s.co s.ck s.bo s.ba s.lb s.gd s.pr) 42 47
  have OK := Lib.hid hok
  have hD := T0.O.C
  have hC := T0.A.C
  have HLN := Lib.hid hok.nm
  obtain ⟨m, hm, hml, hmp⟩ := mount_pod hok.plan hi
  have hlm : m < s.pods.length := by rw [hok.np]; exact hml
  have S2' := S2
  have R1' := R1
  obtain ⟨b, off, hPe, hb, q0, -⟩ := (S2.out.own T0.A).cell2 hi
  obtain ⟨b', off', hAe, hb', hc⟩ := (R1.out.below T0.A.K (Nat.le_refl _)).cell (i := i) (by rw [HLN.out]; exact hi)
  have p0 := (hc 0 (by decide)).trans (mntCs_at s.mnts (i := i) (by rw [HLN.out]; exact hi)).1
  obtain ⟨b2_, off2, rfl, hb2, hc2⟩ := (R0.out.below T0.A.K (Nat.le_refl _)).cell hlm
  have r0 := (hc2 0 (by decide)).trans (podCs_at s.pods hlm).1
  rw [Nat.add_zero] at r0 p0
  subst hPe hAe
  clear hc hc2 hok
  rw [hm] at q0
  have GB : Hid (freeB d s i = ((mntA s.mnts i).1 && !aliveB (podA s.pods m).1 && (List.range d.n2).all (kidB d s i))) := Lib.hid (by unfold freeB; rw [hmp]; rfl)
  generalize freeB d s i = ans at GB
  have hlti : i < s.mnts.length := by rw [HLN.out]; exact hi
  generalize hX : (mntA s.mnts i).1 = x at p0 GB
  generalize (podA s.pods m).1 = y at r0 GB
  clear hX
  cases x
  · go_enter Tryz.func87, Tryz.ntmps87
    go_wp2_with fail
    go_quiet ((go_at_call 83; exact Calls.quiet_of_same ((alive_any _ _).mono fun e w' h => ⟨h.1, h.2.symm⟩)))
    go_wp2
    all_goals (go_ret; exact ⟨ret_bool (by rw [GB.out]; rfl), (T0.A.drewN _).K⟩)
  · cases ha : aliveB y
    · go_enter Tryz.func87, Tryz.ntmps87
      go_wp2_with fail
      go_quiet ((go_at_call 83; exact Calls.quiet_of_same ((alive_any _ _).mono fun e w' h => ⟨h.1, h.2.symm⟩)))
      have T1 := T0.drewN nq
      have HA := Lib.hid ha
      clear ha
      go_wp2_with fail
      go_loopw [7] (fun j wr => ∃ k : Nat, k ≤ d.n2 ∧ j = .int .i64 k ∧ (∀ j, j < k → kidB d s i j = true) ∧ Two w wr (planC P0 P1 (some ⟨b, off, none⟩) P3 d.n0 k0 d.n1 k1 d.n2 k2 d.n3 k3 d.l d.p d.t) (stC (some ⟨b2_, off2, none⟩) (some ⟨b', off', none⟩) A2 A3 s.pods.length c0 s.mnts.length c1 s.devs.length c2 s.lks.length c3 s.ph s.co s.ck s.bo s.ba s.lb s.gd s.pr)) (fun j _ => d.n2 - (intOf j).toNat)
      case atStart => exact ⟨0, Nat.zero_le _, rfl, fun j hj => absurd hj (by omega), T1⟩
      case round =>
        clear hC hD T1 p0 q0 r0
        obtain ⟨k, hk, rfl, hall, T⟩ := hrel
        have HALL := Lib.hid hall
        clear hall
        have hC := T.A.C
        have hD := T.O.C
        by_cases hlt : k < d.n2
        · have hlp : k < s.mnts.length := by rw [HLN.out]; exact hlt
          obtain ⟨b3_, off3, e3, hb3, -, q1⟩ := (S2'.out.own T.A).cell2 hlt
          injection e3 with e3
          injection e3 with e3 e4 _
          subst e3 e4
          obtain ⟨b4_, off4, e3, hb4, hc⟩ := (R1'.out.below T.A.K (Nat.le_refl _)).cell hlp
          injection e3 with e3
          injection e3 with e3 e4 _
          subst e3 e4
          have r0 := (hc 0 (by decide)).trans (mntCs_at s.mnts (i := k) hlp).1
          rw [Nat.add_zero] at r0
          clear hc
          have KB : Hid (kidB d s i k = !(decide (d.x2 (k * 2 + 1) = i) && (mntA s.mnts k).1)) := Lib.hid rfl
          have HFALSE : Hid (kidB d s i k = false → ans = false) := Lib.hid fun h => by rw [GB.out, all_not hlt h]; simp
          have HSTEP : Hid (kidB d s i k = true → ∀ j, j < k + 1 → kidB d s i j = true) := Lib.hid fun h => step_all HALL.out h
          generalize kidB d s i k = kb at KB HFALSE HSTEP
          generalize (mntA s.mnts k).1 = z at r0 KB
          cases hv : (d.x2 (k * 2 + 1) == (i : Int))
          · have CF : Hid (kb = true) := Lib.hid (by rw [KB.out]; simp at hv; simp [hv])
            go_wp2
            refine ⟨⟨k + 1, by omega, by go_num, HSTEP.out CF.out, T⟩, by simp [intOf]; omega⟩
          · cases z
            · have CF : Hid (kb = true) := Lib.hid (by rw [KB.out]; simp)
              go_wp2
              refine ⟨⟨k + 1, by omega, by go_num, HSTEP.out CF.out, T⟩, by simp [intOf]; omega⟩
            · have CF : Hid (kb = false) := Lib.hid (by rw [KB.out]; simp at hv; simp [hv])
              go_wp2
              all_goals (go_ret; exact ⟨ret_bool (by rw [HFALSE.out CF.out]), T.A.K⟩)
        · obtain rfl : k = d.n2 := by omega
          go_wp2
          all_goals (go_ret; exact ⟨ret_bool (by rw [GB.out, HA.out, all_yes HALL.out]; rfl), T.A.K⟩)
    · go_enter Tryz.func87, Tryz.ntmps87
      go_wp2_with fail
      go_quiet ((go_at_call 83; exact Calls.quiet_of_same ((alive_any _ _).mono fun e w' h => ⟨h.1, h.2.symm⟩)))
      have HA := Lib.hid ha
      go_wp2
      all_goals (go_ret; exact ⟨ret_bool (by rw [GB.out, HA.out]; rfl), (T0.A.drewN _).K⟩)

end Go.Proofs.YtogekogahblpgaaGreat
/- Wg -/
set_option linter.unusedVariables false
namespace Go.Proofs.YtogekogahblpgaaGreat
open Go.RowKit

end Go.Proofs.YtogekogahblpgaaGreat
/- Wh -/
set_option linter.unusedVariables false
namespace Go.Proofs.YtogekogahblpgaaGreat
open Go.RowKit

end Go.Proofs.YtogekogahblpgaaGreat
/- Wi -/
set_option linter.unusedVariables false
namespace Go.Proofs.YtogekogahblpgaaGreat
open Go.RowKit

theorem size_ok {d : PlanD} (h : planOkB d = true) : d.n0 ≤ 12 ∧ d.n1 ≤ 4 ∧ d.n2 ≤ 12 ∧ d.n3 ≤ 12 := by
  simp only [planOkB, sizesB, Bool.and_eq_true, decide_eq_true_eq] at h
  omega
end Go.Proofs.YtogekogahblpgaaGreat
/- Ul -/
set_option linter.unusedVariables false
namespace Go.Proofs.YtogekogahblpgaaGreat
open Go.RowKit

theorem IsPlan.go {w w' : World} {v : Value} {d : PlanD} (h : IsPlan w w.heap.size v d) (hb : Below w.heap.size w w') : IsPlan w' w'.heap.size v d := (h.below hb (Nat.le_refl _)).more hb.size

end Go.Proofs.YtogekogahblpgaaGreat
/- Ya -/
set_option linter.unusedVariables false
namespace Go.Proofs.YtogekogahblpgaaGreat
open Go.RowKit

set_option maxRecDepth 100000 in
set_option maxHeartbeats 2000000 in
theorem markPlan_num (d : PlanD) (g0 g1 g2 g3 : Nat) (w0 w : World) (h : NewPlan w0 w d g0 g1 g2 g3) (h0 : d.n0 ≤ 1048576) (h1 : d.n1 ≤ 1048576) (h2 : d.n2 ≤ 1048576) (h3 : d.n3 ≤ 1048576) :
    Calls Tryz.prog 13 #[newPlanV d g0 g1 g2 g3, .int .i64 1] w fun e w' => e = .returned (.int .i64 (1 + 4 * d.n0 + d.n1 + 2 * d.n2 + d.n3)) ∧ Keeps (fun b => g0 ≤ b ∧ b ≤ g3) w w' := by
  obtain ⟨l0, l1, l2, l3, l4, R0, R1, R2, R3⟩ := h
  obtain ⟨n0, n1, n2, n3, x0, x1, x2, x3, l, p, t⟩ := d
  dsimp only at *
  have H0 := Lib.hid h0
  have H1 := Lib.hid h1
  have H2 := Lib.hid h2
  have H3 := Lib.hid h3
  clear h0 h1 h2 h3
  have b0 : (n0 : Int) ≤ 1048576 := by have := H0.out; omega
  have b1 : (n1 : Int) ≤ 1048576 := by have := H1.out; omega
  have b2 : (n2 : Int) ≤ 1048576 := by have := H2.out; omega
  have b3 : (n3 : Int) ≤ 1048576 := by have := H3.out; omega
  go_enter Tryz.func13, Tryz.ntmps13
  go_wp2_with fail
  have X := cell_new w (planC (some ⟨g0, 0, none⟩) (some ⟨g1, 0, none⟩) (some ⟨g2, 0, none⟩) (some ⟨g3, 0, none⟩) n0 n0 n1 n1 n2 n2 n3 n3 l p t) 42
  have A1 := (Below.refl w.heap.size w).alloc (Nat.le_refl _) (.cells (planC (some ⟨g0, 0, none⟩) (some ⟨g1, 0, none⟩) (some ⟨g2, 0, none⟩) (some ⟨g3, 0, none⟩) n0 n0 n1 n1 n2 n2 n3 n3 l p t) 42)
  have K1 : Keeps (fun b => g0 ≤ b ∧ b ≤ g3) w _ := Keeps.of_below A1
  have R0 := R0.below A1 (by omega)
  have R1 := R1.below A1 (by omega)
  have R2 := R2.below A1 (by omega)
  have R3 := R3.below A1 (by omega)
  have z1 : w.heap.size < (w.alloc (.cells (planC (some ⟨g0, 0, none⟩) (some ⟨g1, 0, none⟩) (some ⟨g2, 0, none⟩) (some ⟨g3, 0, none⟩) n0 n0 n1 n1 n2 n2 n3 n3 l p t) 42)).heap.size := by simp
  refine (markPodS_any _ n0 _ g0 _ x0 _ (fun _ => rfl) R0 H0.out (by omega) (by omega)).mono ?_
  rintro e w2 ⟨rfl, k⟩
  have hC2 : ∀ o, w2.cell? ⟨w.heap.size, o, none⟩ = _ := fun o => (k.cell (p := ⟨w.heap.size, o, none⟩) z1 (by show ¬ w.heap.size = g0; omega)).trans (X o)
  have R1 := R1.keeps k (by omega) (by omega)
  have R2 := R2.keeps k (by omega) (by omega)
  have R3 := R3.keeps k (by omega) (by omega)
  have K2 := K1.trans (k.mono (T := fun b => g0 ≤ b ∧ b ≤ g3) (by rintro b rfl; omega))
  have z2 := Nat.lt_of_lt_of_le z1 k.size
  clear X A1 K1 R0 z1 k
  go_wp2_with fail
  refine (markInt64S_any _ n1 _ g1 _ x1 _ (fun _ => rfl) R1 H1.out (by omega) (by omega)).mono ?_
  rintro e w3 ⟨rfl, -, k⟩
  have hC3 : ∀ o, w3.cell? ⟨w.heap.size, o, none⟩ = _ := fun o => (k.cell (p := ⟨w.heap.size, o, none⟩) z2 (by show ¬ w.heap.size = g1; omega)).trans (hC2 o)
  have R2 := R2.keeps k (by omega) (by omega)
  have R3 := R3.keeps k (by omega) (by omega)
  have K3 := K2.trans (k.mono (T := fun b => g0 ≤ b ∧ b ≤ g3) (by rintro b rfl; omega))
  have z3 := Nat.lt_of_lt_of_le z2 k.size
  clear hC2 K2 R1 z2 k
  go_wp2_with fail
  refine (markMountS_any _ n2 _ g2 _ x2 _ (fun _ => rfl) R2 H2.out (by omega) (by omega)).mono ?_
  rintro e w4 ⟨rfl, k⟩
  have hC4 : ∀ o, w4.cell? ⟨w.heap.size, o, none⟩ = _ := fun o => (k.cell (p := ⟨w.heap.size, o, none⟩) z3 (by show ¬ w.heap.size = g2; omega)).trans (hC3 o)
  have R3 := R3.keeps k (by omega) (by omega)
  have K4 := K3.trans (k.mono (T := fun b => g0 ≤ b ∧ b ≤ g3) (by rintro b rfl; omega))
  have z4 := Nat.lt_of_lt_of_le z3 k.size
  clear hC3 K3 R2 z3 k
  go_wp2_with fail
  refine (markDeviceS_any _ n3 _ g3 _ x3 _ (fun _ => rfl) R3 H3.out (by omega) (by omega)).mono ?_
  rintro e w5 ⟨rfl, k⟩
  have K5 := K4.trans (k.mono (T := fun b => g0 ≤ b ∧ b ≤ g3) (by rintro b rfl; omega))
  clear hC4 K4 R3 z4 k
  go_wp2_with fail
  go_ret
  exact ⟨ret_int (by omega), K5⟩
theorem NewSt.rowsIn {w w' : World} {s : StD} {g0 g1 g2 g3 : Nat} (h : NewSt w w' s g0 g1 g2 g3) : RowsIn w' (newStV s g0 g1 g2 g3) s w.heap.size w'.heap.size := by
  have R := h.rows
  obtain ⟨l0, l1, l2, l3, l4, R0, R1, R2, R3⟩ := h
  exact ⟨g0, g1, g2, g3, R, ⟨l0, by omega, by omega, by omega⟩, fun _ => by omega, fun _ => by omega, fun _ => by omega, fun _ => by omega⟩
theorem BoxS.own {w W : World} {B g : Nat} {cs : Array Value} (h : BoxS W B g cs.toList) (K : Below w.heap.size w W) : Own w W g cs := ⟨K, h.lt.2, h.C, fun o => h.frozen o⟩
/-- A row in a block of the heap. -/
structure RowB (w : World) (g N : Nat) (x : Nat → Int) : Prop where
  R : RowF w g N x
  z : g < w.heap.size
theorem RowB.go {w w' : World} {g N : Nat} {x : Nat → Int} (h : RowB w g N x) (hb : Below w.heap.size w w') : RowB w' g N x := ⟨h.R.below hb h.z, Nat.lt_of_lt_of_le h.z hb.size⟩
theorem RowB.keeps {S : Nat → Prop} {w w' : World} {g N : Nat} {x : Nat → Int} (h : RowB w g N x) (k : Keeps S w w') (hn : ¬ S g) : RowB w' g N x := ⟨h.R.keeps k h.z hn, Nat.lt_of_lt_of_le h.z k.size⟩
theorem Two.keeps {S : Nat → Prop} {w w1 w2 : World} {cs os : Array Value} (h : Two w w1 cs os) (k : Keeps S w1 w2) (hS : ∀ b, S b → w.heap.size + 1 < b) : Two w w2 cs os :=
  ⟨h.A.keeps k (fun b hb => by have := hS b hb; omega) (fun hb => by have := hS _ hb; omega), h.O.keeps k (fun b hb => by have := hS b hb; omega) (fun hb => by have := hS _ hb; omega)⟩
theorem tot_half {s : StD} {m : Int} (h : (s.pods.length + s.mnts.length + s.devs.length + s.lks.length : Nat) ≤ m) : (totS s : Int) ≤ 2 * m := by unfold totS; omega
end Go.Proofs.YtogekogahblpgaaGreat
