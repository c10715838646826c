/-
  FnExactStateOk's walk; the program's contract is its premise.
-/
import Derived.Test.YtdphpjnecjofeaaMZ3
import Derived.Deep.RegionHeld3
/- Ul -/
set_option linter.unusedVariables false
namespace Go.Proofs.Ytdphpjnecjofeaa
open Go.RowKit

theorem IsPlan.go {w w' : World} {v : Value} {d : PlanD} (h : IsPlan w w.heap.size v d) (hb : Below w.heap.size w w') : IsPlan w' w'.heap.size v d := (h.below hb (Nat.le_refl _)).more hb.size

set_option maxRecDepth 100000 in
set_option maxHeartbeats 8000000 in
theorem lawStateOk (pv sv : Value) (d : PlanD) (s : StD) (w : World) (hp : IsPlan w w.heap.size pv d) (hs : IsSt w w.heap.size sv s)
    (HI : ∀ (pv sv : Value) (d : PlanD) (s : StD) (W : World), IsPlan W W.heap.size pv d → IsSt W W.heap.size sv s → Calls Try.prog 28 #[pv, sv] W fun e w' => e = .returned (.bool (stOkB d s)) ∧ Below W.heap.size W w') :
    Calls Try.prog 5 #[pv, sv] w fun e w' => e = .returned (.bool true) ∧ Below w.heap.size w w' := by
  have HI := Lib.hid HI
  have H := Lib.hid hp
  have HS := Lib.hid hs
  obtain ⟨⟨A0, A1, A2, A3, c0, c1, c2, c3, rfl, -, -, -, -⟩, b0, b1, b2, b3⟩ := hp
  obtain ⟨⟨E0, E1, E2, E3, k0, k1, k2, k3, rfl, -, -, -, -⟩, -, -, -, -⟩ := hs
  have B0 := Lib.hid b0
  have B1 := Lib.hid b1
  have B2 := Lib.hid b2
  have B3 := Lib.hid b3
  clear b0 b1 b2 b3
  have hans : stOkB d s = stOkB d s := rfl
  go_enter Try.func5, Try.ntmps5
  go_wp2_with fail
  have T0 := Two.start w (planC A0 A1 A2 A3 d.n0 c0 d.n1 c1 d.n2 c2 d.n3 c3 d.l d.p d.t) (stC E0 E1 E2 E3 s.pods.length k0 s.mnts.length k1 s.devs.length k2 s.lks.length k3 s.ph s.co s.ck s.bo s.ba s.lb s.gd s.pr) 27 32
  refine (szPlan_any _ d _ ((H.out.below T0.A.K (Nat.le_refl _)).more T0.A.K.size)).mono ?_
  rintro e w2 ⟨rfl, hb⟩
  have T2 := T0.step hb
  have hC := T2.A.C
  have hD := T2.O.C
  clear hb T0
  by_cases hsz : d.n0 + d.n1 + d.n2 + d.n3 ≤ 1048576
  · have e0 : szP d = 1048576 - d.n0 - d.n1 - d.n2 - d.n3 := if_pos hsz
    have l0 : 0 ≤ szP d := by omega
    have l1 : szP d ≤ 1048576 := by omega
    clear e0
    generalize szP d = left at *
    go_wp2_with fail
    refine (szState_any _ s left _ ((HS.out.below T2.A.K (Nat.le_refl _)).more T2.A.K.size) l0 l1).mono ?_
    rintro e w3 ⟨rfl, hb⟩
    have T3 := T2.step hb
    clear hb T2 hC hD
    have hC := T3.A.C
    have hD := T3.O.C
    by_cases hsz2 : (s.pods.length + s.mnts.length + s.devs.length + s.lks.length : Nat) ≤ left
    · have e0 : szS left s = left - (s.pods.length + s.mnts.length + s.devs.length + s.lks.length : Nat) := if_pos hsz2
      have l2 : 0 ≤ szS left s := by omega
      have hfit : StFits s 1048576 := ⟨by omega, by omega, by omega, by omega⟩
      have F := Lib.hid hfit
      clear e0 hsz2 hfit
      generalize szS left s = left2 at *
      go_wp2_with fail
      have S3 : (∀ o, w3.cell? ⟨w.heap.size, o, none⟩ = (planC A0 A1 A2 A3 d.n0 c0 d.n1 c1 d.n2 c2 d.n3 c3 d.l d.p d.t)[o]?) ∧ (∀ o, w3.cell? ⟨w.heap.size + 1, o, none⟩ = (stC E0 E1 E2 E3 s.pods.length k0 s.mnts.length k1 s.devs.length k2 s.lks.length k3 s.ph s.co s.ck s.bo s.ba s.lb s.gd s.pr)[o]?) ∧ Below w3.heap.size w3 w3 := ⟨hC, hD, Below.refl _ _⟩
      clear hC hD
      go_region_held3 (fun w' => (∀ o, w'.cell? ⟨w.heap.size, o, none⟩ = (planC A0 A1 A2 A3 d.n0 c0 d.n1 c1 d.n2 c2 d.n3 c3 d.l d.p d.t)[o]?) ∧ (∀ o, w'.cell? ⟨w.heap.size + 1, o, none⟩ = (stC E0 E1 E2 E3 s.pods.length k0 s.mnts.length k1 s.devs.length k2 s.lks.length k3 s.ph s.co s.ck s.bo s.ba s.lb s.gd s.pr)[o]?) ∧ Below w3.heap.size w3 w')
        (first | exact S3 | exact S4 | exact S5 | exact S6 | (exact ⟨S3.1, S3.2.1, S3.2.2.drew⟩))
        (first
          | (go_at_call 27
             have hq := S5
             clear hq
             refine (specStateOk_any _ _ d s _ ((P4.out.below K4 (Nat.le_refl _)).more K4.size) Q5.out).mono ?_
             rintro e w6 ⟨rfl, hb6⟩
             have K6 : Below w3.heap.size w3 w6 := K5.trans (hb6.mono K5.size)
             have S6 := And.intro (T3.step K6).A.C (And.intro (T3.step K6).O.C K6))
          | (go_at_call 16
             have hq := S4
             clear hq
             refine (toState_any _ s _ ((HS.out.below (T3.step K3).A.K (Nat.le_refl _)).more (T3.step K3).A.K.size) F.out).mono ?_
             rintro e w5 ⟨q0, q1, q2, q3, rfl, N5, hb5⟩
             have Q5 := Lib.hid (N5.is F.out)
             have K4 := hb5
             have K5 : Below w3.heap.size w3 w5 := K3.trans (hb5.mono K3.size)
             have S5 := And.intro (T3.step K5).A.C (And.intro (T3.step K5).O.C K5))
          | (go_at_call 15
             have Kd : Below w3.heap.size w3 w3.drew := (Below.refl _ _).drew
             refine (toPlan_any _ d _ ((H.out.below (T3.step Kd).A.K (Nat.le_refl _)).more (T3.step Kd).A.K.size) (by omega) (by omega) (by omega) (by omega)).mono ?_
             rintro e w4 ⟨g0, g1, g2, g3, rfl, N4, hb4⟩
             have P4 := Lib.hid (N4.is B0.out B1.out B2.out B3.out)
             have K3 : Below w3.heap.size w3 w4 := Kd.trans hb4
             have S4 := And.intro (T3.step K3).A.C (And.intro (T3.step K3).O.C K3)))
      have T6 := T3.step K6
      clear S3 S4 S5 S6 P4 Q5 K3 K4 K5 K6 T3
      have hC := T6.A.C
      have hD := T6.O.C
      go_wp2_with fail
      refine (toPlan_any _ d _ ((H.out.below T6.A.K (Nat.le_refl _)).more T6.A.K.size) (by omega) (by omega) (by omega) (by omega)).mono ?_
      rintro e w7 ⟨a0, a1, a2, a3, rfl, N7, hb⟩
      have T7 := T6.step hb
      have P7 := Lib.hid (N7.is B0.out B1.out B2.out B3.out)
      clear hb T6 hC hD N7
      have hC := T7.A.C
      have hD := T7.O.C
      have hz := T7.A.z
      have hz1 := T7.O.z
      go_wp2_with fail
      have X8 := Own.box w7 (planC (some ⟨a0, 0, none⟩) (some ⟨a1, 0, none⟩) (some ⟨a2, 0, none⟩) (some ⟨a3, 0, none⟩) d.n0 d.n0 d.n1 d.n1 d.n2 d.n2 d.n3 d.n3 d.l d.p d.t) 41
      have T8 := T7.step X8.K
      have Y8 := Own.box2 T7.A.K (planC (some ⟨a0, 0, none⟩) (some ⟨a1, 0, none⟩) (some ⟨a2, 0, none⟩) (some ⟨a3, 0, none⟩) d.n0 d.n0 d.n1 d.n1 d.n2 d.n2 d.n3 d.n3 d.l d.p d.t) 41
      have P8 := Lib.hid (P7.out.go X8.K)
      clear T7 hC hD hz hz1 P7 X8
      generalize hg : w7.heap.size = g at *
      have hC := T8.A.C
      have hD := T8.O.C
      refine (toState_any _ s _ ((HS.out.below T8.A.K (Nat.le_refl _)).more T8.A.K.size) F.out).mono ?_
      rintro e w9 ⟨r0, r1, r2, r3, rfl, N9, hb⟩
      have T9 := T8.step hb
      have Y9 := Y8.step hb
      have P9 := Lib.hid (P8.out.go hb)
      have Q9 := Lib.hid (N9.is F.out)
      clear hb T8 Y8 P8 N9 hC hD hg
      have hC := T9.A.C
      have hD := T9.O.C
      have hE := Y9.C
      have hz2 := T9.A.z
      have hz3 := T9.O.z
      have hz4 := Y9.z
      unfold newStV
      go_wp2_with fail
      have X10 := Own.box w9 (stC (some ⟨r0, 0, none⟩) (some ⟨r1, 0, none⟩) (some ⟨r2, 0, none⟩) (some ⟨r3, 0, none⟩) s.pods.length s.pods.length s.mnts.length s.mnts.length s.devs.length s.devs.length s.lks.length s.lks.length s.ph s.co s.ck s.bo s.ba s.lb s.gd s.pr) 46
      have T10 := T9.step X10.K
      have Y10 := Y9.step X10.K
      have Z10 := Own.box2 T9.A.K (stC (some ⟨r0, 0, none⟩) (some ⟨r1, 0, none⟩) (some ⟨r2, 0, none⟩) (some ⟨r3, 0, none⟩) s.pods.length s.pods.length s.mnts.length s.mnts.length s.devs.length s.devs.length s.lks.length s.lks.length s.ph s.co s.ck s.bo s.ba s.lb s.gd s.pr) 46
      have P10 := Lib.hid (P9.out.go X10.K)
      have Q10 := Lib.hid (Q9.out.go X10.K)
      clear T9 Y9 hC hD hE hz2 hz3 hz4 P9 Q9 X10
      generalize hg : w9.heap.size = h at *
      refine (HI.out _ _ d s _ P10.out Q10.out).mono ?_
      rintro e w11 ⟨rfl, hb⟩
      have T11 := T10.step hb
      have Y11 := Y10.step hb
      have Z11 := Z10.step hb
      have P11 := Lib.hid (P10.out.go hb)
      have Q11 := Lib.hid (Q10.out.go hb)
      clear hb T10 Y10 Z10 P10 Q10 hg
      have hC := T11.A.C
      have hD := T11.O.C
      have hE := Y11.C
      have hF := Z11.C
      generalize stOkB d s = ans at *
      go_wp2_with fail
      have S11 : (∀ o, w11.cell? ⟨w.heap.size, o, none⟩ = (planC A0 A1 A2 A3 d.n0 c0 d.n1 c1 d.n2 c2 d.n3 c3 d.l d.p d.t)[o]?) ∧ (∀ o, w11.cell? ⟨w.heap.size + 1, o, none⟩ = (stC E0 E1 E2 E3 s.pods.length k0 s.mnts.length k1 s.devs.length k2 s.lks.length k3 s.ph s.co s.ck s.bo s.ba s.lb s.gd s.pr)[o]?) ∧ (∀ o, w11.cell? ⟨g, o, none⟩ = (planC (some ⟨a0, 0, none⟩) (some ⟨a1, 0, none⟩) (some ⟨a2, 0, none⟩) (some ⟨a3, 0, none⟩) d.n0 d.n0 d.n1 d.n1 d.n2 d.n2 d.n3 d.n3 d.l d.p d.t)[o]?) ∧ (∀ o, w11.cell? ⟨h, o, none⟩ = (stC (some ⟨r0, 0, none⟩) (some ⟨r1, 0, none⟩) (some ⟨r2, 0, none⟩) (some ⟨r3, 0, none⟩) s.pods.length s.pods.length s.mnts.length s.mnts.length s.devs.length s.devs.length s.lks.length s.lks.length s.ph s.co s.ck s.bo s.ba s.lb s.gd s.pr)[o]?) ∧ Below w11.heap.size w11 w11 := ⟨hC, hD, hE, hF, Below.refl _ _⟩
      clear hC hD hE hF
      go_region_held3 (fun w' => (∀ o, w'.cell? ⟨w.heap.size, o, none⟩ = (planC A0 A1 A2 A3 d.n0 c0 d.n1 c1 d.n2 c2 d.n3 c3 d.l d.p d.t)[o]?) ∧ (∀ o, w'.cell? ⟨w.heap.size + 1, o, none⟩ = (stC E0 E1 E2 E3 s.pods.length k0 s.mnts.length k1 s.devs.length k2 s.lks.length k3 s.ph s.co s.ck s.bo s.ba s.lb s.gd s.pr)[o]?) ∧ (∀ o, w'.cell? ⟨g, o, none⟩ = (planC (some ⟨a0, 0, none⟩) (some ⟨a1, 0, none⟩) (some ⟨a2, 0, none⟩) (some ⟨a3, 0, none⟩) d.n0 d.n0 d.n1 d.n1 d.n2 d.n2 d.n3 d.n3 d.l d.p d.t)[o]?) ∧ (∀ o, w'.cell? ⟨h, o, none⟩ = (stC (some ⟨r0, 0, none⟩) (some ⟨r1, 0, none⟩) (some ⟨r2, 0, none⟩) (some ⟨r3, 0, none⟩) s.pods.length s.pods.length s.mnts.length s.mnts.length s.devs.length s.devs.length s.lks.length s.lks.length s.ph s.co s.ck s.bo s.ba s.lb s.gd s.pr)[o]?) ∧ Below w11.heap.size w11 w')
        (first | exact S11 | exact S12 | exact S13 | (exact ⟨S11.1, S11.2.1, S11.2.2.1, S11.2.2.2.1, S11.2.2.2.2.drew⟩))
        (first
          | (go_at_call 19
             have hq := S12
             clear hq
             refine (eqPlan_same _ _ d _ ((P11.out.below K12 (Nat.le_refl _)).more K12.size) P12.out).mono ?_
             rintro e w13 ⟨rfl, hb13⟩
             have K13 : Below w11.heap.size w11 w13 := K12.trans (hb13.mono K12.size)
             have S13 := And.intro (T11.step K13).A.C (And.intro (T11.step K13).O.C (And.intro (Y11.step K13).C (And.intro (Z11.step K13).C K13))))
          | (go_at_call 15
             have Kd : Below w11.heap.size w11 w11.drew := (Below.refl _ _).drew
             refine (toPlan_any _ d _ ((H.out.below (T11.step Kd).A.K (Nat.le_refl _)).more (T11.step Kd).A.K.size) (by omega) (by omega) (by omega) (by omega)).mono ?_
             rintro e w12 ⟨g0, g1, g2, g3, rfl, N12, hb12⟩
             have P12 := Lib.hid (N12.is B0.out B1.out B2.out B3.out)
             have K12 : Below w11.heap.size w11 w12 := Kd.trans hb12
             have S12 := And.intro (T11.step K12).A.C (And.intro (T11.step K12).O.C (And.intro (Y11.step K12).C (And.intro (Z11.step K12).C K12)))))
      have T13 := T11.step K13
      have Y13 := Y11.step K13
      have Z13 := Z11.step K13
      have Q13 := Lib.hid ((Q11.out.below K13 (Nat.le_refl _)).more K13.size)
      clear S11 S12 S13 P12 P11 Q11 K12 K13 T11 Y11 Z11
      have hC := T13.A.C
      have hD := T13.O.C
      have hE := Y13.C
      have hF := Z13.C
      go_wp2_with fail
      have S13 : (∀ o, w13.cell? ⟨w.heap.size, o, none⟩ = (planC A0 A1 A2 A3 d.n0 c0 d.n1 c1 d.n2 c2 d.n3 c3 d.l d.p d.t)[o]?) ∧ (∀ o, w13.cell? ⟨w.heap.size + 1, o, none⟩ = (stC E0 E1 E2 E3 s.pods.length k0 s.mnts.length k1 s.devs.length k2 s.lks.length k3 s.ph s.co s.ck s.bo s.ba s.lb s.gd s.pr)[o]?) ∧ (∀ o, w13.cell? ⟨g, o, none⟩ = (planC (some ⟨a0, 0, none⟩) (some ⟨a1, 0, none⟩) (some ⟨a2, 0, none⟩) (some ⟨a3, 0, none⟩) d.n0 d.n0 d.n1 d.n1 d.n2 d.n2 d.n3 d.n3 d.l d.p d.t)[o]?) ∧ (∀ o, w13.cell? ⟨h, o, none⟩ = (stC (some ⟨r0, 0, none⟩) (some ⟨r1, 0, none⟩) (some ⟨r2, 0, none⟩) (some ⟨r3, 0, none⟩) s.pods.length s.pods.length s.mnts.length s.mnts.length s.devs.length s.devs.length s.lks.length s.lks.length s.ph s.co s.ck s.bo s.ba s.lb s.gd s.pr)[o]?) ∧ Below w13.heap.size w13 w13 := ⟨hC, hD, hE, hF, Below.refl _ _⟩
      clear hC hD hE hF
      go_region_held3 (fun w' => (∀ o, w'.cell? ⟨w.heap.size, o, none⟩ = (planC A0 A1 A2 A3 d.n0 c0 d.n1 c1 d.n2 c2 d.n3 c3 d.l d.p d.t)[o]?) ∧ (∀ o, w'.cell? ⟨w.heap.size + 1, o, none⟩ = (stC E0 E1 E2 E3 s.pods.length k0 s.mnts.length k1 s.devs.length k2 s.lks.length k3 s.ph s.co s.ck s.bo s.ba s.lb s.gd s.pr)[o]?) ∧ (∀ o, w'.cell? ⟨g, o, none⟩ = (planC (some ⟨a0, 0, none⟩) (some ⟨a1, 0, none⟩) (some ⟨a2, 0, none⟩) (some ⟨a3, 0, none⟩) d.n0 d.n0 d.n1 d.n1 d.n2 d.n2 d.n3 d.n3 d.l d.p d.t)[o]?) ∧ (∀ o, w'.cell? ⟨h, o, none⟩ = (stC (some ⟨r0, 0, none⟩) (some ⟨r1, 0, none⟩) (some ⟨r2, 0, none⟩) (some ⟨r3, 0, none⟩) s.pods.length s.pods.length s.mnts.length s.mnts.length s.devs.length s.devs.length s.lks.length s.lks.length s.ph s.co s.ck s.bo s.ba s.lb s.gd s.pr)[o]?) ∧ Below w13.heap.size w13 w')
        (first | exact S13 | exact S14 | exact S15 | (exact ⟨S13.1, S13.2.1, S13.2.2.1, S13.2.2.2.1, S13.2.2.2.2.drew⟩))
        (first
          | (go_at_call 20
             have hq := S14
             clear hq
             refine (eqState_same _ _ s _ ((Q13.out.below K14 (Nat.le_refl _)).more K14.size) Q14.out).mono ?_
             rintro e w15 ⟨rfl, hb15⟩
             have K15 : Below w13.heap.size w13 w15 := K14.trans (hb15.mono K14.size)
             have S15 := And.intro (T13.step K15).A.C (And.intro (T13.step K15).O.C (And.intro (Y13.step K15).C (And.intro (Z13.step K15).C K15))))
          | (go_at_call 16
             have Kd : Below w13.heap.size w13 w13.drew := (Below.refl _ _).drew
             refine (toState_any _ s _ ((HS.out.below (T13.step Kd).A.K (Nat.le_refl _)).more (T13.step Kd).A.K.size) F.out).mono ?_
             rintro e w14 ⟨q0, q1, q2, q3, rfl, N14, hb14⟩
             have Q14 := Lib.hid (N14.is F.out)
             have K14 : Below w13.heap.size w13 w14 := Kd.trans hb14
             have S14 := And.intro (T13.step K14).A.C (And.intro (T13.step K14).O.C (And.intro (Y13.step K14).C (And.intro (Z13.step K14).C K14)))))
      go_wp2
      go_ret
      exact ⟨rfl, (T13.step K15).A.K⟩
    · have e0 : szS left s = -1 := if_neg hsz2
      rw [e0]
      clear e0
      go_wp2_with fail
      go_ret
      exact ⟨rfl, T3.A.K⟩
  · have e0 : szP d = -1 := if_neg hsz
    rw [e0]
    clear e0
    go_wp2_with fail
    go_ret
    exact ⟨rfl, T2.A.K⟩
end Go.Proofs.Ytdphpjnecjofeaa
