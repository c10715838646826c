/-
  PROVED: FnExactHealthyInSaid: at every plan, state and group that can be read HealthyIn answers as its model, and writes into nothing. Conditions: none beside the form's own.
-/
import Derived.Test.YtchippjfpjiimaaUi
import Derived.Deep.RegionHeld3
import Derived.Test.YtchippjfpjiimaaPb
import Derived.Test.YtchippjfpjiimaaPj
import Derived.Test.YtchippjfpjiimaaVb
import Derived.Test.YtchippjfpjiimaaPc
import Derived.Test.YtchippjfpjiimaaMb
import Derived.Test.YtchippjfpjiimaaWg
import Derived.BigQuiet
import Derived.Test.YtchippjfpjiimaaA1
import Derived.ProofKit
import Derived.Deep.Slices
import Derived.Deep.Fields
import Derived.ChangeSame
import Derived.JoinedOf
import Derived.Test.YtchippjfpjiimaaPf
import Derived.Test.YtchippjfpjiimaaUd
/- MdHealthyIn -/
set_option linter.unusedVariables false
namespace Go.Proofs.Ytchippjfpjiimaa
open Go.RowKit

theorem IsPlan.go {w w' : World} {v : Value} {d : PlanD} (h : IsPlan w w.heap.size v d) (hb : Below w.heap.size w w') : IsPlan w' w'.heap.size v d := (h.below hb (Nat.le_refl _)).more hb.size

set_option maxRecDepth 100000 in
set_option maxHeartbeats 8000000 in
theorem lawHealthyIn (pv sv : Value) (d : PlanD) (s : StD) (xg : Int) (ans : Int) (w : World) (hp : IsPlan w w.heap.size pv d) (hs : IsSt w w.heap.size sv s)
    (HM : ∀ (pv sv : Value) (W : World), IsPlan W W.heap.size pv d → IsSt W W.heap.size sv s → Calls Try.prog 7 #[pv, sv, .int .i64 xg] W fun e w' => e = .returned (.int .i64 ans) ∧ Below W.heap.size W w')
    (HI : ∀ (pv sv : Value) (W : World), IsPlan W W.heap.size pv d → IsSt W W.heap.size sv s → Calls Try.prog 10 #[pv, sv, .int .i64 xg] W fun e w' => e = .returned (.int .i64 ans) ∧ Below W.heap.size W w') :
    Calls Try.prog 3 #[pv, sv, .int .i64 xg] w fun e w' => e = .returned (.bool true) ∧ Below w.heap.size w w' := by
  have HI := Lib.hid HI
  have HM := Lib.hid HM
  have H := Lib.hid hp
  have HS := Lib.hid hs
  obtain ⟨⟨A0, A1, A2, A3, c0, c1, c2, c3, rfl, -, -, -, -⟩, b0, b1, b2, b3⟩ := hp
  obtain ⟨⟨E0, E1, E2, E3, k0, k1, k2, k3, rfl, -, -, -, -⟩, -, -, -, -⟩ := hs
  have B0 := Lib.hid b0
  have B1 := Lib.hid b1
  have B2 := Lib.hid b2
  have B3 := Lib.hid b3
  clear b0 b1 b2 b3
  go_enter Try.func3, Try.ntmps3
  go_wp2_with fail
  have T0 := Two.start w (planC A0 A1 A2 A3 d.n0 c0 d.n1 c1 d.n2 c2 d.n3 c3 d.l d.p d.t) (stC E0 E1 E2 E3 s.pods.length k0 s.mnts.length k1 s.devs.length k2 s.lks.length k3 s.ph s.co s.ck s.bo s.ba s.lb s.gd s.pr) 27 32
  refine (szPlan_any _ d _ ((H.out.below T0.A.K (Nat.le_refl _)).more T0.A.K.size)).mono ?_
  rintro e w2 ⟨rfl, hb⟩
  have T2 := T0.step hb
  have hC := T2.A.C
  have hD := T2.O.C
  clear hb T0
  by_cases hsz : d.n0 + d.n1 + d.n2 + d.n3 ≤ 1048576
  · have e0 : szP d = 1048576 - d.n0 - d.n1 - d.n2 - d.n3 := if_pos hsz
    have l0 : 0 ≤ szP d := by omega
    have l1 : szP d ≤ 1048576 := by omega
    clear e0
    generalize szP d = left at *
    go_wp2_with fail
    refine (szState_any _ s left _ ((HS.out.below T2.A.K (Nat.le_refl _)).more T2.A.K.size) l0 l1).mono ?_
    rintro e w3 ⟨rfl, hb⟩
    have T3 := T2.step hb
    clear hb T2 hC hD
    have hC := T3.A.C
    have hD := T3.O.C
    by_cases hsz2 : (s.pods.length + s.mnts.length + s.devs.length + s.lks.length : Nat) ≤ left
    · have e0 : szS left s = left - (s.pods.length + s.mnts.length + s.devs.length + s.lks.length : Nat) := if_pos hsz2
      have l2 : 0 ≤ szS left s := by omega
      have hfit : StFits s 1048576 := ⟨by omega, by omega, by omega, by omega⟩
      have F := Lib.hid hfit
      clear e0 hsz2 hfit
      generalize szS left s = left2 at *
      go_wp2_with fail
      have S3 : (∀ o, w3.cell? ⟨w.heap.size, o, none⟩ = (planC A0 A1 A2 A3 d.n0 c0 d.n1 c1 d.n2 c2 d.n3 c3 d.l d.p d.t)[o]?) ∧ (∀ o, w3.cell? ⟨w.heap.size + 1, o, none⟩ = (stC E0 E1 E2 E3 s.pods.length k0 s.mnts.length k1 s.devs.length k2 s.lks.length k3 s.ph s.co s.ck s.bo s.ba s.lb s.gd s.pr)[o]?) ∧ Below w3.heap.size w3 w3 := ⟨hC, hD, Below.refl _ _⟩
      clear hC hD
      go_region_held3 (fun w' => (∀ o, w'.cell? ⟨w.heap.size, o, none⟩ = (planC A0 A1 A2 A3 d.n0 c0 d.n1 c1 d.n2 c2 d.n3 c3 d.l d.p d.t)[o]?) ∧ (∀ o, w'.cell? ⟨w.heap.size + 1, o, none⟩ = (stC E0 E1 E2 E3 s.pods.length k0 s.mnts.length k1 s.devs.length k2 s.lks.length k3 s.ph s.co s.ck s.bo s.ba s.lb s.gd s.pr)[o]?) ∧ Below w3.heap.size w3 w')
        (first | exact S3 | exact S4 | exact S5 | exact S6 | (exact ⟨S3.1, S3.2.1, S3.2.2.drew⟩))
        (first
          | (go_at_call 7
             have hq := S5
             clear hq
             refine (HM.out _ _ _ ((P4.out.below K4 (Nat.le_refl _)).more K4.size) Q5.out).mono ?_
             rintro e w6 ⟨rfl, hb6⟩
             have K6 : Below w3.heap.size w3 w6 := K5.trans (hb6.mono K5.size)
             have S6 := And.intro (T3.step K6).A.C (And.intro (T3.step K6).O.C K6))
          | (go_at_call 9
             have hq := S4
             clear hq
             refine (toState_any _ s _ ((HS.out.below (T3.step K3).A.K (Nat.le_refl _)).more (T3.step K3).A.K.size) F.out).mono ?_
             rintro e w5 ⟨q0, q1, q2, q3, rfl, N5, hb5⟩
             have Q5 := Lib.hid (N5.is F.out)
             have K4 := hb5
             have K5 : Below w3.heap.size w3 w5 := K3.trans (hb5.mono K3.size)
             have S5 := And.intro (T3.step K5).A.C (And.intro (T3.step K5).O.C K5))
          | (go_at_call 8
             have Kd : Below w3.heap.size w3 w3.drew := (Below.refl _ _).drew
             refine (toPlan_any _ d _ ((H.out.below (T3.step Kd).A.K (Nat.le_refl _)).more (T3.step Kd).A.K.size) (by omega) (by omega) (by omega) (by omega)).mono ?_
             rintro e w4 ⟨g0, g1, g2, g3, rfl, N4, hb4⟩
             have P4 := Lib.hid (N4.is B0.out B1.out B2.out B3.out)
             have K3 : Below w3.heap.size w3 w4 := Kd.trans hb4
             have S4 := And.intro (T3.step K3).A.C (And.intro (T3.step K3).O.C K3)))
      have T6 := T3.step K6
      clear S3 S4 S5 S6 P4 Q5 K3 K4 K5 K6 T3
      have hC := T6.A.C
      have hD := T6.O.C
      go_wp2_with fail
      refine (toPlan_any _ d _ ((H.out.below T6.A.K (Nat.le_refl _)).more T6.A.K.size) (by omega) (by omega) (by omega) (by omega)).mono ?_
      rintro e w7 ⟨a0, a1, a2, a3, rfl, N7, hb⟩
      have T7 := T6.step hb
      have P7 := Lib.hid (N7.is B0.out B1.out B2.out B3.out)
      clear hb T6 hC hD N7
      have hC := T7.A.C
      have hD := T7.O.C
      have hz := T7.A.z
      have hz1 := T7.O.z
      go_wp2_with fail
      have X8 := Own.box w7 (planC (some ⟨a0, 0, none⟩) (some ⟨a1, 0, none⟩) (some ⟨a2, 0, none⟩) (some ⟨a3, 0, none⟩) d.n0 d.n0 d.n1 d.n1 d.n2 d.n2 d.n3 d.n3 d.l d.p d.t) 40
      have T8 := T7.step X8.K
      have Y8 := Own.box2 T7.A.K (planC (some ⟨a0, 0, none⟩) (some ⟨a1, 0, none⟩) (some ⟨a2, 0, none⟩) (some ⟨a3, 0, none⟩) d.n0 d.n0 d.n1 d.n1 d.n2 d.n2 d.n3 d.n3 d.l d.p d.t) 40
      have P8 := Lib.hid (P7.out.go X8.K)
      clear T7 hC hD hz hz1 P7 X8
      generalize hg : w7.heap.size = g at *
      have hC := T8.A.C
      have hD := T8.O.C
      refine (toState_any _ s _ ((HS.out.below T8.A.K (Nat.le_refl _)).more T8.A.K.size) F.out).mono ?_
      rintro e w9 ⟨r0, r1, r2, r3, rfl, N9, hb⟩
      have T9 := T8.step hb
      have Y9 := Y8.step hb
      have P9 := Lib.hid (P8.out.go hb)
      have Q9 := Lib.hid (N9.is F.out)
      clear hb T8 Y8 P8 N9 hC hD hg
      have hC := T9.A.C
      have hD := T9.O.C
      have hE := Y9.C
      have hz2 := T9.A.z
      have hz3 := T9.O.z
      have hz4 := Y9.z
      unfold newStV
      go_wp2_with fail
      have X10 := Own.box w9 (stC (some ⟨r0, 0, none⟩) (some ⟨r1, 0, none⟩) (some ⟨r2, 0, none⟩) (some ⟨r3, 0, none⟩) s.pods.length s.pods.length s.mnts.length s.mnts.length s.devs.length s.devs.length s.lks.length s.lks.length s.ph s.co s.ck s.bo s.ba s.lb s.gd s.pr) 45
      have T10 := T9.step X10.K
      have Y10 := Y9.step X10.K
      have Z10 := Own.box2 T9.A.K (stC (some ⟨r0, 0, none⟩) (some ⟨r1, 0, none⟩) (some ⟨r2, 0, none⟩) (some ⟨r3, 0, none⟩) s.pods.length s.pods.length s.mnts.length s.mnts.length s.devs.length s.devs.length s.lks.length s.lks.length s.ph s.co s.ck s.bo s.ba s.lb s.gd s.pr) 45
      have P10 := Lib.hid (P9.out.go X10.K)
      have Q10 := Lib.hid (Q9.out.go X10.K)
      clear T9 Y9 hC hD hE hz2 hz3 hz4 P9 Q9 X10
      generalize hg : w9.heap.size = h at *
      refine (HI.out _ _ _ P10.out Q10.out).mono ?_
      rintro e w11 ⟨rfl, hb⟩
      have T11 := T10.step hb
      have Y11 := Y10.step hb
      have Z11 := Z10.step hb
      have P11 := Lib.hid (P10.out.go hb)
      have Q11 := Lib.hid (Q10.out.go hb)
      clear hb T10 Y10 Z10 P10 Q10 hg
      have hC := T11.A.C
      have hD := T11.O.C
      have hE := Y11.C
      have hF := Z11.C
      go_wp2_with fail
      have S11 : (∀ o, w11.cell? ⟨w.heap.size, o, none⟩ = (planC A0 A1 A2 A3 d.n0 c0 d.n1 c1 d.n2 c2 d.n3 c3 d.l d.p d.t)[o]?) ∧ (∀ o, w11.cell? ⟨w.heap.size + 1, o, none⟩ = (stC E0 E1 E2 E3 s.pods.length k0 s.mnts.length k1 s.devs.length k2 s.lks.length k3 s.ph s.co s.ck s.bo s.ba s.lb s.gd s.pr)[o]?) ∧ (∀ o, w11.cell? ⟨g, o, none⟩ = (planC (some ⟨a0, 0, none⟩) (some ⟨a1, 0, none⟩) (some ⟨a2, 0, none⟩) (some ⟨a3, 0, none⟩) d.n0 d.n0 d.n1 d.n1 d.n2 d.n2 d.n3 d.n3 d.l d.p d.t)[o]?) ∧ (∀ o, w11.cell? ⟨h, o, none⟩ = (stC (some ⟨r0, 0, none⟩) (some ⟨r1, 0, none⟩) (some ⟨r2, 0, none⟩) (some ⟨r3, 0, none⟩) s.pods.length s.pods.length s.mnts.length s.mnts.length s.devs.length s.devs.length s.lks.length s.lks.length s.ph s.co s.ck s.bo s.ba s.lb s.gd s.pr)[o]?) ∧ Below w11.heap.size w11 w11 := ⟨hC, hD, hE, hF, Below.refl _ _⟩
      clear hC hD hE hF
      go_region_held3 (fun w' => (∀ o, w'.cell? ⟨w.heap.size, o, none⟩ = (planC A0 A1 A2 A3 d.n0 c0 d.n1 c1 d.n2 c2 d.n3 c3 d.l d.p d.t)[o]?) ∧ (∀ o, w'.cell? ⟨w.heap.size + 1, o, none⟩ = (stC E0 E1 E2 E3 s.pods.length k0 s.mnts.length k1 s.devs.length k2 s.lks.length k3 s.ph s.co s.ck s.bo s.ba s.lb s.gd s.pr)[o]?) ∧ (∀ o, w'.cell? ⟨g, o, none⟩ = (planC (some ⟨a0, 0, none⟩) (some ⟨a1, 0, none⟩) (some ⟨a2, 0, none⟩) (some ⟨a3, 0, none⟩) d.n0 d.n0 d.n1 d.n1 d.n2 d.n2 d.n3 d.n3 d.l d.p d.t)[o]?) ∧ (∀ o, w'.cell? ⟨h, o, none⟩ = (stC (some ⟨r0, 0, none⟩) (some ⟨r1, 0, none⟩) (some ⟨r2, 0, none⟩) (some ⟨r3, 0, none⟩) s.pods.length s.pods.length s.mnts.length s.mnts.length s.devs.length s.devs.length s.lks.length s.lks.length s.ph s.co s.ck s.bo s.ba s.lb s.gd s.pr)[o]?) ∧ Below w11.heap.size w11 w')
        (first | exact S11 | exact S12 | exact S13 | (exact ⟨S11.1, S11.2.1, S11.2.2.1, S11.2.2.2.1, S11.2.2.2.2.drew⟩))
        (first
          | (go_at_call 11
             have hq := S12
             clear hq
             refine (eqPlan_same _ _ d _ ((P11.out.below K12 (Nat.le_refl _)).more K12.size) P12.out).mono ?_
             rintro e w13 ⟨rfl, hb13⟩
             have K13 : Below w11.heap.size w11 w13 := K12.trans (hb13.mono K12.size)
             have S13 := And.intro (T11.step K13).A.C (And.intro (T11.step K13).O.C (And.intro (Y11.step K13).C (And.intro (Z11.step K13).C K13))))
          | (go_at_call 8
             have Kd : Below w11.heap.size w11 w11.drew := (Below.refl _ _).drew
             refine (toPlan_any _ d _ ((H.out.below (T11.step Kd).A.K (Nat.le_refl _)).more (T11.step Kd).A.K.size) (by omega) (by omega) (by omega) (by omega)).mono ?_
             rintro e w12 ⟨g0, g1, g2, g3, rfl, N12, hb12⟩
             have P12 := Lib.hid (N12.is B0.out B1.out B2.out B3.out)
             have K12 : Below w11.heap.size w11 w12 := Kd.trans hb12
             have S12 := And.intro (T11.step K12).A.C (And.intro (T11.step K12).O.C (And.intro (Y11.step K12).C (And.intro (Z11.step K12).C K12)))))
      have T13 := T11.step K13
      have Y13 := Y11.step K13
      have Z13 := Z11.step K13
      have Q13 := Lib.hid ((Q11.out.below K13 (Nat.le_refl _)).more K13.size)
      clear S11 S12 S13 P12 P11 Q11 K12 K13 T11 Y11 Z11
      have hC := T13.A.C
      have hD := T13.O.C
      have hE := Y13.C
      have hF := Z13.C
      go_wp2_with fail
      have S13 : (∀ o, w13.cell? ⟨w.heap.size, o, none⟩ = (planC A0 A1 A2 A3 d.n0 c0 d.n1 c1 d.n2 c2 d.n3 c3 d.l d.p d.t)[o]?) ∧ (∀ o, w13.cell? ⟨w.heap.size + 1, o, none⟩ = (stC E0 E1 E2 E3 s.pods.length k0 s.mnts.length k1 s.devs.length k2 s.lks.length k3 s.ph s.co s.ck s.bo s.ba s.lb s.gd s.pr)[o]?) ∧ (∀ o, w13.cell? ⟨g, o, none⟩ = (planC (some ⟨a0, 0, none⟩) (some ⟨a1, 0, none⟩) (some ⟨a2, 0, none⟩) (some ⟨a3, 0, none⟩) d.n0 d.n0 d.n1 d.n1 d.n2 d.n2 d.n3 d.n3 d.l d.p d.t)[o]?) ∧ (∀ o, w13.cell? ⟨h, o, none⟩ = (stC (some ⟨r0, 0, none⟩) (some ⟨r1, 0, none⟩) (some ⟨r2, 0, none⟩) (some ⟨r3, 0, none⟩) s.pods.length s.pods.length s.mnts.length s.mnts.length s.devs.length s.devs.length s.lks.length s.lks.length s.ph s.co s.ck s.bo s.ba s.lb s.gd s.pr)[o]?) ∧ Below w13.heap.size w13 w13 := ⟨hC, hD, hE, hF, Below.refl _ _⟩
      clear hC hD hE hF
      go_region_held3 (fun w' => (∀ o, w'.cell? ⟨w.heap.size, o, none⟩ = (planC A0 A1 A2 A3 d.n0 c0 d.n1 c1 d.n2 c2 d.n3 c3 d.l d.p d.t)[o]?) ∧ (∀ o, w'.cell? ⟨w.heap.size + 1, o, none⟩ = (stC E0 E1 E2 E3 s.pods.length k0 s.mnts.length k1 s.devs.length k2 s.lks.length k3 s.ph s.co s.ck s.bo s.ba s.lb s.gd s.pr)[o]?) ∧ (∀ o, w'.cell? ⟨g, o, none⟩ = (planC (some ⟨a0, 0, none⟩) (some ⟨a1, 0, none⟩) (some ⟨a2, 0, none⟩) (some ⟨a3, 0, none⟩) d.n0 d.n0 d.n1 d.n1 d.n2 d.n2 d.n3 d.n3 d.l d.p d.t)[o]?) ∧ (∀ o, w'.cell? ⟨h, o, none⟩ = (stC (some ⟨r0, 0, none⟩) (some ⟨r1, 0, none⟩) (some ⟨r2, 0, none⟩) (some ⟨r3, 0, none⟩) s.pods.length s.pods.length s.mnts.length s.mnts.length s.devs.length s.devs.length s.lks.length s.lks.length s.ph s.co s.ck s.bo s.ba s.lb s.gd s.pr)[o]?) ∧ Below w13.heap.size w13 w')
        (first | exact S13 | exact S14 | exact S15 | (exact ⟨S13.1, S13.2.1, S13.2.2.1, S13.2.2.2.1, S13.2.2.2.2.drew⟩))
        (first
          | (go_at_call 12
             have hq := S14
             clear hq
             refine (eqState_same _ _ s _ ((Q13.out.below K14 (Nat.le_refl _)).more K14.size) Q14.out).mono ?_
             rintro e w15 ⟨rfl, hb15⟩
             have K15 : Below w13.heap.size w13 w15 := K14.trans (hb15.mono K14.size)
             have S15 := And.intro (T13.step K15).A.C (And.intro (T13.step K15).O.C (And.intro (Y13.step K15).C (And.intro (Z13.step K15).C K15))))
          | (go_at_call 9
             have Kd : Below w13.heap.size w13 w13.drew := (Below.refl _ _).drew
             refine (toState_any _ s _ ((HS.out.below (T13.step Kd).A.K (Nat.le_refl _)).more (T13.step Kd).A.K.size) F.out).mono ?_
             rintro e w14 ⟨q0, q1, q2, q3, rfl, N14, hb14⟩
             have Q14 := Lib.hid (N14.is F.out)
             have K14 : Below w13.heap.size w13 w14 := Kd.trans hb14
             have S14 := And.intro (T13.step K14).A.C (And.intro (T13.step K14).O.C (And.intro (Y13.step K14).C (And.intro (Z13.step K14).C K14)))))
      go_wp2
      go_ret
      exact ⟨rfl, (T13.step K15).A.K⟩
    · have e0 : szS left s = -1 := if_neg hsz2
      rw [e0]
      clear e0
      go_wp2_with fail
      go_ret
      exact ⟨rfl, T3.A.K⟩
  · have e0 : szP d = -1 := if_neg hsz
    rw [e0]
    clear e0
    go_wp2_with fail
    go_ret
    exact ⟨rfl, T2.A.K⟩
end Go.Proofs.Ytchippjfpjiimaa
/- PbG -/
set_option linter.unusedVariables false
namespace Go.Proofs.Ytchippjfpjiimaa
open Go.RowKit

set_option maxHeartbeats 400000 in
theorem groupOfPod_any (A0 A1 A2 A3 : Option Addr) (n0 c0 n1 c1 n2 c2 n3 c3 : Nat) (l p t : Int) (x0 : Nat → Int) (i : Nat) (w : World)
    (s0 : Sl w w.heap.size 4 A0 n0 x0) (hi : i < n0) (b0 : n0 ≤ maxLen) :
    Calls Try.prog 74 #[planV A0 A1 A2 A3 n0 c0 n1 c1 n2 c2 n3 c3 l p t, .int .i64 i] w fun e w' =>
      e = .returned (.int .i64 (x0 (i * 4))) ∧ Below w.heap.size w w' := by
  unfold maxLen at b0
  obtain ⟨b, off, rfl, hb, q0, q1, q2, q3⟩ := s0.cell4 hi
  clear s0
  go_enter Try.func74, Try.ntmps74
  go_wp2
  go_ret
  exact ⟨rfl, (Below.refl _ _).alloc (Nat.le_refl _) _⟩
end Go.Proofs.Ytchippjfpjiimaa
/- Pl -/
set_option linter.unusedVariables false
namespace Go.Proofs.Ytchippjfpjiimaa
open Go.RowKit

theorem enter_groupOfPod (x y : Value) (wr : World) : (callFunc 74 #[x, y]).run Try.prog wr = .ok (.enter 74 #[x, y]) wr := by simp [go_sem]
set_option maxRecDepth 100000 in
set_option maxHeartbeats 1000000 in
theorem implPodsIn_any (v : Value) (d : PlanD) (wanted : Int) (w : World) (h : IsPlan w w.heap.size v d) (hn : d.n0 ≤ 1048576) :
    Calls Try.prog 52 #[v, .int .i64 wanted] w (Listed w (found d d.n0 (fun i => d.x0 (i * 4)) wanted)) := by
  have P := Lib.hid h
  obtain ⟨⟨A0, A1, A2, A3, c0, c1, c2, c3, rfl, s0, s1, s2, s3⟩, b0, b1, b2, b3⟩ := h
  have S := Lib.hid s0
  have B := Lib.hid b0
  have HN := Lib.hid hn
  clear s0 s1 s2 s3 b0 b1 b2 b3 hn
  go_enter Try.func52, Try.ntmps52
  go_wp2_with fail
  have X1 := Own.box w (planC A0 A1 A2 A3 d.n0 c0 d.n1 c1 d.n2 c2 d.n3 c3 d.l d.p d.t) 40
  refine (numbersWith_any _ d _ d.n0 (fun i => d.x0 (i * 4)) wanted _ ((P.out.below X1.K (Nat.le_refl _)).more X1.K.size) HN.out enter_groupOfPod ?_).mono ?_
  · exact fun i hi wr hb => groupOfPod_any A0 A1 A2 A3 d.n0 c0 d.n1 c1 d.n2 c2 d.n3 c3 d.l d.p d.t d.x0 i wr ((S.out.below (X1.K.trans (hb.mono X1.K.size)) (Nat.le_refl _)).more (X1.K.trans (hb.mono X1.K.size)).size) hi B.out
  · intro e w2 hL
    obtain ⟨v', rfl, O, K⟩ := hL.back X1.K
    clear hL
    go_wp2_with fail
    go_ret
    exact ⟨_, rfl, O, K⟩

end Go.Proofs.Ytchippjfpjiimaa
/- VbS -/
set_option linter.unusedVariables false
namespace Go.Proofs.Ytchippjfpjiimaa
open Go.RowKit

set_option maxHeartbeats 2000000 in
theorem implStateOk_any (pv sv : Value) (d : PlanD) (s : StD) (w : World) (hp : IsPlan w w.heap.size pv d) (h : IsSt w w.heap.size sv s) :
    Calls Try.prog 31 #[pv, sv] w fun e w' => e = .returned (.bool (stOkB d s)) ∧ Below w.heap.size w w' := by
  have HP := Lib.hid hp
  obtain ⟨⟨A0, A1, A2, A3, c0, c1, c2, c3, rfl, -, -, -, -⟩, b0, b1, b2, b3⟩ := hp
  obtain ⟨⟨E0, E1, E2, E3, k0, k1, k2, k3, rfl, s0, s1, s2, s3⟩, d0, d1, d2, d3⟩ := h
  have HANS := Lib.hid (stOkB_right d s)
  have HR : Hid (∀ W, Below w.heap.size w W → Calls Try.prog 51 #[.agg (besC A0 A1 A2 A3 d.n0 c0 d.n1 c1 d.n2 c2 d.n3 c3 d.l d.p d.t E0 E1 E2 E3 s.pods.length k0 s.mnts.length k1 s.devs.length k2 s.lks.length k3 s.ph s.co s.ck s.bo s.ba s.lb s.gd s.pr)] W fun e w' => e = .returned (.bool (rightB d.n0 d.n2 d.n3 d.t s)) ∧ Below W.heap.size W w') := by
    refine Lib.hid fun W K => ?_
    refine (right_run (besC A0 A1 A2 A3 d.n0 c0 d.n1 c1 d.n2 c2 d.n3 c3 d.l d.p d.t E0 E1 E2 E3 s.pods.length k0 s.mnts.length k1 s.devs.length k2 s.lks.length k3 s.ph s.co s.ck s.bo s.ba s.lb s.gd s.pr) s.ph s.ck s.bo s.ba s.lb s.gd s.pr d.t s.co E0 E1 E3 s.pods.length k0 s.mnts.length k1 s.lks.length k3 W
      _ _ _ _ _ _ rfl rfl rfl rfl rfl rfl rfl rfl rfl rfl rfl rfl rfl
      (fun W' _ => countsRight_any A0 A1 A2 A3 d.n0 c0 d.n1 c1 d.n2 c2 d.n3 c3 d.l d.p d.t E0 E1 E2 E3 s.pods.length k0 s.mnts.length k1 s.devs.length k2 s.lks.length k3 s.ph s.co s.ck s.bo s.ba s.lb s.gd s.pr W' b0 b2 b3 d0 d1 d2)
      (fun W' _ => numbersRight_any s.ph s.ck s.bo s.ba s.lb s.gd s.pr W')
      (fun W' _ => probesRight_any s.ph s.ck s.bo s.ba s.lb s.gd s.pr d.t W')
      (fun W' K' => all_besPods A0 A1 A2 A3 d.n0 c0 d.n1 c1 d.n2 c2 d.n3 c3 d.l d.p d.t E0 E1 E2 E3 s.pods.length k0 s.mnts.length k1 s.devs.length k2 s.lks.length k3 s.ph s.co s.ck s.bo s.ba s.lb s.gd s.pr s.pods w W' (K.trans (K'.mono K.size)) rfl s0 d0)
      (fun W' K' => all_besMounts A0 A1 A2 A3 d.n0 c0 d.n1 c1 d.n2 c2 d.n3 c3 d.l d.p d.t E0 E1 E2 E3 s.pods.length k0 s.mnts.length k1 s.devs.length k2 s.lks.length k3 s.ph s.co s.ck s.bo s.ba s.lb s.gd s.pr s.mnts w W' (K.trans (K'.mono K.size)) rfl s1 d1)
      (fun W' K' => all_besLocks A0 A1 A2 A3 d.n0 c0 d.n1 c1 d.n2 c2 d.n3 c3 d.l d.p d.t E0 E1 E2 E3 s.pods.length k0 s.mnts.length k1 s.devs.length k2 s.lks.length k3 s.ph s.co s.ck s.bo s.ba s.lb s.gd s.pr s.lks w W' (K.trans (K'.mono K.size)) rfl s3 d3)).mono ?_
    rintro e w' ⟨rfl, hb⟩
    exact ⟨rfl, hb⟩
  clear s0 s1 s2 s3 b0 b1 b2 b3 d0 d1 d2 d3
  have T0 := Two.start w (planC A0 A1 A2 A3 d.n0 c0 d.n1 c1 d.n2 c2 d.n3 c3 d.l d.p d.t) (stC E0 E1 E2 E3 s.pods.length k0 s.mnts.length k1 s.devs.length k2 s.lks.length k3 s.ph s.co s.ck s.bo s.ba s.lb s.gd s.pr) 40 45
  generalize stOkB d s = ans at *
  generalize rightB d.n0 d.n2 d.n3 d.t s = rt at *
  go_enter Try.func31, Try.ntmps31
  go_wp2_with fail
  refine (planOk_any _ d _ ((HP.out.below T0.A.K (Nat.le_refl _)).more T0.A.K.size)).mono ?_
  rintro e w1 ⟨rfl, hb1⟩
  have X := T0.step hb1
  have hC := X.A.C
  have hD := X.O.C
  clear T0 hb1
  cases h0 : planOkB d
  · have H0 := Lib.hid h0
    clear h0
    go_wp2_with fail
    go_ret
    exact ⟨ret_bool (by rw [HANS.out, H0.out]; simp), X.A.K⟩
  · have H0 := Lib.hid h0
    clear h0
    go_wp2_with fail
    refine (besidePlan_any A0 A1 A2 A3 d.n0 c0 d.n1 c1 d.n2 c2 d.n3 c3 d.l d.p d.t E0 E1 E2 E3 s.pods.length k0 s.mnts.length k1 s.devs.length k2 s.lks.length k3 s.ph s.co s.ck s.bo s.ba s.lb s.gd s.pr _).mono ?_
    rintro e w2 ⟨rfl, hb2⟩
    have X2 := X.step hb2
    clear hb2 X hC hD
    go_wp2_with fail
    refine (HR.out _ X2.A.K).mono ?_
    rintro e w3 ⟨rfl, hb3⟩
    have X3 := X2.step hb3
    clear hb3 X2
    go_wp2
    go_ret
    exact ⟨ret_bool (by rw [HANS.out, H0.out]; simp), X3.A.K⟩
end Go.Proofs.Ytchippjfpjiimaa
/- Mc -/
set_option linter.unusedVariables false
namespace Go.Proofs.Ytchippjfpjiimaa
open Go.RowKit Go.Maps

theorem law64 : Keyed Try.prog 2 := int_keyed Try.underlying2
theorem zero_bool (w : World) : (zeroValue 4).run Try.prog w = .ok (.bool false) w := by kernel_rfl
theorem Keeps.of_grown {w w' : World} {b : Nat} (h : w.grownBy w' (some b)) : Keeps (fun x => x = b) w w' := by
  obtain ⟨h1, h2, h3, h4, h5⟩ := h
  exact ⟨h1, h2, h3, h4, fun i hi hn => h5 i hi (fun e => hn (by cases e; rfl))⟩
theorem Two.keepB {w w1 w2 : World} {cs os : Array Value} {b : Nat} (h : Two w w1 cs os) (hg : w1.grownBy w2 (some b)) (hb : w.heap.size + 2 ≤ b) : Two w w2 cs os :=
  ⟨h.A.keeps (Keeps.of_grown hg) (by intro x hx; omega) (by omega), h.O.keeps (Keeps.of_grown hg) (by intro x hx; omega) (by omega)⟩
/-- What leftIn answers: a map of the call's own. -/
def LeftIn (w : World) (d : PlanD) (s : StD) (g : Int) (e : Ending) (w' : World) : Prop :=
  ∃ B n D, e = .returned (.map (some B)) ∧ w'.ownsMap Try.prog 2 (plainElem (H := Unit) Try.prog 4) B n D ∧ (∀ i : Nat, i < d.n0 → D.atKey (.int .i64 i) (.lit (.bool false)) = .lit (.bool (hP d s g i))) ∧
    (Go.Maps.size D : Int) = healthyN d s g ∧ Below w.heap.size w w'

set_option maxRecDepth 100000 in
set_option maxHeartbeats 4000000 in
theorem implLeftIn_any (pv sv : Value) (d : PlanD) (s : StD) (g : Int) (w : World) (hp : IsPlan w w.heap.size pv d) (hs : IsSt w w.heap.size sv s) (hok : StOk d s) :
    Calls Try.prog 33 #[pv, sv, .int .i64 g] w (LeftIn w d s g) := by
  have HP := Lib.hid hp
  have HS := Lib.hid hs
  have OK := Lib.hid hok
  have HL := Lib.hid (planOk_lock hok.plan)
  obtain ⟨⟨P0, P1, P2, P3, k0, k1, k2, k3, rfl, -, -, -, -⟩, b0, b1, b2, b3⟩ := hp
  obtain ⟨⟨A0, A1, A2, A3, c0, c1, c2, c3, rfl, t0, -, -, -⟩, f0, f1, f2, f3⟩ := hs
  have R0 := Lib.hid t0
  clear t0 hok
  unfold maxLen at b0 b1 b2 b3 f0 f1 f2 f3
  have T0 := Two.start w (planC P0 P1 P2 P3 d.n0 k0 d.n1 k1 d.n2 k2 d.n3 k3 d.l d.p d.t) (stC A0 A1 A2 A3 s.pods.length c0 s.mnts.length c1 s.devs.length c2 s.lks.length c3 s.ph s.co s.ck s.bo s.ba s.lb s.gd s.pr) 40 45
  have hmm := @run_makeMap Try.prog
  go_enter Try.func33, Try.ntmps33
  go_wp2_with fail
  have T1 := T0.step ((Below.refl _ _).alloc (Nat.le_refl _) (.map #[] 0))
  have M1 := World.ownsMap_made ((w.alloc (.cells (planC P0 P1 P2 P3 d.n0 k0 d.n1 k1 d.n2 k2 d.n3 k3 d.l d.p d.t) 40)).alloc (.cells (stC A0 A1 A2 A3 s.pods.length c0 s.mnts.length c1 s.devs.length c2 s.lks.length c3 s.ph s.co s.ck s.bo s.ba s.lb s.gd s.pr) 45)) Try.prog 2 (plainElem (H := Unit) Try.prog 4)
  simp only [heap_size_alloc_] at M1
  refine (implPodsIn_any _ d g _ ((HP.out.below T1.A.K (Nat.le_refl _)).more T1.A.K.size) (by have := HL.out; omega)).mono ?_
  rintro e w2 ⟨v, rfl, O, hb⟩
  rw [found_yes OK.out.plan] at O
  obtain ⟨L, hL⟩ : ∃ L, hits d.n0 (fun i => d.x0 (i * 4)) g = L := ⟨_, rfl⟩
  rw [hL] at O
  obtain ⟨Q, c, r0, rfl, hQ, hB, hz, R⟩ := open_list O
  have T2 := T1.step hb
  have M2 := M1.kept (row := none) ⟨hb.os, hb.tape, hb.output, hb.size, fun k hk _ => hb.block k hk⟩ (by simp)
  have HQ := Lib.hid hQ
  have HR := Lib.hid R
  have HB := Lib.hid hB
  have HLn : Hid (L.length ≤ 12) := Lib.hid (by rw [← hL]; have := hits_le d.n0 (fun i => d.x0 (i * 4)) g; have := HL.out; omega)
  have HLR : Hid (L.Pairwise (· < ·)) := Lib.hid (by rw [← hL]; exact hits_rise _ _ _)
  have HLW : Hid (∀ k, k < L.length → (Lit.int .i64 (L.getD k 0)).wf = true) := Lib.hid fun k hk => by
    have hm : L.getD k 0 ∈ hits d.n0 (fun i => d.x0 (i * 4)) g := by
      rw [hL]
      simp [List.getD, hk]
    have := mem_hits.1 hm
    have := HL.out
    exact WalkArith.wf_i64 (by omega)
  have HLL := Lib.hid hL.symm
  simp only [heap_size_alloc_] at hB
  have HB := Lib.hid hB
  have HZ := Lib.hid hz
  have HR := Lib.hid R
  clear hL hQ hB hz R O M1 T1 T0 hb
  have hln := HLn.out
  go_wp2_with fail
  go_loopw [17] (fun i wr => ∃ (k : Nat) (D : DataW Unit), k ≤ L.length ∧ i = .int .i64 k ∧ wr.ownsMap Try.prog 2 (plainElem Try.prog 4) (w.heap.size + 1 + 1) k D ∧ SetD D (fun i => decide (i ∈ L.take k)) k ∧ Keeps (fun x => x = w.heap.size + 1 + 1) w2 wr ∧ Two w wr (planC P0 P1 P2 P3 d.n0 k0 d.n1 k1 d.n2 k2 d.n3 k3 d.l d.p d.t) (stC A0 A1 A2 A3 s.pods.length c0 s.mnts.length c1 s.devs.length c2 s.lks.length c3 s.ph s.co s.ck s.bo s.ba s.lb s.gd s.pr)) (fun i _ => L.length - (intOf i).toNat)
  case atStart => exact ⟨0, _, Nat.zero_le _, rfl, M2, SetD.empty.congr (fun i => by simp) rfl, Keeps.refl _ _, T2⟩
  case round =>
    clear M2 T2
    obtain ⟨k, D, hk, rfl, M, hS, hK, T⟩ := hrel
    have HM := Lib.hid M
    have HSD := Lib.hid hS
    have HK := Lib.hid hK
    clear M hS hK
    have hC := T.A.C
    have hD := T.O.C
    by_cases hlt : k < L.length
    · have e0 := HQ.out (by omega)
      subst e0
      have q0 := ((HR.out.goK HZ.out HK.out (fun hn e => by have := HB.out; omega)) k hlt).1
      have hkey : keyOf Try.prog 2 (.int .i64 (L.getD k 0)) = some (.int .i64 (L.getD k 0)) := keyOf_int_mk Try.underlying2 (HLW.out k hlt)
      have HKEY := Lib.hid hkey
      have HSN := Lib.hid (HSD.out.one HLR.out hlt)
      clear hkey
      generalize L.getD k 0 = x at *
      go_wp2_with (first
        | (at_mapUpdate; refine wpList_mapUpdate_own _ rfl _ _ _ 72 rfl 2 4 law64 Try.underlying72 _ (w.heap.size + 1 + 1) k _ rfl HM.out (by unfold maxLen; omega) _ _ _ rfl rfl HKEY.out _ [] (plainElem_bool Try.underlying4 true) ?_; intro w1 hown1 hgrow1))
      refine ⟨⟨k + 1, _, by omega, by go_num, hown1, HSN.out, HK.out.trans (Keeps.of_grown hgrow1), T.keepB hgrow1 (by omega)⟩, by simp [intOf]; omega⟩
    · obtain rfl : k = L.length := by omega
      have HST := Lib.hid (left_start (s := s) HLL.out HSD.out)
      clear HSD HK HR HQ HZ HB
      obtain ⟨hp, hnp⟩ : s.pods.length ≤ 12 ∧ s.pods.length = d.n0 := by have := OK.out.np; have := HL.out; omega
      have HNP := Lib.hid hnp
      clear hnp
      go_wp2_with fail
      go_loopw [27] (fun i wr => ∃ (k : Nat) (D : DataW Unit), k ≤ s.pods.length ∧ i = .int .i64 k ∧ wr.ownsMap Try.prog 2 (plainElem Try.prog 4) (w.heap.size + 1 + 1) L.length D ∧ SetD D (leftF d s g k) (leftN d s g k) ∧ Two w wr (planC P0 P1 P2 P3 d.n0 k0 d.n1 k1 d.n2 k2 d.n3 k3 d.l d.p d.t) (stC A0 A1 A2 A3 s.pods.length c0 s.mnts.length c1 s.devs.length c2 s.lks.length c3 s.ph s.co s.ck s.bo s.ba s.lb s.gd s.pr)) (fun i _ => s.pods.length - (intOf i).toNat)
      case atStart => exact ⟨0, _, Nat.zero_le _, rfl, HM.out, HST.out, T⟩
      case round =>
        clear HM HST T hC hD
        obtain ⟨k, D, hk, rfl, M, hS, T⟩ := hrel
        have HM := Lib.hid M
        have HSD := Lib.hid hS
        clear M hS
        have hC := T.A.C
        have hD := T.O.C
        by_cases hlt : k < s.pods.length
        · obtain ⟨b, off, rfl, hb, hc⟩ := (R0.out.below T.A.K (Nat.le_refl _)).cell hlt
          have hp := podCs_at s.pods (i := k) hlt
          have q0 := (hc 0 (by decide)).trans hp.1
          have q1 := (hc 1 (by decide)).trans hp.2
          rw [Nat.add_zero] at q0
          clear hc hp
          have hk0 : k < d.n0 := by have := HNP.out; omega
          have hkey : keyOf Try.prog 2 (.int .i64 k) = some (.int .i64 k) := keyOf_int_mk Try.underlying2 (WalkArith.wf_i64 (by omega))
          have HKEY := Lib.hid hkey
          clear hkey
          by_cases hx : (podA s.pods k).1 = 0
          · have HN := Lib.hid (left_stay HSD.out hx)
            generalize podA s.pods k = r at q0 q1 hx
            obtain ⟨x, y⟩ := r
            dsimp only at q0 q1 hx
            subst hx
            go_wp2_with fail
            refine ⟨⟨k + 1, D, by omega, by go_num, HM.out.alloc _, HN.out, T.step ((Below.refl _ _).alloc (Nat.le_refl _) _)⟩, by simp [intOf]; omega⟩
          · have HN := Lib.hid (left_drop HSD.out hk0 hx)
            generalize podA s.pods k = r at q0 q1 hx
            obtain ⟨x, y⟩ := r
            dsimp only at q0 q1 hx
            go_wp2_with (first
              | (at_delete; refine wpList_delete_own _ rfl _ _ 72 2 rfl 4 law64 Try.underlying72 _ (w.heap.size + 1 + 1) L.length D rfl (HM.out.alloc _) _ _ rfl HKEY.out ?_; intro w1 hown1 hturn1))
            refine ⟨⟨k + 1, _, by omega, by go_num, hown1, HN.out, (T.step ((Below.refl _ _).alloc (Nat.le_refl _) _)).keepB hturn1.grown (by omega)⟩, by simp [intOf]; omega⟩
        · obtain rfl : k = s.pods.length := by omega
          have HE := Lib.hid (left_end (by have := HSD.out; rw [HNP.out] at this; exact this))
          clear HSD
          go_wp2_with fail
          go_ret
          exact ⟨_, _, D, rfl, HM.out, HE.out.1, HE.out.2, T.A.K⟩

set_option maxRecDepth 100000 in
set_option maxHeartbeats 4000000 in
theorem implHealthyIn_any (pv sv : Value) (d : PlanD) (s : StD) (g : Int) (w : World) (hp : IsPlan w w.heap.size pv d) (hs : IsSt w w.heap.size sv s) :
    Calls Try.prog 10 #[pv, sv, .int .i64 g] w fun e w' => e = .returned (.int .i64 (if stOkB d s && inB g 0 (d.n1 - 1) then healthyN d s g else -1)) ∧ Below w.heap.size w w' := by
  have HP := Lib.hid hp
  have HS := Lib.hid hs
  obtain ⟨⟨P0, P1, P2, P3, k0, k1, k2, k3, rfl, -, -, -, -⟩, b0, b1, b2, b3⟩ := hp
  obtain ⟨⟨A0, A1, A2, A3, c0, c1, c2, c3, rfl, -, -, -, -⟩, f0, f1, f2, f3⟩ := hs
  unfold maxLen at b0 b1 b2 b3 f0 f1 f2 f3
  have T0 := Two.start w (planC P0 P1 P2 P3 d.n0 k0 d.n1 k1 d.n2 k2 d.n3 k3 d.l d.p d.t) (stC A0 A1 A2 A3 s.pods.length c0 s.mnts.length c1 s.devs.length c2 s.lks.length c3 s.ph s.co s.ck s.bo s.ba s.lb s.gd s.pr) 40 45
  obtain ⟨ans, hans⟩ : ∃ ans, (if stOkB d s && inB g 0 (d.n1 - 1) then healthyN d s g else -1) = ans := ⟨_, rfl⟩
  rw [hans]
  have HANS := Lib.hid hans
  clear hans
  go_enter Try.func10, Try.ntmps10
  go_wp2_with fail
  refine (implStateOk_any _ _ d s _ ((HP.out.below T0.A.K (Nat.le_refl _)).more T0.A.K.size) ((HS.out.below T0.A.K (Nat.le_refl _)).more T0.A.K.size)).mono ?_
  rintro e w1 ⟨rfl, hb⟩
  have T1 := T0.step hb
  have hC := T1.A.C
  have hD := T1.O.C
  clear hb T0
  cases hok : stOkB d s
  · have OKB := Lib.hid hok
    clear hok
    go_wp2
    all_goals (go_ret; exact ⟨ret_int (by rw [← HANS.out, OKB.out]; rfl), T1.A.K⟩)
  · have OK := Lib.hid (stOkB_iff.1 hok)
    have OKB := Lib.hid hok
    clear hok
    go_wp2_with fail
    refine (isIndex_any _ _ _).mono ?_
    rintro e w2 ⟨rfl, rfl⟩
    cases hin : inB g 0 (d.n1 - 1)
    · have HIN := Lib.hid hin
      clear hin
      go_wp2
      all_goals (go_ret; exact ⟨ret_int (by rw [← HANS.out, OKB.out, HIN.out]; rfl), T1.A.K⟩)
    · have HIN := Lib.hid hin
      clear hin
      go_wp2_with fail
      refine (implLeftIn_any _ _ d s g _ ((HP.out.below T1.A.K (Nat.le_refl _)).more T1.A.K.size) ((HS.out.below T1.A.K (Nat.le_refl _)).more T1.A.K.size) OK.out).mono ?_
      rintro e w3 ⟨B, n, D, rfl, hown, -, hsz, hb⟩
      have T3 := T1.step hb
      have HSZ := Lib.hid hsz
      have HO := Lib.hid hown
      clear hb T1 hC hD hown hsz
      go_wp2_with (at_len; refine wpList_len_own _ rfl _ 72 rfl 2 4 Try.underlying72 _ B n D rfl HO.out ?_)
      go_ret
      exact ⟨ret_int (by rw [← HANS.out, OKB.out, HIN.out, HSZ.out]; rfl), T3.A.K⟩

set_option maxRecDepth 100000 in
set_option maxHeartbeats 4000000 in
theorem implMayEvict_any (pv sv : Value) (d : PlanD) (s : StD) (a : Int) (w : World) (hp : IsPlan w w.heap.size pv d) (hs : IsSt w w.heap.size sv s) :
    Calls Try.prog 14 #[pv, sv, .int .i64 a] w fun e w' => e = .returned (.bool (stOkB d s && mayEvictB d s a)) ∧ Below w.heap.size w w' := by
  have HP := Lib.hid hp
  have HS := Lib.hid hs
  obtain ⟨⟨P0, P1, P2, P3, k0, k1, k2, k3, rfl, s0, s1, -, -⟩, b0, b1, b2, b3⟩ := hp
  obtain ⟨⟨A0, A1, A2, A3, c0, c1, c2, c3, rfl, -, -, -, -⟩, f0, f1, f2, f3⟩ := hs
  have S0 := Lib.hid s0
  have S1 := Lib.hid s1
  unfold maxLen at b0 b1 b2 b3 f0 f1 f2 f3
  clear s0 s1
  have T0 := Two.start w (planC P0 P1 P2 P3 d.n0 k0 d.n1 k1 d.n2 k2 d.n3 k3 d.l d.p d.t) (stC A0 A1 A2 A3 s.pods.length c0 s.mnts.length c1 s.devs.length c2 s.lks.length c3 s.ph s.co s.ck s.bo s.ba s.lb s.gd s.pr) 40 45
  obtain ⟨ans, hans⟩ : ∃ ans, (stOkB d s && mayEvictB d s a) = ans := ⟨_, rfl⟩
  rw [hans]
  have HANS := Lib.hid hans
  clear hans
  go_enter Try.func14, Try.ntmps14
  go_wp2_with fail
  refine (implStateOk_any _ _ d s _ ((HP.out.below T0.A.K (Nat.le_refl _)).more T0.A.K.size) ((HS.out.below T0.A.K (Nat.le_refl _)).more T0.A.K.size)).mono ?_
  rintro e w1 ⟨rfl, hb⟩
  have T1 := T0.step hb
  have hC := T1.A.C
  have hD := T1.O.C
  clear hb T0
  cases hok : stOkB d s
  · have OKB := Lib.hid hok
    clear hok
    go_wp2
    all_goals (go_ret; exact ⟨ret_bool (by rw [← HANS.out, OKB.out]; rfl), T1.A.K⟩)
  · have OK := Lib.hid (stOkB_iff.1 hok)
    have OKB := Lib.hid hok
    clear hok
    cases hph : (s.ph != 2)
    case true =>
      have HPH : Hid (¬ s.ph = 2) := Lib.hid (by simpa using hph)
      go_wp2
      all_goals (go_ret; exact ⟨ret_bool (by rw [← HANS.out, OKB.out]; simp [mayEvictB, HPH.out]), T1.A.K⟩)
    case false =>
      have HPH : Hid (s.ph = 2) := Lib.hid (by simpa using hph)
      go_wp2_with fail
      refine (isIndex_any _ _ _).mono ?_
      rintro e w2 ⟨rfl, rfl⟩
      cases hin : inB a 0 (d.n0 - 1)
      · have HIN := Lib.hid hin
        clear hin
        go_wp2
        all_goals (go_ret; exact ⟨ret_bool (by rw [← HANS.out, OKB.out]; simp [mayEvictB, HIN.out]), T1.A.K⟩)
      · have HIN := Lib.hid hin
        obtain ⟨i, rfl, hi⟩ := index_nat (a := a) (n := d.n0) (by rw [hin]; decide)
        clear hin hph
        obtain ⟨m, hm, hml⟩ := pod_group OK.out.plan hi
        have HANS2 : Hid (ans = (hP d s m i && decide (d.x1 m < healthyN d s m))) := Lib.hid (by
          rw [← HANS.out, OKB.out, mayEvictB, HIN.out, HPH.out, Int.toNat_natCast, hm, Int.toNat_natCast]
          simp [podAt, podA, hP, hm])
        obtain ⟨b, off, rfl, hb, q0, -, -, -⟩ := (S0.out.own T1.A).cell4 hi
        rw [hm] at q0
        clear hm
        go_wp2_with fail
        refine (implLeftIn_any _ _ d s m _ ((HP.out.below T1.A.K (Nat.le_refl _)).more T1.A.K.size) ((HS.out.below T1.A.K (Nat.le_refl _)).more T1.A.K.size) OK.out).mono ?_
        rintro e w3 ⟨B, n, D, rfl, hown, hat, hsz, hb3⟩
        have T3 := T1.step hb3
        obtain ⟨b1_, off1, rfl, hb1, r0⟩ := (S1.out.below T3.A.K (Nat.le_refl _)).cell1 hml
        have hi12 : i < 1000 := by have := planOk_lock OK.out.plan; omega
        have hkey : keyOf Try.prog 2 (.int .i64 i) = some (.int .i64 i) := keyOf_int_mk Try.underlying2 (WalkArith.wf_i64 (by omega))
        have hlk : ∀ q, (Instr.lookup 72 (.map (some B)) (.int .i64 i) false).run Try.prog (w3.drewN q) = .ok (.bool (hP d s m i)) (w3.drewN q) := fun q => by
          have hown' : (w3.drewN q).ownsMap Try.prog 2 (plainElem (H := Unit) Try.prog 4) B n D := hown.kept (row := none) ⟨(below_drewN (Below.refl w3.heap.size w3) q).os, (below_drewN (Below.refl w3.heap.size w3) q).tape, (below_drewN (Below.refl w3.heap.size w3) q).output, (below_drewN (Below.refl w3.heap.size w3) q).size, fun k hk _ => (below_drewN (Below.refl w3.heap.size w3) q).block k hk⟩ (by simp)
          obtain ⟨v, ps, hrun, hv⟩ := hown'.lookup law64 Try.underlying72 (zero_bool _) (plainElem_bool Try.underlying4 false) hkey
          obtain ⟨x, rfl, hx⟩ := plainElem_bool_is Try.underlying4 hv
          rw [hat i hi] at hx
          simp only [Prod.mk.injEq, DataW.lit.injEq, Lit.bool.injEq] at hx
          rw [hx.1]
          exact hrun
        have hlen : ∀ q ty, (Builtin.len_ #[72] ty #[.map (some B)]).run Try.prog (w3.drewN q) = .ok (.int .i64 (healthyN d s m)) (w3.drewN q) := fun q ty => by
          have hown' : (w3.drewN q).ownsMap Try.prog 2 (plainElem (H := Unit) Try.prog 4) B n D := hown.kept (row := none) ⟨(below_drewN (Below.refl w3.heap.size w3) q).os, (below_drewN (Below.refl w3.heap.size w3) q).tape, (below_drewN (Below.refl w3.heap.size w3) q).output, (below_drewN (Below.refl w3.heap.size w3) q).size, fun k hk _ => (below_drewN (Below.refl w3.heap.size w3) q).block k hk⟩ (by simp)
          rw [← hsz]
          exact hown'.len Try.underlying72 ty
        clear hown hat hsz hkey hb3 T1 hC hD q0 hb
        have hC := T3.A.C
        have hD := T3.O.C
        generalize healthyN d s m = hn at *
        cases hp : hP d s m i
        · rw [hp] at hlk HANS2
          go_wp2_with fail
          go_quiet (fail)
          go_wp2
          all_goals (go_ret; exact ⟨ret_bool (by rw [HANS2.out]; rfl), below_drewN T3.A.K _⟩)
        · rw [hp] at hlk HANS2
          go_wp2_with fail
          go_quiet (fail)
          go_wp2
          all_goals (go_ret; exact ⟨ret_bool (by rw [HANS2.out]; simp), below_drewN T3.A.K _⟩)
end Go.Proofs.Ytchippjfpjiimaa
/- A6 -/
set_option linter.unusedVariables false
namespace Go.Proofs.Ytchippjfpjiimaa
open Go.ChangeShapes Go.WideShapes Go.ChangeAt Go.RowKit Go.Deep

/-- Every field is a plain int64. -/
def intFields (P : Program) (fs : Array Field) : Bool := (List.range fs.size).all fun j => match fs[j]? with
  | some f => (match P.underlying f.type with | some (.int .i64) => true | _ => false)
  | none => false
theorem intFields_at {P : Program} {fs : Array Field} (h : intFields P fs = true) {j : Nat} {f : Field} (hj : fs[j]? = some f) : P.underlying f.type = some (.int .i64) := by
  have hlt : j < fs.size := (Array.getElem?_eq_some_iff.1 hj).1
  have := List.all_eq_true.1 h j (List.mem_range.2 hlt)
  simp only [hj] at this
  split at this
  · assumption
  · cases this

section
variable {H : Type} {enc : TypeId × Value → H} {P : Program} {w : World} {spare : Nat → Bool} {held : Bool}
theorem sl_of_cells {a : Addr} {n k : Nat} (hk : 0 < k) (h : ∀ i, i < n → ∀ j, j < k → ∃ z, w.cell? ((a.add (i * k)).add j) = some (.int .i64 z)) : ∃ X, Sl w w.heap.size k (some a) n X := by
  rcases Nat.eq_zero_or_pos n with hn | hn
  · exact ⟨fun _ => 0, fun h0 => absurd h0 (by omega)⟩
  have hsp : a.spot = none := by
    obtain ⟨z, hz⟩ := h 0 hn 0 hk
    simpa [Addr.add] using World.cell?_spot hz
  obtain ⟨b, off, sp⟩ := a
  subst hsp
  have h' : ∀ q, q < n * k → ∃ z : Int, w.cell? ⟨b, off + q, none⟩ = some (.int .i64 z) := fun q hq => by
    obtain ⟨z, hz⟩ := h (q / k) ((Nat.div_lt_iff_lt_mul hk).2 hq) (q % k) (Nat.mod_lt _ hk)
    rw [add_plain, add_plain, Nat.add_assoc, Nat.mul_comm, Nat.div_add_mod] at hz
    exact ⟨z, hz⟩
  obtain ⟨X, hX⟩ := choose_lt h'
  exact ⟨X, fun _ => ⟨b, off, rfl, block_lt_of_cell (hX 0 (Nat.mul_pos hn hk)), hX⟩⟩

/-- A slice of structs of plain int64 fields. -/
theorem sl_structs {t e : TypeId} {fs : Array Field} {fuel k : Nat} {v : Value} {x : DataW H × List MemPlace} (ht : P.underlying t = some (.slice e)) (he : P.underlying e = some (.struct fs))
    (hone : oneCellFields P fs = true) (hint : intFields P fs = true) (hC : P.cellsOf e = k) (hk : fs.size = k) (hk0 : 0 < k) (h : DataW.trod enc P w 0 spare held fuel t [v] = some x) :
    ∃ A n c X, v = .slice A n c ∧ n ≤ maxLen ∧ Sl w w.heap.size k A n X := by
  rcases open_slice ht h with ⟨h1, _⟩ | ⟨a, len, cap, m, n, D, Pl, hcs, hb, hl, hm, hmm, hx, hi⟩
  · injection h1 with h1 _
    exact ⟨none, 0, 0, fun _ => 0, h1, Nat.zero_le _, fun h0 => absurd h0 (by omega)⟩
  · injection hcs with hv _
    have hlm : len ≤ m := by rw [hmm]; split <;> omega
    obtain ⟨X, hX⟩ := sl_of_cells (w := w) (a := a) (n := len) hk0 (fun i hin j hj => by
      obtain ⟨cs', hc, ht'⟩ := hi i (by omega)
      rw [hC] at hc
      obtain ⟨ys, n', _, hy, hlen, hyl, hf⟩ := DataW.trod_struct he ht'
      obtain ⟨_, hcl, hat⟩ := World.cells?_some hc
      obtain ⟨f, hfj⟩ : ∃ f, fs[j]? = some f := ⟨_, Array.getElem?_eq_getElem (by omega)⟩
      obtain ⟨ho, hk1⟩ := hone_of hone j f hfj
      have h1 := hf j f hfj
      rw [ho, hk1] at h1
      have hone' : (cs'.drop j).take 1 = [cs'[j]'(by omega)] := by
        rw [List.drop_eq_getElem_cons (by omega)]
        rfl
      rw [hone', List.getElem?_eq_getElem (by omega)] at h1
      obtain ⟨z, hz, _, _⟩ := DataW.trod_int (intFields_at hint hfj) h1
      injection hz with hz _
      exact ⟨z, by rw [hat j hj, List.getElem?_eq_getElem (by omega), hz]⟩)
    exact ⟨some a, len, cap, X, hv, Nat.le_trans hl hm, hX⟩
/-- A slice of int64. -/
theorem sl_ints {t e : TypeId} {fuel : Nat} {v : Value} {x : DataW H × List MemPlace} (ht : P.underlying t = some (.slice e)) (he : P.underlying e = some (.int .i64)) (hC : P.cellsOf e = 1)
    (h : DataW.trod enc P w 0 spare held fuel t [v] = some x) : ∃ A n c X, v = .slice A n c ∧ n ≤ maxLen ∧ Sl w w.heap.size 1 A n X := by
  rcases open_ints ht he hC h with ⟨h1, _⟩ | ⟨a, len, cap, zs, hcs, hb, hl, hm, hz, hx, hcell, _⟩
  · injection h1 with h1 _
    exact ⟨none, 0, 0, fun _ => 0, h1, Nat.zero_le _, fun h0 => absurd h0 (by omega)⟩
  · injection hcs with hv _
    have hlm : len ≤ zs.length := by rw [hz]; split <;> omega
    obtain ⟨X, hX⟩ := sl_of_cells (w := w) (a := a) (n := len) (k := 1) (by omega) (fun i hin j hj => by
      obtain rfl : j = 0 := by omega
      rw [Nat.mul_one]
      exact ⟨_, hcell i (by omega)⟩)
    exact ⟨some a, len, cap, X, hv, Nat.le_trans hl hm, hX⟩
/-- A struct of one-cell fields: each field's own reading. -/
theorem agg_of_trod {r : Reach} {b0 : Nat} {t : TypeId} {fs : Array Field} {v : Value} {d : DataW H} {p : List MemPlace} (hs : P.underlying t = some (.struct fs)) (hone : oneCellFields P fs = true) (hC : P.cellsOf t = fs.size)
    (hv : Value.okWide P w r b0 t v) (h : DataW.Trod enc P w 0 spare held t v d p) :
    ∃ cs : Array Value, v = .agg cs ∧ ∃ hsz : cs.size = fs.size, ∃ n, ∀ (j : Nat) (f : Field) (hj : fs[j]? = some f), ∃ y, DataW.trod enc P w 0 spare held n f.type [cs[j]'(by rw [hsz]; exact (Array.getElem?_eq_some_iff.1 hj).1)] = some y := by
  obtain ⟨cs, rfl, hsz⟩ := okWide_struct hs hv
  rw [hC] at hsz
  obtain ⟨fuel, hf⟩ := h
  obtain ⟨xs, n, _, hx, _, hlen, hg⟩ := DataW.trod_struct hs hf
  refine ⟨cs, rfl, hsz, n, fun j f hj => ?_⟩
  have hjl : j < fs.size := (Array.getElem?_eq_some_iff.1 hj).1
  obtain ⟨ho, hk⟩ := hone_of hone j f hj
  have h1 := hg j f hj
  rw [ho, hk] at h1
  have hl : (Value.cells (.agg cs)).toList = cs.toList := rfl
  rw [hl] at h1
  have hone' : (cs.toList.drop j).take 1 = [cs[j]'(by omega)] := by
    rw [List.drop_eq_getElem_cons (by simp; omega)]
    simp
  rw [hone', List.getElem?_eq_getElem (by omega)] at h1
  exact ⟨_, h1⟩
end

theorem own_ : ownKnob Try.prog.godebug = none := by kernel_rfl
theorem laid_ : laidOutB Try.prog = true := by kernel_rfl

theorem at_of_map {fs : Array Field} {ts : Array TypeId} (h : fs.map (·.type) = ts) {j : Nat} {t : TypeId} (hj : ts[j]? = some t) : ∃ f, fs[j]? = some f ∧ f.type = t := by
  rw [← h, Array.getElem?_map] at hj
  cases hf : fs[j]? with
  | none => rw [hf] at hj; cases hj
  | some f => rw [hf] at hj; exact ⟨f, rfl, Option.some.inj hj⟩

end Go.Proofs.Ytchippjfpjiimaa
/- Ph -/
set_option linter.unusedVariables false
namespace Go.Proofs.Ytchippjfpjiimaa
open Go.ChangeShapes Go.WideShapes Go.ChangeAt Go.RowKit Go.Deep

theorem fields_plan : ∃ fs, Try.prog.underlying 27 = some (.struct fs) ∧ oneCellFields Try.prog fs = true ∧ Try.prog.cellsOf 27 = fs.size ∧ fs.size = 7 ∧
    fs.map (·.type) = #[22, 23, 24, 25, 2, 2, 2] :=
  ⟨_, Try.underlying27, by kernel_rfl, by kernel_rfl, by kernel_rfl, by kernel_rfl⟩

theorem fs_pod : ∃ fs, Try.prog.underlying 84 = some (.struct fs) ∧ oneCellFields Try.prog fs = true ∧ intFields Try.prog fs = true ∧ fs.size = 4 := ⟨_, Try.underlying84, by kernel_rfl, by kernel_rfl, by kernel_rfl⟩
theorem fs_mount : ∃ fs, Try.prog.underlying 88 = some (.struct fs) ∧ oneCellFields Try.prog fs = true ∧ intFields Try.prog fs = true ∧ fs.size = 2 := ⟨_, Try.underlying88, by kernel_rfl, by kernel_rfl, by kernel_rfl⟩
theorem fs_device : ∃ fs, Try.prog.underlying 92 = some (.struct fs) ∧ oneCellFields Try.prog fs = true ∧ intFields Try.prog fs = true ∧ fs.size = 1 := ⟨_, Try.underlying92, by kernel_rfl, by kernel_rfl, by kernel_rfl⟩

set_option maxRecDepth 100000 in
theorem open_plan {H : Type} {enc : TypeId × Value → H} {W : World} {spare : Nat → Bool} {held : Bool} {r : Reach} {b0 : Nat} {v : Value} {d : DataW H} {p : List MemPlace}
    (hv : Value.okWide Try.prog W r b0 27 v) (h : DataW.Trod enc Try.prog W 0 spare held 27 v d p) : ∃ D : PlanD, IsPlan W W.heap.size v D := by
  obtain ⟨fs, hu, hone, hC, h7, hts⟩ := fields_plan
  obtain ⟨cs, rfl, hsz, n, hf⟩ := agg_of_trod hu hone hC hv h
  rw [h7] at hsz
  obtain ⟨f0, j0, t0⟩ := at_of_map hts (j := 0) rfl
  obtain ⟨f1, j1, t1⟩ := at_of_map hts (j := 1) rfl
  obtain ⟨f2, j2, t2⟩ := at_of_map hts (j := 2) rfl
  obtain ⟨f3, j3, t3⟩ := at_of_map hts (j := 3) rfl
  obtain ⟨f4, j4, t4⟩ := at_of_map hts (j := 4) rfl
  obtain ⟨f5, j5, t5⟩ := at_of_map hts (j := 5) rfl
  obtain ⟨f6, j6, t6⟩ := at_of_map hts (j := 6) rfl
  obtain ⟨y0, h0⟩ := hf 0 f0 j0
  obtain ⟨y1, h1⟩ := hf 1 f1 j1
  obtain ⟨y2, h2⟩ := hf 2 f2 j2
  obtain ⟨y3, h3⟩ := hf 3 f3 j3
  obtain ⟨y4, h4⟩ := hf 4 f4 j4
  obtain ⟨y5, h5⟩ := hf 5 f5 j5
  obtain ⟨y6, h6⟩ := hf 6 f6 j6
  rw [t0] at h0
  rw [t1] at h1
  rw [t2] at h2
  rw [t3] at h3
  rw [t4] at h4
  rw [t5] at h5
  rw [t6] at h6
  obtain ⟨ps, ps1, ps2, ps3, ps4⟩ := fs_pod
  obtain ⟨ms, ms1, ms2, ms3, ms4⟩ := fs_mount
  obtain ⟨ds, ds1, ds2, ds3, ds4⟩ := fs_device
  obtain ⟨A0, n0, c0, X0, e0, b0, s0⟩ := sl_structs Try.underlying22 ps1 ps2 ps3 (by kernel_rfl) ps4 (by omega) h0
  obtain ⟨A1, n1, c1, X1, e1, b1, s1⟩ := sl_ints Try.underlying23 Try.underlying2 (by kernel_rfl) h1
  obtain ⟨A2, n2, c2, X2, e2, b2, s2⟩ := sl_structs Try.underlying24 ms1 ms2 ms3 (by kernel_rfl) ms4 (by omega) h2
  obtain ⟨A3, n3, c3, X3, e3, b3, s3⟩ := sl_structs Try.underlying25 ds1 ds2 ds3 (by kernel_rfl) ds4 (by omega) h3
  obtain ⟨l, e4, _, _⟩ := DataW.trod_int Try.underlying2 h4
  obtain ⟨p, e5, _, _⟩ := DataW.trod_int Try.underlying2 h5
  obtain ⟨t, e6, _, _⟩ := DataW.trod_int Try.underlying2 h6
  injection e4 with e4 _
  injection e5 with e5 _
  injection e6 with e6 _
  refine ⟨⟨n0, n1, n2, n3, X0, X1, X2, X3, l, p, t⟩, ⟨A0, A1, A2, A3, c0, c1, c2, c3, ?_, s0, s1, s2, s3⟩, b0, b1, b2, b3⟩
  congr 1
  apply Array.ext (by simp [hsz])
  intro i hi _
  match i, hi with
  | 0, _ => exact e0
  | 1, _ => exact e1
  | 2, _ => exact e2
  | 3, _ => exact e3
  | 4, _ => exact e4
  | 5, _ => exact e5
  | 6, _ => exact e6
  | k + 7, hi => omega

end Go.Proofs.Ytchippjfpjiimaa
/- Ug -/
set_option linter.unusedVariables false
namespace Go.Proofs.Ytchippjfpjiimaa
open Go.ChangeShapes Go.WideShapes Go.ChangeAt Go.RowKit Go.Deep

theorem podCs_map (X : Nat → Int) (n : Nat) {j : Nat} (hj : j < n * 2) : (podCs ((List.range n).map fun i => (X (i * 2), X (i * 2 + 1))))[j]? = some (.int .i64 (X j)) := by
  have hi : j / 2 < ((List.range n).map fun i => (X (i * 2), X (i * 2 + 1))).length := by simp; omega
  obtain ⟨p0, p1⟩ := podCs_at _ hi
  have e : podA ((List.range n).map fun i => (X (i * 2), X (i * 2 + 1))) (j / 2) = (X (j / 2 * 2), X (j / 2 * 2 + 1)) := by simp [podA, List.getD, show j / 2 < n by omega]
  rw [e] at p0 p1
  dsimp only at p0 p1
  rcases (by omega : j = j / 2 * 2 ∨ j = j / 2 * 2 + 1) with h | h
  · rw [← h] at p0; exact p0
  · rw [← h] at p1; exact p1
theorem slv_pods {w : World} {B n : Nat} {A : Option Addr} {X : Nat → Int} (h : Sl w B 2 A n X) : SlV w B 2 A n (podCs ((List.range n).map fun i => (X (i * 2), X (i * 2 + 1)))) := by
  refine ⟨by rw [podCs_len]; simp, fun hn => ?_⟩
  obtain ⟨b, off, rfl, hb, hc⟩ := h hn
  exact ⟨b, off, rfl, hb, fun j hj => by rw [hc j hj, podCs_map X n hj]⟩
theorem slv_ints {w : World} {B n : Nat} {A : Option Addr} {X : Nat → Int} (h : Sl w B 1 A n X) : SlV w B 1 A n (lkCs ((List.range n).map X)) := by
  refine ⟨by rw [lkCs_len]; simp, fun hn => ?_⟩
  obtain ⟨b, off, rfl, hb, hc⟩ := h hn
  exact ⟨b, off, rfl, hb, fun j hj => by rw [hc j hj]; simp [lkCs, show j < n by omega]⟩

section
variable {H : Type} {enc : TypeId × Value → H} {P : Program} {w : World} {spare : Nat → Bool} {held : Bool}
/-- A slice of bools. -/
theorem slv_bools {t e : TypeId} {fuel : Nat} {v : Value} {x : DataW H × List MemPlace} (ht : P.underlying t = some (.slice e)) (he : P.underlying e = some .bool) (hC : P.cellsOf e = 1)
    (h : DataW.trod enc P w 0 spare held fuel t [v] = some x) : ∃ A c l, v = .slice A (List.length l) c ∧ l.length ≤ maxLen ∧ SlV w w.heap.size 1 A l.length (devCs l) := by
  rcases open_slice1 ht hC h with ⟨h1, _⟩ | ⟨a, len, cap, m, n, V, D, Pl, hcs, hb, hl, hm, hmm, hx, hi⟩
  · injection h1 with h1 _
    exact ⟨none, 0, [], h1, Nat.zero_le _, SlV.nil _ _ _ _⟩
  · injection hcs with hv _
    have hlm : len ≤ m := by rw [hmm]; split <;> omega
    obtain ⟨F, hF⟩ := choose_lt (α := Bool) (n := len) (p := fun i q => w.cell? (a.add i) = some (.bool q)) (fun i hin => by
      obtain ⟨h1, h2⟩ := hi i (by omega)
      obtain ⟨b, hb, _⟩ := DataW.trod_bool he h2
      injection hb with hb _
      exact ⟨b, by rw [h1, hb]⟩)
    have hlen : ((List.range len).map F).length = len := by simp
    refine ⟨some a, cap, (List.range len).map F, by rw [hlen]; exact hv, by rw [hlen]; exact Nat.le_trans hl hm, ⟨devCs_len _, fun hn => ?_⟩⟩
    rw [hlen] at hn ⊢
    have hsp : a.spot = none := by
      have := hF 0 hn
      simpa [Addr.add] using World.cell?_spot this
    obtain ⟨b, off, sp⟩ := a
    subst hsp
    have h0 := hF 0 hn
    rw [add_plain] at h0
    refine ⟨b, off, rfl, block_lt_of_cell h0, fun j hj => ?_⟩
    have := hF j (by omega)
    rw [add_plain] at this
    rw [this]
    simp [devCs, show j < len by omega]
/-- A slice of structs of a bool and an int64. -/
theorem slv_mnts {t e : TypeId} {fs : Array Field} {fuel : Nat} {v : Value} {x : DataW H × List MemPlace} (ht : P.underlying t = some (.slice e)) (he : P.underlying e = some (.struct fs))
    (hone : oneCellFields P fs = true) (hC : P.cellsOf e = 2) {f0 f1 : Field} (hf0 : fs[0]? = some f0) (hf1 : fs[1]? = some f1) (t0 : P.underlying f0.type = some .bool) (t1 : P.underlying f1.type = some (.int .i64))
    (h : DataW.trod enc P w 0 spare held fuel t [v] = some x) : ∃ A c l, v = .slice A (List.length l) c ∧ l.length ≤ maxLen ∧ SlV w w.heap.size 2 A l.length (mntCs l) := by
  rcases open_slice ht h with ⟨h1, _⟩ | ⟨a, len, cap, m, n, D, Pl, hcs, hb, hl, hm, hmm, hx, hi⟩
  · injection h1 with h1 _
    exact ⟨none, 0, [], h1, Nat.zero_le _, SlV.nil _ _ _ _⟩
  · injection hcs with hv _
    have hlm : len ≤ m := by rw [hmm]; split <;> omega
    obtain ⟨F, hF⟩ := choose_lt (α := Bool × Int) (n := len) (p := fun i q => w.cell? ((a.add (i * 2)).add 0) = some (.bool q.1) ∧ w.cell? ((a.add (i * 2)).add 1) = some (.int .i64 q.2)) (fun i hin => by
      obtain ⟨cs', hc, ht'⟩ := hi i (by omega)
      rw [hC] at hc
      obtain ⟨ys, n', _, hy, hlen, hyl, hf⟩ := DataW.trod_struct he ht'
      obtain ⟨_, hcl, hat⟩ := World.cells?_some hc
      have hone' : ∀ j, (hj : j < 2) → (cs'.drop j).take 1 = [cs'[j]'(by omega)] := fun j hj => by
        rw [List.drop_eq_getElem_cons (by omega)]
        rfl
      obtain ⟨o0, k0⟩ := hone_of hone 0 f0 hf0
      obtain ⟨o1, k1⟩ := hone_of hone 1 f1 hf1
      have h0 := hf 0 f0 hf0
      have h1 := hf 1 f1 hf1
      have ys2 : ys.length = fs.size := hyl
      have hs2 : 1 < fs.size := (Array.getElem?_eq_some_iff.1 hf1).1
      rw [o0, k0, hone' 0 (by omega), List.getElem?_eq_getElem (by omega)] at h0
      rw [o1, k1, hone' 1 (by omega), List.getElem?_eq_getElem (by omega)] at h1
      obtain ⟨b, hb, _⟩ := DataW.trod_bool t0 h0
      obtain ⟨z, hz, _, _⟩ := DataW.trod_int t1 h1
      injection hb with hb _
      injection hz with hz _
      exact ⟨(b, z), by rw [hat 0 (by omega), List.getElem?_eq_getElem (by omega), hb], by rw [hat 1 (by omega), List.getElem?_eq_getElem (by omega), hz]⟩)
    have hlen : ((List.range len).map F).length = len := by simp
    refine ⟨some a, cap, (List.range len).map F, by rw [hlen]; exact hv, by rw [hlen]; exact Nat.le_trans hl hm, ⟨mntCs_len _, fun hn => ?_⟩⟩
    rw [hlen] at hn ⊢
    have hsp : a.spot = none := by
      have := (hF 0 hn).1
      simpa [Addr.add] using World.cell?_spot this
    obtain ⟨b, off, sp⟩ := a
    subst hsp
    have h0 := (hF 0 hn).1
    rw [add_plain, add_plain] at h0
    refine ⟨b, off, rfl, block_lt_of_cell h0, fun j hj => ?_⟩
    have hjl : j / 2 < ((List.range len).map F).length := by rw [hlen]; omega
    obtain ⟨p0, p1⟩ := mntCs_at _ hjl
    have e : mntA ((List.range len).map F) (j / 2) = F (j / 2) := by simp [mntA, List.getD, show j / 2 < len by omega]
    rw [e] at p0 p1
    have hh := hF (j / 2) (by omega)
    rw [add_plain, add_plain, add_plain] at hh
    rcases (by omega : j = j / 2 * 2 ∨ j = j / 2 * 2 + 1) with h | h
    · rw [← h] at p0 hh
      rw [p0]
      have := hh.1
      rwa [Nat.add_zero] at this
    · rw [← h] at p1
      rw [p1]
      have := hh.2
      rwa [Nat.add_assoc, ← h] at this
end

theorem fields_state : ∃ fs, Try.prog.underlying 32 = some (.struct fs) ∧ oneCellFields Try.prog fs = true ∧ Try.prog.cellsOf 32 = fs.size ∧ fs.size = 12 ∧
    fs.map (·.type) = #[2, 4, 2, 2, 2, 2, 28, 29, 30, 23, 2, 2] :=
  ⟨_, Try.underlying32, by kernel_rfl, by kernel_rfl, by kernel_rfl, by kernel_rfl⟩
theorem fs_podAt : ∃ fs, Try.prog.underlying 94 = some (.struct fs) ∧ oneCellFields Try.prog fs = true ∧ intFields Try.prog fs = true ∧ fs.size = 2 := ⟨_, Try.underlying94, by kernel_rfl, by kernel_rfl, by kernel_rfl⟩
theorem fs_mntAt : ∃ fs, Try.prog.underlying 98 = some (.struct fs) ∧ oneCellFields Try.prog fs = true ∧ fs.map (·.type) = #[4, 2] := ⟨_, Try.underlying98, by kernel_rfl, by kernel_rfl⟩

set_option maxRecDepth 100000 in
theorem open_state {H : Type} {enc : TypeId × Value → H} {W : World} {spare : Nat → Bool} {held : Bool} {r : Reach} {b0 : Nat} {v : Value} {d : DataW H} {p : List MemPlace}
    (hv : Value.okWide Try.prog W r b0 32 v) (h : DataW.Trod enc Try.prog W 0 spare held 32 v d p) : ∃ s : StD, IsSt W W.heap.size v s := by
  obtain ⟨fs, hu, hone, hC, h12, hts⟩ := fields_state
  obtain ⟨cs, rfl, hsz, n, hf⟩ := agg_of_trod hu hone hC hv h
  rw [h12] at hsz
  obtain ⟨f0, j0, t0⟩ := at_of_map hts (j := 0) rfl
  obtain ⟨y0, h0⟩ := hf 0 f0 j0
  rw [t0] at h0
  obtain ⟨f1, j1, t1⟩ := at_of_map hts (j := 1) rfl
  obtain ⟨y1, h1⟩ := hf 1 f1 j1
  rw [t1] at h1
  obtain ⟨f2, j2, t2⟩ := at_of_map hts (j := 2) rfl
  obtain ⟨y2, h2⟩ := hf 2 f2 j2
  rw [t2] at h2
  obtain ⟨f3, j3, t3⟩ := at_of_map hts (j := 3) rfl
  obtain ⟨y3, h3⟩ := hf 3 f3 j3
  rw [t3] at h3
  obtain ⟨f4, j4, t4⟩ := at_of_map hts (j := 4) rfl
  obtain ⟨y4, h4⟩ := hf 4 f4 j4
  rw [t4] at h4
  obtain ⟨f5, j5, t5⟩ := at_of_map hts (j := 5) rfl
  obtain ⟨y5, h5⟩ := hf 5 f5 j5
  rw [t5] at h5
  obtain ⟨f6, j6, t6⟩ := at_of_map hts (j := 6) rfl
  obtain ⟨y6, h6⟩ := hf 6 f6 j6
  rw [t6] at h6
  obtain ⟨f7, j7, t7⟩ := at_of_map hts (j := 7) rfl
  obtain ⟨y7, h7⟩ := hf 7 f7 j7
  rw [t7] at h7
  obtain ⟨f8, j8, t8⟩ := at_of_map hts (j := 8) rfl
  obtain ⟨y8, h8⟩ := hf 8 f8 j8
  rw [t8] at h8
  obtain ⟨f9, j9, t9⟩ := at_of_map hts (j := 9) rfl
  obtain ⟨y9, h9⟩ := hf 9 f9 j9
  rw [t9] at h9
  obtain ⟨f10, j10, t10⟩ := at_of_map hts (j := 10) rfl
  obtain ⟨y10, h10⟩ := hf 10 f10 j10
  rw [t10] at h10
  obtain ⟨f11, j11, t11⟩ := at_of_map hts (j := 11) rfl
  obtain ⟨y11, h11⟩ := hf 11 f11 j11
  rw [t11] at h11
  obtain ⟨z0, e0, _, _⟩ := DataW.trod_int Try.underlying2 h0
  injection e0 with e0 _
  obtain ⟨z1, e1, _⟩ := DataW.trod_bool Try.underlying4 h1
  injection e1 with e1 _
  obtain ⟨z2, e2, _, _⟩ := DataW.trod_int Try.underlying2 h2
  injection e2 with e2 _
  obtain ⟨z3, e3, _, _⟩ := DataW.trod_int Try.underlying2 h3
  injection e3 with e3 _
  obtain ⟨z4, e4, _, _⟩ := DataW.trod_int Try.underlying2 h4
  injection e4 with e4 _
  obtain ⟨z5, e5, _, _⟩ := DataW.trod_int Try.underlying2 h5
  injection e5 with e5 _
  obtain ⟨z10, e10, _, _⟩ := DataW.trod_int Try.underlying2 h10
  injection e10 with e10 _
  obtain ⟨z11, e11, _, _⟩ := DataW.trod_int Try.underlying2 h11
  injection e11 with e11 _
  obtain ⟨ps, ps1, ps2, ps3, ps4⟩ := fs_podAt
  obtain ⟨ms, ms1, ms2, ms3⟩ := fs_mntAt
  obtain ⟨q0, i0, u0⟩ := at_of_map ms3 (j := 0) rfl
  obtain ⟨q1, i1, u1⟩ := at_of_map ms3 (j := 1) rfl
  obtain ⟨A6, n6, c6, X6, e6, b6, s6⟩ := sl_structs Try.underlying28 ps1 ps2 ps3 (by kernel_rfl) ps4 (by omega) h6
  obtain ⟨A7, c7, l7, e7, b7, s7⟩ := slv_mnts Try.underlying29 ms1 ms2 (by kernel_rfl) i0 i1 (by rw [u0]; exact Try.underlying4) (by rw [u1]; exact Try.underlying2) h7
  obtain ⟨A8, c8, l8, e8, b8, s8⟩ := slv_bools Try.underlying30 Try.underlying4 (by kernel_rfl) h8
  obtain ⟨A9, n9, c9, X9, e9, b9, s9⟩ := sl_ints Try.underlying23 Try.underlying2 (by kernel_rfl) h9
  have k6 : ((List.range n6).map fun i => (X6 (i * 2), X6 (i * 2 + 1))).length = n6 := by simp
  have k9 : ((List.range n9).map X9).length = n9 := by simp
  refine ⟨⟨z0, z1, z2, z3, z4, z5, (List.range n6).map fun i => (X6 (i * 2), X6 (i * 2 + 1)), l7, l8, (List.range n9).map X9, z10, z11⟩, ⟨A6, A7, A8, A9, c6, c7, c8, c9, ?_, by rw [k6]; exact slv_pods s6, s7, s8, by rw [k9]; exact slv_ints s9⟩, by rw [k6]; exact b6, b7, b8, by rw [k9]; exact b9⟩
  dsimp only
  rw [k6, k9]
  congr 1
  apply Array.ext (by simp [hsz])
  intro i hi _
  match i, hi with
  | 0, _ => exact e0
  | 1, _ => exact e1
  | 2, _ => exact e2
  | 3, _ => exact e3
  | 4, _ => exact e4
  | 5, _ => exact e5
  | 6, _ => exact e6
  | 7, _ => exact e7
  | 8, _ => exact e8
  | 9, _ => exact e9
  | 10, _ => exact e10
  | 11, _ => exact e11
  | k + 12, hi => omega
end Go.Proofs.Ytchippjfpjiimaa
/- MeHealthyIn -/
set_option linter.unusedVariables false
namespace Go.Proofs.Ytchippjfpjiimaa
open Go.ChangeShapes Go.WideShapes Go.ChangeAt Go.RowKit Go.Deep

namespace fnExactHealthyInRow
set_option maxRecDepth 100000 in
theorem contract (H : Type) (enc : TypeId × Value → H) (W : World) (base : Nat) (args : Array Value) (ds gs : List (DataW H)) (before : List MemPlace)
    (hval : ∀ (j : Nat) t v, Try.f3.params[j]? = some t → args[j]? = some v → Value.okWide Try.prog W .any base t v)
    (hW : DataW.Whole enc Try.prog Try.f3.params.toList Rows.fnExactHealthyInSpec.vars false W args.toList ds gs before) :
    Calls Try.prog 3 args W fun e W' => ∃ v, e = .returned v ∧ Rows.fnExactHealthyInSpec.post enc Try.prog Try.f3 false true false false W args v W' := by
  have hW' := hW
  obtain ⟨p, q, hA0, hV, rfl, hfz, hnd⟩ := hW
  have hA : DataW.TrodAll enc Try.prog W 0 (fun _ => true) true Try.f3.params.toList args.toList ds p := hA0
  rw [Try.params3] at hA hval
  obtain ⟨v0, v1, v2, d0, d1, d2, p0, p1, p2, rfl, rfl, rfl, h0, h1, h2⟩ := trodAll_three hA
  obtain ⟨rfl, rfl⟩ := trodVars_none hV
  obtain ⟨D, hD⟩ := open_plan (hval 0 27 v0 rfl rfl) h0
  obtain ⟨s, hS⟩ := open_state (hval 1 32 v1 rfl rfl) h1
  obtain ⟨xg, rfl, rfl, rfl, ww⟩ := open_int Try.underlying2 (hval 2 2 v2 rfl rfl) h2
  clear hA0
  simp only [List.append_nil] at hW'
  have hlt0 : ∀ x ∈ p0, x.block < W.heap.size := fun x hx => by simpa using hW'.lt x (by simp [hx])
  have hlt1 : ∀ x ∈ p1, x.block < W.heap.size := fun x hx => by simpa using hW'.lt x (by simp [hx])
  refine (lawHealthyIn v0 v1 D s xg _ W hD hS (fun pv sv W hp hs => healthyIn_any pv sv D s xg W hp hs) (fun pv sv W hp hs => implHealthyIn_any pv sv D s xg W hp hs)).mono fun e W' ⟨he, K⟩ => ?_
  subst he
  refine ⟨_, rfl, ⟨_, _, _, [], p0 ++ (p1 ++ []), [], hW', ?_, ?_, ?_, K.frame _, fun h => by cases h⟩⟩
  · exact trodAll_mk1 (shut_bool Try.underlying4 _)
  · exact trodAll_mk3 (Below.trod laid_ (by kernel_rfl) (of_decide_eq_true (by kernel_rfl)) h0 K hlt0) (Below.trod laid_ (by kernel_rfl) (of_decide_eq_true (by kernel_rfl)) h1 K hlt1) (shut_int Try.underlying2 ww)
  · exact rfl

set_option maxRecDepth 100000 in
theorem lifted (os : Os) (started : os.Started) (H : Type) (enc : TypeId × Value → H) :
    ReturnsInHanded {} Try.checked os 3 .any (Rows.fnExactHealthyInSpec.pre6 enc Try.prog Try.f3 Rows.fnExactHealthyInRow.domain false) (Rows.fnExactHealthyInSpec.post enc Try.prog Try.f3 false true false false) := by
  refine returnsInHanded_of_change (C := Try.checked) (s := Rows.fnExactHealthyInSpec) own_ started (by kernel_rfl) Try.func3
    (ChangeSpec.witness6 (enc := enc) (C := Try.checked) (s := Rows.fnExactHealthyInSpec) false ⟨#[], #[planV none none none none 0 0 0 0 0 0 0 0 0 0 0, .agg (stC none none none none 0 0 0 0 0 0 0 0 0 false 0 0 0 0 0 0), .int .i64 0], []⟩ 8 (by kernel_rfl) (by kernel_rfl) (by kernel_rfl) (by kernel_rfl)) ?_
  intro W base args ds gs before hval hW _ _
  exact contract H enc W base args ds gs before hval hW
end fnExactHealthyInRow

theorem fnExactHealthyIn_holds : Rows.FnExactHealthyInSaid :=
  OpenClaim.holds_of_wide 3 Try.f3 rfl rfl rfl rfl rfl rfl rfl ⟨rfl, rfl, rfl, rfl, rfl⟩ rfl rfl rfl rfl rfl (by kernel_rfl) Try.func3 (by kernel_rfl)
    (of_decide_eq_true (by kernel_rfl)) (by unfold Func.isWrapper; first | (rw [if_pos (by decide +kernel)]; kernel_rfl) | (rw [if_neg (by decide +kernel)]; exact ⟨rfl, rfl⟩))
    (fun os started H enc _ => fnExactHealthyInRow.lifted os started H enc)
#print axioms fnExactHealthyIn_holds
end Go.Proofs.Ytchippjfpjiimaa
