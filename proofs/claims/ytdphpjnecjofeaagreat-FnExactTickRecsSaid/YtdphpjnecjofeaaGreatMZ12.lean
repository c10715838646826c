/-
  PROVED: FnExactTickRecsSaid: at every plan and state that can be read TickRecs answers as its model, its records are its own, and it writes into nothing. Conditions: none beside the form's own.
-/
import Derived.Test.YtdphpjnecjofeaaGreatMZ11
import Derived.Test.YtdphpjnecjofeaaGreatMZ5
import Derived.Test.YtdphpjnecjofeaaGreatMZxId
import Derived.Deep.RegionHeld3
import Derived.Test.YtdphpjnecjofeaaGreatMZ2
import Derived.Test.YtdphpjnecjofeaaGreatMZ6
/- Ie -/
set_option linter.unusedVariables false
namespace Go.Proofs.YtdphpjnecjofeaaGreat
open Go.RowKit

set_option maxRecDepth 100000 in
set_option maxHeartbeats 16000000 in
theorem lawTickRecs (pv sv : Value) (d : PlanD) (s : StD) (l : List RecD) (cd : Int) (w : World) (hp : IsPlan w w.heap.size pv d) (hs : IsSt w w.heap.size sv s) (hlen : l.length ≤ 1000)
    (HM : ∀ (pv sv : Value) (W : World), IsPlan W W.heap.size pv d → IsSt W W.heap.size sv s → Calls Tryz.prog 6 #[pv, sv] W (RecsA W (l, cd)))
    (HI : ∀ (pv sv : Value) (W : World), Below w.heap.size w W → IsPlan W W.heap.size pv d → IsSt W W.heap.size sv s → Calls Tryz.prog 9 #[pv, sv] W (RecsA W (l, cd))) :
    Calls Tryz.prog 3 #[pv, sv] w fun e w' => e = .returned (.bool true) ∧ Below w.heap.size w w' := by
  have HI := Lib.hid HI
  have HM := Lib.hid HM
  have H := Lib.hid hp
  have HS := Lib.hid hs
  obtain ⟨⟨A0, A1, A2, A3, c0, c1, c2, c3, rfl, -, -, -, -⟩, b0, b1, b2, b3⟩ := hp
  obtain ⟨⟨E0, E1, E2, E3, k0, k1, k2, k3, rfl, -, -, -, -⟩, -, -, -, -⟩ := hs
  have B0 := Lib.hid b0
  have B1 := Lib.hid b1
  have B2 := Lib.hid b2
  have B3 := Lib.hid b3
  have hlm' : (l.length : Int) ≤ 1000 := by omega
  clear b0 b1 b2 b3
  go_enter Tryz.func3, Tryz.ntmps3
  go_wp2_with fail
  have T := Two.start w (planC A0 A1 A2 A3 d.n0 c0 d.n1 c1 d.n2 c2 d.n3 c3 d.l d.p d.t) (stC E0 E1 E2 E3 s.pods.length k0 s.mnts.length k1 s.devs.length k2 s.lks.length k3 s.ph s.co s.ck s.bo s.ba s.lb s.gd s.pr) 27 32
  refine (szPlan_any _ d _ ((H.out.below T.A.K (Nat.le_refl _)).more T.A.K.size)).mono ?_
  rintro e w2 ⟨rfl, hb⟩
  replace T := T.step hb
  have hC := T.A.C
  have hD := T.O.C
  clear hb
  by_cases hsz : d.n0 + d.n1 + d.n2 + d.n3 ≤ 1048576
  · have e0 : szP d = 1048576 - d.n0 - d.n1 - d.n2 - d.n3 := if_pos hsz
    have l0 : 0 ≤ szP d := by omega
    have l1 : szP d ≤ 1048576 := by omega
    clear e0
    generalize szP d = left at *
    go_wp2_with fail
    refine (szState_any _ s left _ ((HS.out.below T.A.K (Nat.le_refl _)).more T.A.K.size) l0 l1).mono ?_
    rintro e w3 ⟨rfl, hb⟩
    replace T := T.step hb
    clear hb hC hD
    by_cases hsz2 : (s.pods.length + s.mnts.length + s.devs.length + s.lks.length : Nat) ≤ left
    · have e0 : szS left s = left - (s.pods.length + s.mnts.length + s.devs.length + s.lks.length : Nat) := if_pos hsz2
      have l2 : 0 ≤ szS left s := by omega
      have hfit : StFits s 1048576 := ⟨by omega, by omega, by omega, by omega⟩
      have F := Lib.hid hfit
      have TS : Hid ((totS s : Int) ≤ 2097152) := Lib.hid (by have := tot_half hsz2; omega)
      clear e0 hsz2 hfit
      generalize szS left s = left2 at *
      have q0 : Hid (d.n0 ≤ 1048576) := Lib.hid (by omega)
      have q1 : Hid (d.n1 ≤ 1048576) := Lib.hid (by omega)
      have q2 : Hid (d.n2 ≤ 1048576) := Lib.hid (by omega)
      have q3 : Hid (d.n3 ≤ 1048576) := Lib.hid (by omega)
      have PS : Hid ((1 + 4 * d.n0 + d.n1 + 2 * d.n2 + d.n3 : Int) ≤ 4194305) := Lib.hid (by omega)
      clear hsz l0 l1
      have hC := T.A.C
      have hD := T.O.C
      go_wp2_with fail
      clear hC hD
      have S3 : (∀ o, w3.cell? ⟨w.heap.size, o, none⟩ = (planC A0 A1 A2 A3 d.n0 c0 d.n1 c1 d.n2 c2 d.n3 c3 d.l d.p d.t)[o]?) ∧ (∀ o, w3.cell? ⟨w.heap.size + 1, o, none⟩ = (stC E0 E1 E2 E3 s.pods.length k0 s.mnts.length k1 s.devs.length k2 s.lks.length k3 s.ph s.co s.ck s.bo s.ba s.lb s.gd s.pr)[o]?) ∧ Below w3.heap.size w3 w3 := ⟨T.A.C, T.O.C, Below.refl _ _⟩
      go_region_held3 (fun w' => (∀ o, w'.cell? ⟨w.heap.size, o, none⟩ = (planC A0 A1 A2 A3 d.n0 c0 d.n1 c1 d.n2 c2 d.n3 c3 d.l d.p d.t)[o]?) ∧ (∀ o, w'.cell? ⟨w.heap.size + 1, o, none⟩ = (stC E0 E1 E2 E3 s.pods.length k0 s.mnts.length k1 s.devs.length k2 s.lks.length k3 s.ph s.co s.ck s.bo s.ba s.lb s.gd s.pr)[o]?) ∧ Below w3.heap.size w3 w')
        (first | exact S3 | exact S4 | exact S5 | exact S6 | (exact ⟨S3.1, S3.2.1, S3.2.2.drew⟩))
        (first
          | (go_at_call 6
             have hq := S5
             clear hq
             refine (HM.out _ _ _ ((P4.out.below K4 (Nat.le_refl _)).more K4.size) Q5.out).mono ?_
             rintro e w6 ⟨v0, rfl, O0, hb6⟩
             dsimp only at O0 ⊢
             have K6 : Below w3.heap.size w3 w6 := K5.trans (hb6.mono K5.size)
             have S6 := And.intro (T.step K6).A.C (And.intro (T.step K6).O.C K6))
          | (go_at_call 8
             have hq := S4
             clear hq
             refine (toState_any _ s _ ((HS.out.below (T.step K3).A.K (Nat.le_refl _)).more (T.step K3).A.K.size) F.out).mono ?_
             rintro e w5 ⟨q0_, q1_, q2_, q3_, rfl, N5, hb5⟩
             have Q5 := Lib.hid (N5.is F.out)
             have K4 := hb5
             have K5 : Below w3.heap.size w3 w5 := K3.trans (hb5.mono K3.size)
             have S5 := And.intro (T.step K5).A.C (And.intro (T.step K5).O.C K5))
          | (go_at_call 7
             have Kd : Below w3.heap.size w3 w3.drew := (Below.refl _ _).drew
             refine (toPlan_any _ d _ ((H.out.below (T.step Kd).A.K (Nat.le_refl _)).more (T.step Kd).A.K.size) q0.out q1.out q2.out q3.out).mono ?_
             rintro e w4 ⟨g0_, g1_, g2_, g3_, rfl, N4, hb4⟩
             have P4 := Lib.hid (N4.is B0.out B1.out B2.out B3.out)
             have K3 : Below w3.heap.size w3 w4 := Kd.trans hb4
             have S4 := And.intro (T.step K3).A.C (And.intro (T.step K3).O.C K3)))
      have hb := K6
      clear S3 S4 S5 S6 P4 Q5 K3 K4 K5 K6 Kd N4 N5 hb4 hb5 hb6
      replace T := T.step hb
      clear hb
      have L0 : Hid (∀ r, v0.ownBlock = some r → r < w6.heap.size) := Lib.hid fun r hr => (O0.lt hr).2
      have hα : w.heap.size + 1 < w6.heap.size := T.O.z
      have hC := T.A.C
      have hD := T.O.C
      go_wp2_with fail
      refine (toPlan_any _ d _ ((H.out.below T.A.K (Nat.le_refl _)).more T.A.K.size) q0.out q1.out q2.out q3.out).mono ?_
      rintro e w7 ⟨a0, a1, a2, a3, rfl, N, hb⟩
      have hβa := N.l0
      have a01 := N.l1
      have a12 := N.l2
      have a23 := N.l3
      have a3z := N.l4
      have P := Lib.hid (N.is B0.out B1.out B2.out B3.out)
      clear hC hD
      replace T := T.step hb
      replace O0 := O0.below hb
      clear hb
      generalize w6.heap.size = β at L0 hα hβa
      have hC := T.A.C
      have hD := T.O.C
      have hz := T.A.z
      have hz1 := T.O.z
      go_wp2_with fail
      clear hC hD hz hz1
      have hb : Below w7.heap.size w7 (w7.alloc (.cells (planC (some ⟨a0, 0, none⟩) (some ⟨a1, 0, none⟩) (some ⟨a2, 0, none⟩) (some ⟨a3, 0, none⟩) d.n0 d.n0 d.n1 d.n1 d.n2 d.n2 d.n3 d.n3 d.l d.p d.t) 42)) := (Below.refl _ _).alloc (Nat.le_refl _) _
      have U := Own.box2 T.A.K (planC (some ⟨a0, 0, none⟩) (some ⟨a1, 0, none⟩) (some ⟨a2, 0, none⟩) (some ⟨a3, 0, none⟩) d.n0 d.n0 d.n1 d.n1 d.n2 d.n2 d.n3 d.n3 d.l d.p d.t) 42
      have Ul : w7.heap.size < (w7.alloc (.cells (planC (some ⟨a0, 0, none⟩) (some ⟨a1, 0, none⟩) (some ⟨a2, 0, none⟩) (some ⟨a3, 0, none⟩) d.n0 d.n0 d.n1 d.n1 d.n2 d.n2 d.n3 d.n3 d.l d.p d.t) 42)).heap.size := by rw [heap_size_alloc_]; omega
      replace T := T.step hb
      replace O0 := O0.below hb
      replace N := N.below hb
      replace P := Lib.hid (P.out.go hb)
      clear hb
      generalize hw : w7.alloc (.cells (planC (some ⟨a0, 0, none⟩) (some ⟨a1, 0, none⟩) (some ⟨a2, 0, none⟩) (some ⟨a3, 0, none⟩) d.n0 d.n0 d.n1 d.n1 d.n2 d.n2 d.n3 d.n3 d.l d.p d.t) 42) = w8 at T O0 N P U Ul ⊢
      generalize hg : w7.heap.size = γ at U Ul a3z ⊢
      clear hw hg
      refine (toState_any _ s _ ((HS.out.below T.A.K (Nat.le_refl _)).more T.A.K.size) F.out).mono ?_
      rintro e w9 ⟨r0, r1, r2, r3, rfl, M, hb⟩
      have Y := M.rowsIn
      have Q := Lib.hid (M.is F.out)
      have hδ := hb.size
      replace T := T.step hb
      replace O0 := O0.below hb
      replace N := N.below hb
      replace P := Lib.hid (P.out.go hb)
      replace U := U.step hb
      clear hb
      clear M
      generalize w8.heap.size = δ at Ul Y hδ
      have hC := T.A.C
      have hD := T.O.C
      have hU := U.C
      have hz := T.A.z
      have hz1 := T.O.z
      have hz2 := U.z
      unfold newStV
      go_wp2_with fail
      clear hC hD hU hz hz1 hz2
      have hb : Below w9.heap.size w9 (w9.alloc (.cells (stC (some ⟨r0, 0, none⟩) (some ⟨r1, 0, none⟩) (some ⟨r2, 0, none⟩) (some ⟨r3, 0, none⟩) s.pods.length s.pods.length s.mnts.length s.mnts.length s.devs.length s.devs.length s.lks.length s.lks.length s.ph s.co s.ck s.bo s.ba s.lb s.gd s.pr) 47)) := (Below.refl _ _).alloc (Nat.le_refl _) _
      have V1 := Own.box2 T.A.K (stC (some ⟨r0, 0, none⟩) (some ⟨r1, 0, none⟩) (some ⟨r2, 0, none⟩) (some ⟨r3, 0, none⟩) s.pods.length s.pods.length s.mnts.length s.mnts.length s.devs.length s.devs.length s.lks.length s.lks.length s.ph s.co s.ck s.bo s.ba s.lb s.gd s.pr) 47
      have V1l : w9.heap.size < (w9.alloc (.cells (stC (some ⟨r0, 0, none⟩) (some ⟨r1, 0, none⟩) (some ⟨r2, 0, none⟩) (some ⟨r3, 0, none⟩) s.pods.length s.pods.length s.mnts.length s.mnts.length s.devs.length s.devs.length s.lks.length s.lks.length s.ph s.co s.ck s.bo s.ba s.lb s.gd s.pr) 47)).heap.size := by rw [heap_size_alloc_]; omega
      replace T := T.step hb
      replace O0 := O0.below hb
      replace N := N.below hb
      replace P := Lib.hid (P.out.go hb)
      replace U := U.step hb
      replace Y := Y.go hb
      replace Q := Lib.hid (Q.out.go hb)
      clear hb
      generalize hw : w9.alloc (.cells (stC (some ⟨r0, 0, none⟩) (some ⟨r1, 0, none⟩) (some ⟨r2, 0, none⟩) (some ⟨r3, 0, none⟩) s.pods.length s.pods.length s.mnts.length s.mnts.length s.devs.length s.devs.length s.lks.length s.lks.length s.ph s.co s.ck s.bo s.ba s.lb s.gd s.pr) 47) = w10 at T O0 N P U Y Q V1 V1l ⊢
      generalize hg : w9.heap.size = ζ at V1 V1l Y hδ ⊢
      clear hw hg
      refine (HI.out _ _ _ T.A.K P.out Q.out).mono ?_
      rintro e w11 ⟨v1, rfl, O1, hb⟩
      dsimp only at O1 ⊢
      have L1 : Hid (∀ r, v1.ownBlock = some r → w10.heap.size ≤ r) := Lib.hid fun r hr => (O1.lt hr).1
      have hβε : ζ < w10.heap.size := V1l
      replace T := T.step hb
      replace O0 := O0.below hb
      replace N := N.below hb
      replace P := Lib.hid (P.out.go hb)
      replace U := U.step hb
      replace Y := Y.go hb
      replace Q := Lib.hid (Q.out.go hb)
      replace V1 := V1.step hb
      clear hb
      generalize w10.heap.size = ε at V1l L1 O1 hβε
      go_wp2_with fail
      refine (eqRecS_same v1 v0 l _ O1.rt O0.rt).mono ?_
      rintro e w12 ⟨rfl, hb⟩
      replace T := T.step hb
      replace O0 := O0.below hb
      replace N := N.below hb
      replace P := Lib.hid (P.out.go hb)
      replace U := U.step hb
      replace Y := Y.go hb
      replace Q := Lib.hid (Q.out.go hb)
      replace V1 := V1.step hb
      replace O1 := O1.below hb
      clear hb
      have hU := U.C
      have hC := T.A.C
      go_wp2_with fail
      clear hU hC
      -- the plan is as it was
      have S0 : (∀ o, w12.cell? ⟨w.heap.size, o, none⟩ = (planC A0 A1 A2 A3 d.n0 c0 d.n1 c1 d.n2 c2 d.n3 c3 d.l d.p d.t)[o]?) ∧ (∀ o, w12.cell? ⟨γ, o, none⟩ = (planC (some ⟨a0, 0, none⟩) (some ⟨a1, 0, none⟩) (some ⟨a2, 0, none⟩) (some ⟨a3, 0, none⟩) d.n0 d.n0 d.n1 d.n1 d.n2 d.n2 d.n3 d.n3 d.l d.p d.t)[o]?) ∧ Below w12.heap.size w12 w12 := ⟨T.A.C, U.C, Below.refl _ _⟩
      go_region_held3 (fun w' => (∀ o, w'.cell? ⟨w.heap.size, o, none⟩ = (planC A0 A1 A2 A3 d.n0 c0 d.n1 c1 d.n2 c2 d.n3 c3 d.l d.p d.t)[o]?) ∧ (∀ o, w'.cell? ⟨γ, o, none⟩ = (planC (some ⟨a0, 0, none⟩) (some ⟨a1, 0, none⟩) (some ⟨a2, 0, none⟩) (some ⟨a3, 0, none⟩) d.n0 d.n0 d.n1 d.n1 d.n2 d.n2 d.n3 d.n3 d.l d.p d.t)[o]?) ∧ Below w12.heap.size w12 w')
        (first | exact S0 | exact S1 | exact S2 | (exact ⟨S0.1, S0.2.1, S0.2.2.drew⟩))
        (first
          | (go_at_call 11
             have hq := S1
             clear hq
             refine (eqPlan_same _ _ d _ ((P.out.below K1 (Nat.le_refl _)).more K1.size) P1.out).mono ?_
             rintro e w2a ⟨rfl, hb⟩
             have K2 : Below w12.heap.size w12 w2a := K1.trans (hb.mono K1.size)
             have S2 := And.intro (T.step K2).A.C (And.intro (U.step K2).C K2))
          | (go_at_call 7
             have K0 : Below w12.heap.size w12 w12.drew := (Below.refl _ _).drew
             refine (toPlan_any _ d _ ((H.out.below (T.step K0).A.K (Nat.le_refl _)).more (T.step K0).A.K.size) q0.out q1.out q2.out q3.out).mono ?_
             rintro e w1a ⟨z0, z1, z2, z3, rfl, N1, hb⟩
             have P1 := Lib.hid (N1.is B0.out B1.out B2.out B3.out)
             have K1 : Below w12.heap.size w12 w1a := K0.trans hb
             clear hb
             have S1 := And.intro (T.step K1).A.C (And.intro (U.step K1).C K1)))
      clear S0 S1 S2 K0 K1 hb
      have hb := K2
      clear K2
      clear N1 P1
      replace T := T.step hb
      replace O0 := O0.below hb
      replace N := N.below hb
      replace P := Lib.hid (P.out.go hb)
      replace U := U.step hb
      replace Y := Y.go hb
      replace Q := Lib.hid (Q.out.go hb)
      replace V1 := V1.step hb
      replace O1 := O1.below hb
      clear hb
      rename_i hHeld
      clear hHeld
      have hV := V1.C
      have hD := T.O.C
      go_wp2_with fail
      clear hV hD
      -- the state is as it was
      have S0 : (∀ o, w2a.cell? ⟨w.heap.size + 1, o, none⟩ = (stC E0 E1 E2 E3 s.pods.length k0 s.mnts.length k1 s.devs.length k2 s.lks.length k3 s.ph s.co s.ck s.bo s.ba s.lb s.gd s.pr)[o]?) ∧ (∀ o, w2a.cell? ⟨ζ, o, none⟩ = (stC (some ⟨r0, 0, none⟩) (some ⟨r1, 0, none⟩) (some ⟨r2, 0, none⟩) (some ⟨r3, 0, none⟩) s.pods.length s.pods.length s.mnts.length s.mnts.length s.devs.length s.devs.length s.lks.length s.lks.length s.ph s.co s.ck s.bo s.ba s.lb s.gd s.pr)[o]?) ∧ Below w2a.heap.size w2a w2a := ⟨T.O.C, V1.C, Below.refl _ _⟩
      go_region_held3 (fun w' => (∀ o, w'.cell? ⟨w.heap.size + 1, o, none⟩ = (stC E0 E1 E2 E3 s.pods.length k0 s.mnts.length k1 s.devs.length k2 s.lks.length k3 s.ph s.co s.ck s.bo s.ba s.lb s.gd s.pr)[o]?) ∧ (∀ o, w'.cell? ⟨ζ, o, none⟩ = (stC (some ⟨r0, 0, none⟩) (some ⟨r1, 0, none⟩) (some ⟨r2, 0, none⟩) (some ⟨r3, 0, none⟩) s.pods.length s.pods.length s.mnts.length s.mnts.length s.devs.length s.devs.length s.lks.length s.lks.length s.ph s.co s.ck s.bo s.ba s.lb s.gd s.pr)[o]?) ∧ Below w2a.heap.size w2a w')
        (first | exact S0 | exact S1 | exact S2 | (exact ⟨S0.1, S0.2.1, S0.2.2.drew⟩))
        (first
          | (go_at_call 12
             have hq := S1
             clear hq
             refine (eqState_same _ _ s _ ((Q.out.below K1 (Nat.le_refl _)).more K1.size) Q1.out).mono ?_
             rintro e w2b ⟨rfl, hb⟩
             have K2 : Below w2a.heap.size w2a w2b := K1.trans (hb.mono K1.size)
             have S2 := And.intro (T.step K2).O.C (And.intro (V1.step K2).C K2))
          | (go_at_call 8
             have K0 : Below w2a.heap.size w2a w2a.drew := (Below.refl _ _).drew
             refine (toState_any _ s _ ((HS.out.below (T.step K0).A.K (Nat.le_refl _)).more (T.step K0).A.K.size) F.out).mono ?_
             rintro e w1b ⟨z0, z1, z2, z3, rfl, N1, hb⟩
             have Q1 := Lib.hid (N1.is F.out)
             have K1 : Below w2a.heap.size w2a w1b := K0.trans hb
             clear hb
             have S1 := And.intro (T.step K1).O.C (And.intro (V1.step K1).C K1)))
      clear S0 S1 S2 K0 K1 hb
      have hb := K2
      clear K2
      clear N1 Q1
      replace T := T.step hb
      replace O0 := O0.below hb
      replace N := N.below hb
      replace P := Lib.hid (P.out.go hb)
      replace U := U.step hb
      replace Y := Y.go hb
      replace Q := Lib.hid (Q.out.go hb)
      replace V1 := V1.step hb
      replace O1 := O1.below hb
      clear hb
      rename_i hHeld
      clear hHeld
      have hU := U.C
      go_wp2_with fail
      -- the arguments are marked
      refine (markPlan_num d a0 a1 a2 a3 _ _ N q0.out q1.out q2.out q3.out).mono ?_
      rintro e w15 ⟨rfl, hk⟩
      clear hU
      clear N P Q U
      replace T := T.keeps hk (by rintro b ⟨hb1, hb2⟩; omega)
      replace O0 : OR _ _ _ _ := ownsRow_keeps O0 hk (by intro r hr; have := L0.out r hr; rintro ⟨hb1, hb2⟩; omega)
      replace Y := Y.keeps hk (by rintro b p1 p2 ⟨hb1, hb2⟩; omega)
      replace V1 := V1.keeps hk (by rintro b ⟨hb1, hb2⟩; omega) (by rintro ⟨hb1, hb2⟩; omega)
      replace O1 : OR _ _ _ _ := ownsRow_keeps O1 hk (by intro r hr; have := L1.out r hr; rintro ⟨hb1, hb2⟩; omega)
      clear hk
      have p0 : (0 : Int) ≤ 1 + 4 * d.n0 + d.n1 + 2 * d.n2 + d.n3 := by omega
      have p1 := PS.out
      generalize (1 + 4 * d.n0 + d.n1 + 2 * d.n2 + d.n3 : Int) = kk at p0 p1 ⊢
      have hV := V1.C
      go_wp2_with fail
      refine (markIn_any _ s _ _ kk _ Y F.out p0 (by have := TS.out; omega)).mono ?_
      rintro e w16 ⟨rfl, -, hk⟩
      clear hV
      clear Y V1
      replace T := T.keeps hk (by rintro b ⟨hb1, hb2⟩; omega)
      replace O0 : OR _ _ _ _ := ownsRow_keeps O0 hk (by intro r hr; have := L0.out r hr; rintro ⟨hb1, hb2⟩; omega)
      replace O1 : OR _ _ _ _ := ownsRow_keeps O1 hk (by intro r hr; have := L1.out r hr; rintro ⟨hb1, hb2⟩; omega)
      clear hk
      have p4 : ¬ (kk + totS s < 0) := by omega
      have p5 : decide (kk + totS s < 0) = false := by simp [p4]
      generalize (kk + totS s : Int) = kq at p4 p5 ⊢
      clear p0 p1
      go_wp2_with fail
      refine (eqRecS_same v1 v0 l _ O1.rt O0.rt).mono ?_
      rintro e w17 ⟨rfl, hb⟩
      clear p4 p5
      replace T := T.step hb
      replace O0 := O0.below hb
      replace O1 := O1.below hb
      clear hb
      -- the answer is marked
      obtain ⟨A1_, c1_, s1, rfl, hA1, hB1, hz1, U1⟩ := O1.open_
      have HA1 := Lib.hid hA1
      have HZ1 := Lib.hid hz1
      clear hA1 hz1
      go_wp2_with fail
      refine (markRecS_any A1_ l.length c1_ s1 1 _ _ HA1.out U1 (by omega) (by omega) (by omega)).mono ?_
      rintro e w18 ⟨rfl, U2, hk⟩
      clear U1
      have hks := hk.size
      clear O1
      replace T := T.keeps hk (by rintro b rfl; omega)
      replace O0 : OR _ _ _ _ := ownsRow_keeps O0 hk (by intro r hr; have := L0.out r hr; rintro rfl; omega)
      clear hk
      replace HZ1 := Lib.hid (fun h => Nat.lt_of_lt_of_le (HZ1.out h) hks)
      go_wp2_with fail
      refine (heldRecS_any A1_ l.length c1_ s1 1 _ HA1.out U2 (by omega) (by omega) (by omega)).mono ?_
      rintro e w19 ⟨rfl, hb⟩
      have U3 := U2.go (fun h => HZ1.out (by omega)) hb
      clear U2
      replace HZ1 := Lib.hid (fun h => Nat.lt_of_lt_of_le (HZ1.out h) hb.size)
      replace T := T.step hb
      replace O0 := O0.below hb
      clear hb
      have hm0 : ¬ ((1 : Int) + 3 * (l.length : Int) < 0) := by omega
      have hC := T.A.C
      have hD := T.O.C
      go_wp2_with fail
      clear hC hD hm0
      -- once more, of other copies
      have S3 : (∀ o, w19.cell? ⟨w.heap.size, o, none⟩ = (planC A0 A1 A2 A3 d.n0 c0 d.n1 c1 d.n2 c2 d.n3 c3 d.l d.p d.t)[o]?) ∧ (∀ o, w19.cell? ⟨w.heap.size + 1, o, none⟩ = (stC E0 E1 E2 E3 s.pods.length k0 s.mnts.length k1 s.devs.length k2 s.lks.length k3 s.ph s.co s.ck s.bo s.ba s.lb s.gd s.pr)[o]?) ∧ Below w19.heap.size w19 w19 := ⟨T.A.C, T.O.C, Below.refl _ _⟩
      go_region_held3 (fun w' => (∀ o, w'.cell? ⟨w.heap.size, o, none⟩ = (planC A0 A1 A2 A3 d.n0 c0 d.n1 c1 d.n2 c2 d.n3 c3 d.l d.p d.t)[o]?) ∧ (∀ o, w'.cell? ⟨w.heap.size + 1, o, none⟩ = (stC E0 E1 E2 E3 s.pods.length k0 s.mnts.length k1 s.devs.length k2 s.lks.length k3 s.ph s.co s.ck s.bo s.ba s.lb s.gd s.pr)[o]?) ∧ Below w19.heap.size w19 w')
        (first | exact S3 | exact S4 | exact S5 | exact S6 | (exact ⟨S3.1, S3.2.1, S3.2.2.drew⟩))
        (first
          | (go_at_call 9
             have hq := S5
             clear hq
             refine (HI.out _ _ _ (T.step K5).A.K ((P4.out.below K4 (Nat.le_refl _)).more K4.size) Q5.out).mono ?_
             rintro e w6c ⟨v2, rfl, O2, hb6⟩
             dsimp only at O2 ⊢
             have K6 : Below w19.heap.size w19 w6c := K5.trans (hb6.mono K5.size)
             have S6 := And.intro (T.step K6).A.C (And.intro (T.step K6).O.C K6))
          | (go_at_call 8
             have hq := S4
             clear hq
             refine (toState_any _ s _ ((HS.out.below (T.step K3).A.K (Nat.le_refl _)).more (T.step K3).A.K.size) F.out).mono ?_
             rintro e w5c ⟨q0_, q1_, q2_, q3_, rfl, N5, hb5⟩
             have Q5 := Lib.hid (N5.is F.out)
             have K4 := hb5
             have K5 : Below w19.heap.size w19 w5c := K3.trans (hb5.mono K3.size)
             have S5 := And.intro (T.step K5).A.C (And.intro (T.step K5).O.C K5))
          | (go_at_call 7
             have Kd : Below w19.heap.size w19 w19.drew := (Below.refl _ _).drew
             refine (toPlan_any _ d _ ((H.out.below (T.step Kd).A.K (Nat.le_refl _)).more (T.step Kd).A.K.size) q0.out q1.out q2.out q3.out).mono ?_
             rintro e w4c ⟨g0_, g1_, g2_, g3_, rfl, N4, hb4⟩
             have P4 := Lib.hid (N4.is B0.out B1.out B2.out B3.out)
             have K3 : Below w19.heap.size w19 w4c := Kd.trans hb4
             have S4 := And.intro (T.step K3).A.C (And.intro (T.step K3).O.C K3)))
      have hb := K6
      clear S3 S4 S5 S6 P4 Q5 K3 K4 K5 K6 Kd N4 N5 hb4 hb5 hb6
      have U4 := U3.go (fun h => HZ1.out (by omega)) hb
      clear U3
      replace HZ1 := Lib.hid (fun h => Nat.lt_of_lt_of_le (HZ1.out h) hb.size)
      replace T := T.step hb
      replace O0 := O0.below hb
      clear hb
      go_wp2_with fail
      refine (eqRecS_same v2 v0 l _ O2.rt O0.rt).mono ?_
      rintro e w20 ⟨rfl, hb⟩
      have U5 := U4.go (fun h => HZ1.out (by omega)) hb
      clear U4 O2
      replace HZ1 := Lib.hid (fun h => Nat.lt_of_lt_of_le (HZ1.out h) hb.size)
      replace T := T.step hb
      replace O0 := O0.below hb
      clear hb
      go_wp2_with fail
      refine (heldRecS_any A1_ l.length c1_ s1 1 _ HA1.out U5 (by omega) (by omega) (by omega)).mono ?_
      rintro e w21 ⟨rfl, hb⟩
      replace T := T.step hb
      replace O0 := O0.below hb
      clear hb
      have hm0 : ¬ ((1 : Int) + 3 * (l.length : Int) < 0) := by omega
      go_wp2_with fail
      go_ret
      exact ⟨rfl, T.A.K⟩
    · have e0 : szS left s = -1 := if_neg hsz2
      rw [e0]
      clear e0
      go_wp2_with fail
      go_ret
      exact ⟨rfl, T.A.K⟩
  · have e0 : szP d = -1 := if_neg hsz
    rw [e0]
    clear e0
    go_wp2_with fail
    go_ret
    exact ⟨rfl, T.A.K⟩
end Go.Proofs.YtdphpjnecjofeaaGreat
/- If -/
set_option linter.unusedVariables false
namespace Go.Proofs.YtdphpjnecjofeaaGreat
open Go.ChangeShapes Go.WideShapes Go.ChangeAt Go.RowKit Go.Deep

namespace fnExactTickRecsRow
set_option maxRecDepth 100000 in
theorem contract (H : Type) (enc : TypeId × Value → H) (W : World) (base : Nat) (args : Array Value) (ds gs : List (DataW H)) (before : List MemPlace)
    (hval : ∀ (j : Nat) t v, Tryz.f3.params[j]? = some t → args[j]? = some v → Value.okWide Tryz.prog W .any base t v)
    (hW : DataW.Whole enc Tryz.prog Tryz.f3.params.toList Rows.fnExactTickRecsSpec.vars false W args.toList ds gs before) :
    Calls Tryz.prog 3 args W fun e W' => ∃ v, e = .returned v ∧ Rows.fnExactTickRecsSpec.post enc Tryz.prog Tryz.f3 false true false false W args v W' := by
  have hW' := hW
  obtain ⟨p, q, hA0, hV, rfl, hfz, hnd⟩ := hW
  have hA : DataW.TrodAll enc Tryz.prog W 0 (fun _ => true) true Tryz.f3.params.toList args.toList ds p := hA0
  rw [Tryz.params3] at hA hval
  obtain ⟨v0, v1, d0, d1, p0, p1, rfl, rfl, rfl, h0, h1⟩ := trodAll_two hA
  obtain ⟨rfl, rfl⟩ := trodVars_none hV
  obtain ⟨D, hD⟩ := open_plan (hval 0 27 v0 rfl rfl) h0
  obtain ⟨s, hS⟩ := open_state (hval 1 32 v1 rfl rfl) h1
  clear hA0
  simp only [List.append_nil] at hW'
  have hlt0 : ∀ x ∈ p0, x.block < W.heap.size := fun x hx => by simpa using hW'.lt x (by simp [hx])
  have hlt1 : ∀ x ∈ p1, x.block < W.heap.size := fun x hx => by simpa using hW'.lt x (by simp [hx])
  refine (lawTickRecs v0 v1 D s _ _ W hD hS (tick_len1 D s) (fun pv sv W hp hs => tickRecs_any pv sv D s W hp hs) (fun pv sv W1 hb hp hs => implTickRecs_any pv sv D s W1 hp hs)).mono fun e W' ⟨he, K⟩ => ?_
  subst he
  refine ⟨_, rfl, ⟨_, _, _, [], p0 ++ p1, [], hW', ?_, ?_, ?_, K.frame _, fun h => by cases h⟩⟩
  · exact trodAll_mk1 (shut_bool Tryz.underlying4 _)
  · exact trodAll_mk2 (Below.trod laid_ (by kernel_rfl) (of_decide_eq_true (by kernel_rfl)) h0 K hlt0) (Below.trod laid_ (by kernel_rfl) (of_decide_eq_true (by kernel_rfl)) h1 K hlt1)
  · exact rfl

set_option maxRecDepth 100000 in
theorem lifted (os : Os) (started : os.Started) (H : Type) (enc : TypeId × Value → H) :
    ReturnsInHanded {} Tryz.checked os 3 .any (Rows.fnExactTickRecsSpec.pre6 enc Tryz.prog Tryz.f3 Rows.fnExactTickRecsRow.domain false) (Rows.fnExactTickRecsSpec.post enc Tryz.prog Tryz.f3 false true false false) := by
  refine returnsInHanded_of_change (C := Tryz.checked) (s := Rows.fnExactTickRecsSpec) own_ started (by kernel_rfl) Tryz.func3
    (ChangeSpec.witness6 (enc := enc) (C := Tryz.checked) (s := Rows.fnExactTickRecsSpec) false ⟨#[], #[planV none none none none 0 0 0 0 0 0 0 0 0 0 0, .agg (stC none none none none 0 0 0 0 0 0 0 0 0 false 0 0 0 0 0 0)], []⟩ 8 (by kernel_rfl) (by kernel_rfl) (by kernel_rfl) (by kernel_rfl)) ?_
  intro W base args ds gs before hval hW _ _
  exact contract H enc W base args ds gs before hval hW
end fnExactTickRecsRow

theorem fnExactTickRecs_holds : Rows.FnExactTickRecsSaid :=
  OpenClaim.holds_of_wide 3 Tryz.f3 rfl rfl rfl rfl rfl rfl rfl ⟨rfl, rfl, rfl, rfl, rfl⟩ rfl rfl rfl rfl rfl (by kernel_rfl) Tryz.func3 (by kernel_rfl)
    (of_decide_eq_true (by kernel_rfl)) (by unfold Func.isWrapper; first | (rw [if_pos (by decide +kernel)]; kernel_rfl) | (rw [if_neg (by decide +kernel)]; exact ⟨rfl, rfl⟩))
    (fun os started H enc _ => fnExactTickRecsRow.lifted os started H enc)
#print axioms fnExactTickRecs_holds
end Go.Proofs.YtdphpjnecjofeaaGreat
