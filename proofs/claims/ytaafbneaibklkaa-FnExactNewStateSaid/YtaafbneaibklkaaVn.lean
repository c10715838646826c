/-
  NewState: the law's walk.
-/
import Derived.Test.YtaafbneaibklkaaVnA
import Derived.Test.YtaafbneaibklkaaVd
import Derived.Test.YtaafbneaibklkaaPk
import Derived.Test.YtaafbneaibklkaaPmA
import Derived.Deep.RegionHeld3
set_option linter.unusedVariables false
namespace Go.Proofs.Ytaafbneaibklkaa
open Go.RowKit

theorem newS_fits (d : PlanD) : StFits (newS d) 1048576 := by
  unfold newS
  split
  · rename_i hok
    simp only [planOkB, sizesB, Bool.and_eq_true, decide_eq_true_eq] at hok
    exact ⟨by simp; omega, by simp; omega, by simp; omega, by simp [zeroS]⟩
  · exact ⟨by simp [zeroS], by simp [zeroS], by simp [zeroS], by simp [zeroS]⟩

set_option maxRecDepth 100000 in
set_option maxHeartbeats 4000000 in
theorem lawNewState (v : Value) (d : PlanD) (w : World) (h : IsPlan w w.heap.size v d) :
    Calls Try.prog 4 #[v] w fun e w' => e = .returned (.bool true) ∧ Below w.heap.size w w' := by
  have H := Lib.hid h
  obtain ⟨⟨A0, A1, A2, A3, c0, c1, c2, c3, rfl, -, -, -, -⟩, b0, b1, b2, b3⟩ := h
  have B0 := Lib.hid b0
  have B1 := Lib.hid b1
  have B2 := Lib.hid b2
  have B3 := Lib.hid b3
  clear b0 b1 b2 b3
  obtain ⟨s, hs⟩ : ∃ s, newS d = s := ⟨_, rfl⟩
  have HS := Lib.hid hs
  have F : Hid (StFits s 1048576) := Lib.hid (hs ▸ newS_fits d)
  have TS : totS s ≤ 6291456 := fits_tot F.out
  clear hs
  go_enter Try.func4, Try.ntmps4
  go_wp2_with fail
  have X1 := Own.box w (planC A0 A1 A2 A3 d.n0 c0 d.n1 c1 d.n2 c2 d.n3 c3 d.l d.p d.t) 27
  refine (szPlan_any _ d _ ((H.out.below X1.K (Nat.le_refl _)).more X1.K.size)).mono ?_
  rintro e w2 ⟨rfl, hb⟩
  have X2 := X1.step hb
  have hC := X2.C
  clear hb X1
  by_cases hsz : d.n0 + d.n1 + d.n2 + d.n3 ≤ 1048576
  · have e0 : szP d = 1048576 - d.n0 - d.n1 - d.n2 - d.n3 := if_pos hsz
    rw [e0]
    clear e0
    go_wp2_with fail
    have HZ := Lib.hid hsz
    clear hsz
    have q0 : Hid (d.n0 ≤ 1048576) := by have := HZ.out; exact Lib.hid (by omega)
    have q1 : Hid (d.n1 ≤ 1048576) := by have := HZ.out; exact Lib.hid (by omega)
    have q2 : Hid (d.n2 ≤ 1048576) := by have := HZ.out; exact Lib.hid (by omega)
    have q3 : Hid (d.n3 ≤ 1048576) := by have := HZ.out; exact Lib.hid (by omega)
    refine (toPlan_any _ d _ ((H.out.below X2.K (Nat.le_refl _)).more X2.K.size) q0.out q1.out q2.out q3.out).mono ?_
    rintro e w3 ⟨g0, g1, g2, g3, rfl, N3, hb⟩
    have X3 := X2.step hb
    have P3 := Lib.hid (N3.is B0.out B1.out B2.out B3.out)
    clear hb X2 hC N3
    have hC := X3.C
    go_wp2_with fail
    -- the model's answer
    refine (specNewState_any _ d _ P3.out).mono ?_
    rintro e w4 ⟨v0, rfl, O0, hb⟩
    rw [HS.out] at O0
    have X4 := X3.step hb
    have Z0 := RowsIn.of O0 hb.size
    have hα := X3.z
    have hαβ := hb.size
    generalize w3.heap.size = α at hα hαβ Z0
    obtain ⟨E0, E1, E2, E3, k0, k1, k2, k3, rfl⟩ := Z0.val
    clear hb X3 hC P3 O0
    have hC := X4.C
    have hz := X4.z
    go_wp2_with fail
    have hb : Below w4.heap.size w4 _ := (Below.refl _ _).alloc (Nat.le_refl _) (.cells (stC E0 E1 E2 E3 s.pods.length k0 s.mnts.length k1 s.devs.length k2 s.lks.length k3 s.ph s.co s.ck s.bo s.ba s.lb s.gd s.pr) 45)
    have X5 := X4.step hb
    have Y5 := Own.box2 X4.K (stC E0 E1 E2 E3 s.pods.length k0 s.mnts.length k1 s.devs.length k2 s.lks.length k3 s.ph s.co s.ck s.bo s.ba s.lb s.gd s.pr) 45
    have Z0 := Z0.go hb
    have hβ : w4.heap.size < (w4.alloc (.cells (stC E0 E1 E2 E3 s.pods.length k0 s.mnts.length k1 s.devs.length k2 s.lks.length k3 s.ph s.co s.ck s.bo s.ba s.lb s.gd s.pr) 45)).heap.size := by rw [heap_size_alloc_]; omega
    clear X4 hC hb
    generalize hw5 : w4.alloc (.cells (stC E0 E1 E2 E3 s.pods.length k0 s.mnts.length k1 s.devs.length k2 s.lks.length k3 s.ph s.co s.ck s.bo s.ba s.lb s.gd s.pr) 45) = w5 at X5 Y5 Z0 hβ ⊢
    generalize hg : w4.heap.size = β at Y5 hz Z0 hαβ hβ ⊢
    clear hw5 hg
    refine (toPlan_any _ d _ ((H.out.below X5.K (Nat.le_refl _)).more X5.K.size) q0.out q1.out q2.out q3.out).mono ?_
    rintro e w6 ⟨a0, a1, a2, a3, rfl, N6, hb⟩
    have X6 := X5.step hb
    have Y6 := Y5.step hb
    have Z0 := Z0.go hb
    have hβa : β < a0 := Nat.lt_of_lt_of_le hβ N6.l0
    have a0a3 : a0 < a3 := Nat.lt_trans N6.l1 (Nat.lt_trans N6.l2 N6.l3)
    have a3γ : a3 < w6.heap.size := N6.l4
    clear hb X5 Y5
    have hC := X6.C
    have hD := Y6.C
    have hz6 := X6.z
    have hz6' := Y6.z
    go_wp2_with fail
    -- the argument's copy lies in a box
    have hb : Below w6.heap.size w6 _ := (Below.refl _ _).alloc (Nat.le_refl _) (.cells (planC (some ⟨a0, 0, none⟩) (some ⟨a1, 0, none⟩) (some ⟨a2, 0, none⟩) (some ⟨a3, 0, none⟩) d.n0 d.n0 d.n1 d.n1 d.n2 d.n2 d.n3 d.n3 d.l d.p d.t) 40)
    have X7 := X6.step hb
    have Y7 := Y6.step hb
    have U7 := Own.box2 X6.K (planC (some ⟨a0, 0, none⟩) (some ⟨a1, 0, none⟩) (some ⟨a2, 0, none⟩) (some ⟨a3, 0, none⟩) d.n0 d.n0 d.n1 d.n1 d.n2 d.n2 d.n3 d.n3 d.l d.p d.t) 40
    have Z0 := Z0.go hb
    have N7 := N6.below hb
    have hγ : w6.heap.size < (w6.alloc (.cells (planC (some ⟨a0, 0, none⟩) (some ⟨a1, 0, none⟩) (some ⟨a2, 0, none⟩) (some ⟨a3, 0, none⟩) d.n0 d.n0 d.n1 d.n1 d.n2 d.n2 d.n3 d.n3 d.l d.p d.t) 40)).heap.size := by rw [heap_size_alloc_]; omega
    clear X6 Y6 hC hD hb N6
    generalize hw7 : w6.alloc (.cells (planC (some ⟨a0, 0, none⟩) (some ⟨a1, 0, none⟩) (some ⟨a2, 0, none⟩) (some ⟨a3, 0, none⟩) d.n0 d.n0 d.n1 d.n1 d.n2 d.n2 d.n3 d.n3 d.l d.p d.t) 40) = w7 at X7 Y7 U7 Z0 N7 hγ ⊢
    generalize hg : w6.heap.size = γ at U7 hz6 hz6' a3γ hγ ⊢
    clear hw7 hg
    have P7 := Lib.hid (N7.is B0.out B1.out B2.out B3.out)
    refine (implNewState_any _ d _ P7.out).mono ?_
    rintro e w8 ⟨v1, rfl, O1, hb⟩
    rw [HS.out] at O1
    have X8 := X7.step hb
    have Y8 := Y7.step hb
    have U8 := U7.step hb
    have Z0 := Z0.go hb
    have N8 := N7.below hb
    have Z1 := RowsIn.of O1 hb.size
    have hδ := hb.size
    generalize w7.heap.size = δ at hγ hδ Z1
    obtain ⟨G0, G1, G2, G3, m0, m1, m2, m3, rfl⟩ := Z1.val
    clear hb X7 Y7 U7 N7 P7 O1
    have hC := X8.C
    have hD := Y8.C
    have hz8 := X8.z
    have hz8' := Y8.z
    have hz8'' := U8.z
    go_wp2_with fail
    have hb : Below w8.heap.size w8 _ := (Below.refl _ _).alloc (Nat.le_refl _) (.cells (stC G0 G1 G2 G3 s.pods.length m0 s.mnts.length m1 s.devs.length m2 s.lks.length m3 s.ph s.co s.ck s.bo s.ba s.lb s.gd s.pr) 45)
    have X9 := X8.step hb
    have Y9 := Y8.step hb
    have U9 := U8.step hb
    have V9 := Own.box2 X8.K (stC G0 G1 G2 G3 s.pods.length m0 s.mnts.length m1 s.devs.length m2 s.lks.length m3 s.ph s.co s.ck s.bo s.ba s.lb s.gd s.pr) 45
    have Z0 := Z0.go hb
    have Z1 := Z1.go hb
    have N9 := N8.below hb
    clear X8 Y8 U8 hC hD hb N8
    generalize hw9 : w8.alloc (.cells (stC G0 G1 G2 G3 s.pods.length m0 s.mnts.length m1 s.devs.length m2 s.lks.length m3 s.ph s.co s.ck s.bo s.ba s.lb s.gd s.pr) 45) = w9 at X9 Y9 U9 V9 Z0 Z1 N9 ⊢
    generalize hg : w8.heap.size = ε at V9 hz8 hz8' hz8'' Z1 hδ ⊢
    clear hw9 hg
    -- the answers are one
    refine (eqState_same _ _ s _ (Z1.is F.out) (Z0.is F.out)).mono ?_
    rintro e w10 ⟨rfl, hb⟩
    have X10 := X9.step hb
    have Y10 := Y9.step hb
    have U10 := U9.step hb
    have V10 := V9.step hb
    have Z0 := Z0.go hb
    have Z1 := Z1.go hb
    have N10 := N9.below hb
    have P10 := Lib.hid (N10.is B0.out B1.out B2.out B3.out)
    clear hb X9 Y9 U9 V9 N9
    have hC := X10.C
    have hD := U10.C
    go_wp2_with fail
    -- the argument is as it was
    have S8 : (∀ o, w10.cell? ⟨w.heap.size, o, none⟩ = (planC A0 A1 A2 A3 d.n0 c0 d.n1 c1 d.n2 c2 d.n3 c3 d.l d.p d.t)[o]?) ∧ (∀ o, w10.cell? ⟨γ, o, none⟩ = (planC (some ⟨a0, 0, none⟩) (some ⟨a1, 0, none⟩) (some ⟨a2, 0, none⟩) (some ⟨a3, 0, none⟩) d.n0 d.n0 d.n1 d.n1 d.n2 d.n2 d.n3 d.n3 d.l d.p d.t)[o]?) ∧ Below w10.heap.size w10 w10 := ⟨hC, hD, Below.refl _ _⟩
    clear hC hD
    go_region_held3 (fun w' => (∀ o, w'.cell? ⟨w.heap.size, o, none⟩ = (planC A0 A1 A2 A3 d.n0 c0 d.n1 c1 d.n2 c2 d.n3 c3 d.l d.p d.t)[o]?) ∧ (∀ o, w'.cell? ⟨γ, o, none⟩ = (planC (some ⟨a0, 0, none⟩) (some ⟨a1, 0, none⟩) (some ⟨a2, 0, none⟩) (some ⟨a3, 0, none⟩) d.n0 d.n0 d.n1 d.n1 d.n2 d.n2 d.n3 d.n3 d.l d.p d.t)[o]?) ∧ Below w10.heap.size w10 w')
      (first | exact S8 | exact S9 | exact S10 | (exact ⟨S8.1, S8.2.1, S8.2.2.drew⟩))
      (first
        | (go_at_call 10
           have K9 : Below w10.heap.size w10 w10.drew := (Below.refl _ _).drew
           refine (toPlan_any _ d _ ((H.out.below (X10.step K9).K (Nat.le_refl _)).more (X10.step K9).K.size) q0.out q1.out q2.out q3.out).mono ?_
           rintro e w11 ⟨z0, z1, z2, z3, rfl, N11, hb9⟩
           have K10 : Below w10.heap.size w10 w11 := K9.trans hb9
           have P11 := Lib.hid (N11.is B0.out B1.out B2.out B3.out)
           have S9 := And.intro (X10.step K10).C (And.intro (U10.step K10).C K10))
        | (go_at_call 13
           refine (eqPlan_same _ _ d _ ((P10.out.below K10 (Nat.le_refl _)).more K10.size) P11.out).mono ?_
           rintro e w12 ⟨rfl, hb10⟩
           have K11 : Below w10.heap.size w10 w12 := K10.trans (hb10.mono K10.size)
           have S10 := And.intro (X10.step K11).C (And.intro (U10.step K11).C K11)))
    have X12 := X10.step K11
    have Y12 := Y10.step K11
    have U12 := U10.step K11
    have V12 := V10.step K11
    have Z0 := Z0.go K11
    have Z1 := Z1.go K11
    have N12 := N10.below K11
    clear S8 S9 S10 K9 K10 K11 hb9 hb10 N10 N11 P10 P11 X10 Y10 U10 V10
    rename_i hHeld
    clear hHeld
    have hD := U12.C
    go_wp2_with fail
    -- the argument is marked
    refine (markPlan_any d a0 a1 a2 a3 w5 _ N12 q0.out q1.out q2.out q3.out).mono ?_
    rintro e w13 ⟨⟨kk, rfl⟩, hk⟩
    have X13 := X12.keeps hk (by rintro b ⟨hb1, _⟩; omega) (by rintro ⟨hb1, _⟩; omega)
    have Y13 := Y12.keeps hk (by rintro b ⟨hb1, _⟩; omega) (by rintro ⟨hb1, _⟩; omega)
    have V13 := V12.keeps hk (by rintro b ⟨hb1, _⟩; omega) (by rintro ⟨_, hb1⟩; omega)
    have Z0 := Z0.keeps hk (by rintro b _ hb2 ⟨hb1, _⟩; omega)
    have Z1 := Z1.keeps hk (by rintro b hb2 _ ⟨_, hb1⟩; omega)
    have kk0 : decide ((kk : Int) < 0) = false := by simp
    clear hD hk X12 Y12 U12 V12 N12
    have hD := Y13.C
    have hE := V13.C
    go_wp2_with fail
    refine (eqState_same _ _ s _ (Z1.is F.out) (Z0.is F.out)).mono ?_
    rintro e w14 ⟨rfl, hb⟩
    have X14 := X13.step hb
    have Y14 := Y13.step hb
    have V14 := V13.step hb
    have Z0 := Z0.go hb
    have Z1 := Z1.go hb
    clear hb X13 Y13 V13 kk0 hD hE
    have hE := V14.C
    go_wp2_with fail
    -- the answer is marked
    refine (markIn_any _ s _ _ 1 _ Z1 F.out (by omega) (by omega)).mono ?_
    rintro e w15 ⟨rfl, Z1, hk⟩
    have X15 := X14.keeps hk (by rintro b ⟨hb1, _⟩; omega) (by rintro ⟨hb1, _⟩; omega)
    have Y15 := Y14.keeps hk (by rintro b ⟨hb1, _⟩; omega) (by rintro ⟨hb1, _⟩; omega)
    have V15 := V14.keeps hk (by rintro b ⟨hb1, _⟩; omega) (by rintro ⟨_, hb1⟩; omega)
    have Z0 := Z0.keeps hk (by rintro b _ hb2 ⟨hb1, _⟩; omega)
    clear hk X14 Y14 V14 hE
    have hE := V15.C
    go_wp2_with fail
    refine (heldIn_any _ s _ _ 1 _ Z1 F.out (by omega) (by omega)).mono ?_
    rintro e w16 ⟨rfl, hb⟩
    have X16 := X15.step hb
    have Y16 := Y15.step hb
    have V16 := V15.step hb
    have Z0 := Z0.go hb
    have Z1 := Z1.go hb
    have n0 : ¬ ((1 : Int) + (totS s : Int) < 0) := by omega
    clear hb X15 Y15 V15 hE
    have hC := X16.C
    go_wp2_with fail
    -- once more, of another copy
    refine (toPlan_any _ d _ ((H.out.below X16.K (Nat.le_refl _)).more X16.K.size) q0.out q1.out q2.out q3.out).mono ?_
    rintro e w17 ⟨z0, z1, z2, z3, rfl, N17, hb⟩
    have X17 := X16.step hb
    have Y17 := Y16.step hb
    have V17 := V16.step hb
    have Z0 := Z0.go hb
    have Z1 := Z1.go hb
    have P17 := Lib.hid (N17.is B0.out B1.out B2.out B3.out)
    clear hC hb X16 Y16 V16 N17
    go_wp2_with fail
    refine (implNewState_any _ d _ P17.out).mono ?_
    rintro e w18 ⟨v2, rfl, O2, hb⟩
    rw [HS.out] at O2
    have X18 := X17.step hb
    have Y18 := Y17.step hb
    have V18 := V17.step hb
    have Z0 := Z0.go hb
    have Z1 := Z1.go hb
    have Z2 := RowsIn.of O2 hb.size
    obtain ⟨J0, J1, J2, J3, r0, r1, r2, r3, rfl⟩ := Z2.val
    clear hb X17 Y17 V17 P17 O2
    have hD := Y18.C
    have hz18 := Y18.z
    go_wp2_with fail
    have hb : Below w18.heap.size w18 _ := (Below.refl _ _).alloc (Nat.le_refl _) (.cells (stC J0 J1 J2 J3 s.pods.length r0 s.mnts.length r1 s.devs.length r2 s.lks.length r3 s.ph s.co s.ck s.bo s.ba s.lb s.gd s.pr) 45)
    have X19 := X18.step hb
    have V19 := V18.step hb
    have Z0 := Z0.go hb
    have Z1 := Z1.go hb
    have Z2 := Z2.go hb
    clear X18 Y18 V18 hD hb
    generalize hw19 : w18.alloc (.cells (stC J0 J1 J2 J3 s.pods.length r0 s.mnts.length r1 s.devs.length r2 s.lks.length r3 s.ph s.co s.ck s.bo s.ba s.lb s.gd s.pr) 45) = w19 at X19 V19 Z0 Z1 Z2 ⊢
    clear hw19
    refine (eqState_same _ _ s _ (Z2.is F.out) (Z0.is F.out)).mono ?_
    rintro e w20 ⟨rfl, hb⟩
    have X20 := X19.step hb
    have V20 := V19.step hb
    have Z1 := Z1.go hb
    clear hb X19 V19 Z0 Z2
    have hE := V20.C
    go_wp2_with fail
    refine (heldIn_any _ s _ _ 1 _ Z1 F.out (by omega) (by omega)).mono ?_
    rintro e w21 ⟨rfl, hb⟩
    have X21 := X20.step hb
    clear hb X20 hE
    go_wp2_with fail
    go_ret
    exact ⟨rfl, X21.K⟩
  · have e0 : szP d = -1 := if_neg hsz
    rw [e0]
    clear e0
    go_wp2_with fail
    go_ret
    exact ⟨rfl, X2.K⟩
end Go.Proofs.Ytaafbneaibklkaa
