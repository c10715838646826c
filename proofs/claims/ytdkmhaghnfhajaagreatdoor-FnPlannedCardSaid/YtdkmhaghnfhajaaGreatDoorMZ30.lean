/-
  FnPlanned's walk.
-/
import Derived.Test.YtdkmhaghnfhajaaGreatDoorMZxLa
import Derived.Test.YtdkmhaghnfhajaaGreatDoorMZxId
import Derived.Test.YtdkmhaghnfhajaaGreatDoorMZxOc
import Derived.Test.YtdkmhaghnfhajaaGreatDoorMZxJi
import Derived.Test.YtdkmhaghnfhajaaGreatDoorMZ14
import Derived.Test.YtdkmhaghnfhajaaGreatDoorMZ29
import Derived.Test.YtdkmhaghnfhajaaGreatDoorMZxXj
import Derived.Test.YtdkmhaghnfhajaaGreatDoorMZxDk
import Derived.Test.YtdkmhaghnfhajaaGreatDoorMZ0
import Derived.Deep.RegionHeld3
/- Lp -/
set_option linter.unusedVariables false
namespace Go.Proofs.YtdkmhaghnfhajaaGreatDoor
open Go.RowKit

theorem assert_00 (v : Value) (w : World) : (Instr.typeAssert (.iface 130 v) 127 130 true).run Tryz.prog w = .ok (.tuple #[v, .bool true]) w := by kernel_rfl
theorem assert_10 (v : Value) (w : World) : (Instr.typeAssert (.iface 132 v) 127 130 true).run Tryz.prog w = .ok (.tuple #[.agg #[.int .i64 0, .int .i64 0, .int .i64 0], .bool false]) w := by kernel_rfl
theorem assert_11 (v : Value) (w : World) : (Instr.typeAssert (.iface 132 v) 127 132 true).run Tryz.prog w = .ok (.tuple #[v, .bool true]) w := by kernel_rfl
theorem assert_20 (v : Value) (w : World) : (Instr.typeAssert (.iface 134 v) 127 130 true).run Tryz.prog w = .ok (.tuple #[.agg #[.int .i64 0, .int .i64 0, .int .i64 0], .bool false]) w := by kernel_rfl
theorem assert_21 (v : Value) (w : World) : (Instr.typeAssert (.iface 134 v) 127 132 true).run Tryz.prog w = .ok (.tuple #[.agg #[], .bool false]) w := by kernel_rfl
theorem assert_22 (v : Value) (w : World) : (Instr.typeAssert (.iface 134 v) 127 134 true).run Tryz.prog w = .ok (.tuple #[v, .bool true]) w := by kernel_rfl
theorem assert_30 (v : Value) (w : World) : (Instr.typeAssert (.iface 136 v) 127 130 true).run Tryz.prog w = .ok (.tuple #[.agg #[.int .i64 0, .int .i64 0, .int .i64 0], .bool false]) w := by kernel_rfl
theorem assert_31 (v : Value) (w : World) : (Instr.typeAssert (.iface 136 v) 127 132 true).run Tryz.prog w = .ok (.tuple #[.agg #[], .bool false]) w := by kernel_rfl
theorem assert_32 (v : Value) (w : World) : (Instr.typeAssert (.iface 136 v) 127 134 true).run Tryz.prog w = .ok (.tuple #[.agg #[.int .i64 0], .bool false]) w := by kernel_rfl
theorem assert_33 (v : Value) (w : World) : (Instr.typeAssert (.iface 136 v) 127 136 true).run Tryz.prog w = .ok (.tuple #[v, .bool true]) w := by kernel_rfl

set_option maxRecDepth 4000 in
set_option maxHeartbeats 8000000 in
theorem implPlanned_any (K O P S B : Addr) (pv sv : Value) (d : PlanD) (s : StD) (k a b : Int) (w : World) (hp : IsPlan w w.heap.size pv d) (hs : IsSt w w.heap.size sv s) (hE : Errs w K O P S B) :
    Calls Tryz.prog 40 #[pv, sv, .agg (ordC k a b)] w (RecsA w (plannedD d s k a b)) := by
  have HP := Lib.hid hp
  have HS := Lib.hid hs
  have HE := Lib.hid hE
  obtain ⟨⟨P0, P1, P2, P3, k0, k1, k2, k3, rfl, -, -, -, -⟩, b0, b1, b2, b3⟩ := hp
  obtain ⟨⟨A0, A1, A2, A3, c0, c1, c2, c3, rfl, -, -, -, -⟩, f0, f1, f2, f3⟩ := hs
  clear b0 b1 b2 b3 f0 f1 f2 f3 hE
  have T0 := TP.start w (planC P0 P1 P2 P3 d.n0 k0 d.n1 k1 d.n2 k2 d.n3 k3 d.l d.p d.t) (stC A0 A1 A2 A3 s.pods.length c0 s.mnts.length c1 s.devs.length c2 s.lks.length c3 s.ph s.co s.ck s.bo s.ba s.lb s.gd s.pr) (ordC k a b) 29 34 68
  obtain ⟨ans, hans⟩ : ∃ ans, plannedD d s k a b = ans := ⟨_, rfl⟩
  rw [hans]
  have HANS := Lib.hid hans
  clear hans
  go_enter Tryz.func40, Tryz.ntmps40
  go_wp2_with fail
  refine (implOrderOk_any k a b _).mono ?_
  rintro e w1 ⟨rfl, hb⟩
  have T1 := T0.step hb
  have hC := T1.A.C
  have hD := T1.Z.C
  have hE := T1.O.C
  clear hb T0
  cases ho : orderOkB k a b
  · have HO := Lib.hid ho
    clear ho
    have O9 : OR (w1.alloc (.cells #[] 52)) w.heap.size (.slice (some ⟨w1.heap.size, 0, none⟩) 0 0) [] := OR.empty T1.A.K.size
    have HO9 := Lib.hid O9
    have K9 := T1.A.K.alloc T1.A.K.size (.cells #[] 52)
    clear O9
    go_wp2
    all_goals (go_ret2; rw [← HANS.out, plannedD, HO.out, Bool.and_false, if_neg (by decide)]; exact ⟨_, rfl, HO9.out, K9⟩)
  · have HO := Lib.hid ho
    clear ho
    go_wp2_with fail
    refine (eventOf_any k a b _).mono ?_
    rintro e w2 ⟨v, hv, rfl, hb⟩
    have T2 := T1.step hb
    clear hb T1 hC hD hE
    cases v with
    | none =>
      exfalso
      cases hv with
      | n h =>
        have := HO.out
        have h0 : inB k 1 13 = false := by simp [inB]; omega
        simp [orderOkB, h0] at this
    | cmd x y z =>
      obtain ⟨hk, hq⟩ := evOf_ok hv (by simp)
      dsimp only [evO] at hk hq
      rw [HO.out] at hq
      simp only [Bool.true_eq, Bool.and_eq_true, beq_iff_eq] at hq
      obtain ⟨-, hy, hz⟩ := hq
      have HP2 : Hid (ans = if stOkB d s then commandD d s k a b else noR 1) := Lib.hid (by
        rw [← HANS.out, plannedD, HO.out, Bool.and_true]
        have h11 : k ≠ 11 ∧ k ≠ 12 ∧ k ≠ 13 := by
          cases hv <;> omega
        rw [planD, if_neg h11.1, if_neg h11.2.1, if_neg h11.2.2])
      subst hk hy hz
      clear hv HANS HO
      have a0 := fun v w => assert_00 v w
      unfold evV
      dsimp only
      go_upto_region 5 with fail
      have X := Own.box2 T2.A.K (ordC x y z) 130
      have T3 := T2.step ((Below.refl _ _).alloc (Nat.le_refl _) (.cells (ordC x y z) 130))
      generalize w2.alloc (.cells (ordC x y z) 130) = w3 at X T3 ⊢
      generalize w2.heap.size = g at X ⊢
      have hC := T3.A.C
      have hD := T3.Z.C
      have hX := X.C
      go_wp2_with fail
      have hall := implCommanded_any K O P S B _ _ d s x y z _ ((HP.out.below T3.A.K (Nat.le_refl _)).more T3.A.K.size) ((HS.out.below T3.A.K (Nat.le_refl _)).more T3.A.K.size) (HE.out.below T3.A.K)
      rw [← HP2.out] at hall
      refine hall.mono ?_
      clear hall hC hD hX
      rintro e w9 hR
      obtain ⟨v9, rfl, O9, K9⟩ := hR.back T3.A.K
      go_wp2
      all_goals (go_ret2; exact ⟨v9, rfl, O9, K9⟩)
    | tick =>
      obtain ⟨hk, hq⟩ := evOf_ok hv (by simp)
      dsimp only [evO] at hk hq
      rw [HO.out] at hq
      simp only [Bool.true_eq, Bool.and_eq_true, beq_iff_eq] at hq
      obtain ⟨-, hy, hz⟩ := hq
      have HP2 : Hid (ans = if stOkB d s then tickD d s else noR 1) := Lib.hid (by
        rw [← HANS.out, plannedD, HO.out, Bool.and_true]
        rw [planD, if_pos hk.symm])
      clear hk hy hz
      clear hv HANS HO
      have a0 := fun v w => assert_10 v w
      have a1 := fun v w => assert_11 v w
      unfold evV
      dsimp only
      go_upto_region 8 with fail
      have X := Own.box2 T2.A.K (#[]) 132
      have T3 := T2.step ((Below.refl _ _).alloc (Nat.le_refl _) (.cells (#[]) 132))
      generalize w2.alloc (.cells (#[]) 132) = w3 at X T3 ⊢
      generalize w2.heap.size = g at X ⊢
      have hC := T3.A.C
      have hD := T3.Z.C
      have hX := X.C
      go_wp2_with fail
      have hall := implTickRecs_any _ _ d s _ ((HP.out.below T3.A.K (Nat.le_refl _)).more T3.A.K.size) ((HS.out.below T3.A.K (Nat.le_refl _)).more T3.A.K.size)
      rw [← HP2.out] at hall
      refine hall.mono ?_
      clear hall hC hD hX
      rintro e w9 hR
      obtain ⟨v9, rfl, O9, K9⟩ := hR.back T3.A.K
      go_wp2
      all_goals (go_ret2; exact ⟨v9, rfl, O9, K9⟩)
    | boot x =>
      obtain ⟨hk, hq⟩ := evOf_ok hv (by simp)
      dsimp only [evO] at hk hq
      rw [HO.out] at hq
      simp only [Bool.true_eq, Bool.and_eq_true, beq_iff_eq] at hq
      obtain ⟨-, hy, hz⟩ := hq
      have HP2 : Hid (ans = if stOkB d s then bootD d s x else noR 1) := Lib.hid (by
        rw [← HANS.out, plannedD, HO.out, Bool.and_true]
        subst hy
        rw [planD, if_neg (show ¬ k = 11 by omega), if_pos hk.symm])
      clear hk hy hz
      clear hv HANS HO
      have a0 := fun v w => assert_20 v w
      have a1 := fun v w => assert_21 v w
      have a2 := fun v w => assert_22 v w
      unfold evV
      dsimp only
      go_upto_region 11 with fail
      have X := Own.box2 T2.A.K (#[.int .i64 x]) 134
      have T3 := T2.step ((Below.refl _ _).alloc (Nat.le_refl _) (.cells (#[.int .i64 x]) 134))
      generalize w2.alloc (.cells (#[.int .i64 x]) 134) = w3 at X T3 ⊢
      generalize w2.heap.size = g at X ⊢
      have hC := T3.A.C
      have hD := T3.Z.C
      have hX := X.C
      go_wp2_with fail
      have hall := implBootRecs_any _ _ d s x _ ((HP.out.below T3.A.K (Nat.le_refl _)).more T3.A.K.size) ((HS.out.below T3.A.K (Nat.le_refl _)).more T3.A.K.size)
      rw [← HP2.out] at hall
      refine hall.mono ?_
      clear hall hC hD hX
      rintro e w9 hR
      obtain ⟨v9, rfl, O9, K9⟩ := hR.back T3.A.K
      go_wp2
      all_goals (go_ret2; exact ⟨v9, rfl, O9, K9⟩)
    | probe b_g =>
      obtain ⟨hk, hq⟩ := evOf_ok hv (by simp)
      dsimp only [evO] at hk hq
      rw [HO.out] at hq
      simp only [Bool.true_eq, Bool.and_eq_true, beq_iff_eq] at hq
      obtain ⟨-, hy, hz⟩ := hq
      have HP2 : Hid (ans = if stOkB d s then probeD d s b_g else noR 1) := Lib.hid (by
        rw [← HANS.out, plannedD, HO.out, Bool.and_true]
        have hg : (a == 1) = b_g := by
          rw [← hy]
          cases b_g <;> rfl
        rw [planD, if_neg (show ¬ k = 11 by omega), if_neg (show ¬ k = 12 by omega), if_pos hk.symm, hg])
      clear hk hy hz
      clear hv HANS HO
      have a0 := fun v w => assert_30 v w
      have a1 := fun v w => assert_31 v w
      have a2 := fun v w => assert_32 v w
      have a3 := fun v w => assert_33 v w
      unfold evV
      dsimp only
      go_upto_region 14 with fail
      have X := Own.box2 T2.A.K (#[.bool b_g]) 136
      have T3 := T2.step ((Below.refl _ _).alloc (Nat.le_refl _) (.cells (#[.bool b_g]) 136))
      generalize w2.alloc (.cells (#[.bool b_g]) 136) = w3 at X T3 ⊢
      generalize w2.heap.size = g at X ⊢
      have hC := T3.A.C
      have hD := T3.Z.C
      have hX := X.C
      go_wp2_with fail
      have hall := implProbeRecs_any _ _ d s b_g _ ((HP.out.below T3.A.K (Nat.le_refl _)).more T3.A.K.size) ((HS.out.below T3.A.K (Nat.le_refl _)).more T3.A.K.size)
      rw [← HP2.out] at hall
      refine hall.mono ?_
      clear hall hC hD hX
      rintro e w9 hR
      obtain ⟨v9, rfl, O9, K9⟩ := hR.back T3.A.K
      go_wp2
      all_goals (go_ret2; exact ⟨v9, rfl, O9, K9⟩)
end Go.Proofs.YtdkmhaghnfhajaaGreatDoor
/- Lf -/
set_option linter.unusedVariables false
namespace Go.Proofs.YtdkmhaghnfhajaaGreatDoor
open Go.RowKit

set_option maxRecDepth 100000 in
set_option maxHeartbeats 4000000 in
theorem lawPlannedF (K_ O_ P_ S_ B_ : Addr) (A : Option Addr) (n c : Nat) (w : World) (hE : Errs w K_ O_ P_ S_ B_) (hN : Names w) (hB : Bytes w w.heap.size A n) (hn : n ≤ maxLen) : Calls Tryz.prog 8 #[.slice A n c] w fun e w' => e = .returned (.bool true) ∧ Below w.heap.size w w' := by
  have HB := Lib.hid hB
  have HN := Lib.hid hN
  have HE := Lib.hid hE
  clear hB hN hE
  go_enter Tryz.func8, Tryz.ntmps8
  go_wp2_with fail
  refine (big_any A n c _ hn).mono ?_
  rintro e w2 ⟨rfl, rfl⟩
  by_cases hbig : 4096 < (n : Int)
  · go_wp2_with fail
    go_ret
    exact ⟨rfl, Below.refl _ _⟩
  · have hn4 : n ≤ 4096 := by omega
    clear hbig
    go_wp2_with fail
    refine (drawPlanned_any A n c _ HB.out hn4).mono ?_
    rintro e w3 ⟨v0, v1, v2, v3, d, vs, s, xk, xa, xb, rfl, L, Os, hd, hs, K⟩
    obtain ⟨V0, C0, rfl, -, -⟩ := L.o0.formR
    obtain ⟨V1, C1, rfl, -, -⟩ := L.o1.formR
    obtain ⟨V2, C2, rfl, -, -⟩ := L.o2.formR
    obtain ⟨V3, C3, rfl, -, -⟩ := L.o3.formR
    obtain ⟨y0, y1, y2, y3, rfl, -⟩ := Os.it
    obtain ⟨⟨E0, k0, rfl⟩, ⟨E1, k1, rfl⟩, ⟨E2, k2, rfl⟩, ⟨E3, k3, rfl⟩⟩ := Os.shapes
    have hf : StFits s 1048576 := ⟨by have := hs.s0; omega, by have := hs.s1; omega, by have := hs.s2; omega, by have := hs.s3; omega⟩
    go_upto_region 4 with fail
    have hK0 : Below w3.heap.size w3 w3 := Below.refl _ _
    have XP := Own.box2 K (planC V0 V1 V2 V3 d.n0 C0 d.n1 C1 d.n2 C2 d.n3 C3 d.l d.p d.t) 29
    have hK1 := hK0.alloc hK0.size (.cells (planC V0 V1 V2 V3 d.n0 C0 d.n1 C1 d.n2 C2 d.n3 C3 d.l d.p d.t) 29)
    have XS := Own.box2 (K.trans (hK1.mono K.size)) (stC E0 E1 E2 E3 s.pods.length k0 s.mnts.length k1 s.devs.length k2 s.lks.length k3 s.ph s.co s.ck s.bo s.ba s.lb s.gd s.pr) 34
    have hK2 := hK1.alloc hK1.size (.cells (stC E0 E1 E2 E3 s.pods.length k0 s.mnts.length k1 s.devs.length k2 s.lks.length k3 s.ph s.co s.ck s.bo s.ba s.lb s.gd s.pr) 34)
    replace XP := XP.alloc (.cells (stC E0 E1 E2 E3 s.pods.length k0 s.mnts.length k1 s.devs.length k2 s.lks.length k3 s.ph s.co s.ck s.bo s.ba s.lb s.gd s.pr) 34)
    have XO := Own.box2 (K.trans (hK2.mono K.size)) (ordC xk xa xb) 68
    have hK3 := hK2.alloc hK2.size (.cells (ordC xk xa xb) 68)
    replace XP := XP.alloc (.cells (ordC xk xa xb) 68)
    replace XS := XS.alloc (.cells (ordC xk xa xb) 68)
    have hb := hK3
    replace K := K.trans (hb.mono K.size)
    replace L := L.below hb
    replace Os := Os.below hb
    clear hb hK0 hK1 hK2 hK3
    try rw [heap_size_alloc_] at XS
    try rw [heap_size_alloc_ , heap_size_alloc_] at XO
    generalize (((w3.alloc (.cells (planC V0 V1 V2 V3 d.n0 C0 d.n1 C1 d.n2 C2 d.n3 C3 d.l d.p d.t) 29)).alloc (.cells (stC E0 E1 E2 E3 s.pods.length k0 s.mnts.length k1 s.devs.length k2 s.lks.length k3 s.ph s.co s.ck s.bo s.ba s.lb s.gd s.pr) 34)).alloc (.cells (ordC xk xa xb) 68)) = w4 at K L Os XP XS XO ⊢
    generalize hw3 : w3.heap.size = b3 at XP XS XO ⊢
    obtain ⟨l, cd, hx⟩ : ∃ l cd, plannedD d s xk xa xb = (l, cd) := by
      generalize plannedD d s xk xa xb = q
      exact ⟨q.1, q.2, rfl⟩
    have HX := Lib.hid hx
    have HG := Lib.hid (planned_good (d := d) (s := s) hx)
    clear hx
    have h1 := XP.C
    have h2 := XS.C
    have h3 := XO.C
    go_wp2_with fail
    have hall := implPlanned_any K_ O_ P_ S_ B_ _ _ d s xk xa xb w4 L.plan Os.st (HE.out.below K)
    rw [HX.out] at hall
    refine hall.mono ?_
    rintro e w5 ⟨v, rfl, O1, hb⟩
    dsimp only at O1 ⊢
    clear hall h1 h2 h3
    replace K := K.trans (hb.mono K.size)
    replace L := L.below hb
    replace Os := Os.below hb
    replace XP := XP.step hb
    replace XS := XS.step hb
    replace XO := XO.step hb
    clear hb
    have h1 := XP.C
    have h2 := XS.C
    have h3 := XO.C
    go_wp2_with fail
    have hall := planned_any _ _ d s xk xa xb w5 L.plan Os.st
    rw [HX.out] at hall
    refine hall.mono ?_
    rintro e w6 ⟨v', rfl, O2, hb⟩
    dsimp only at O2 ⊢
    clear hall h1 h2 h3
    replace K := K.trans (hb.mono K.size)
    replace L := L.below hb
    replace Os := Os.below hb
    replace XP := XP.step hb
    replace XS := XS.step hb
    replace XO := XO.step hb
    replace O1 := O1.below hb
    clear hb
    go_wp2_with fail
    refine (drawOrderOk_any A n c _ ((HB.out.below K (Nat.le_refl _)).more K.size) hn4).mono ?_
    rintro e w7 ⟨ek, ea, eb, rfl, hb⟩
    replace K := K.trans (hb.mono K.size)
    replace L := L.below hb
    replace Os := Os.below hb
    replace XP := XP.step hb
    replace XS := XS.step hb
    replace XO := XO.step hb
    replace O1 := O1.below hb
    replace O2 := O2.below hb
    clear hb
    go_upto_region 7 with fail
    have hK0 : Below w7.heap.size w7 w7 := Below.refl _ _
    have XE := Own.box2 K (ordC ek ea eb) 68
    have hK1 := hK0.alloc hK0.size (.cells (ordC ek ea eb) 68)
    have hb := hK1
    replace K := K.trans (hb.mono K.size)
    replace L := L.below hb
    replace Os := Os.below hb
    replace XP := XP.step hb
    replace XS := XS.step hb
    replace XO := XO.step hb
    replace O1 := O1.below hb
    replace O2 := O2.below hb
    clear hb hK0 hK1
    generalize (w7.alloc (.cells (ordC ek ea eb) 68)) = w8 at K L Os XP XS XO O1 O2 XE ⊢
    generalize hw7 : w7.heap.size = b7 at XE ⊢
    have S0 : (∀ o, w8.cell? ⟨b7, o, none⟩ = (ordC ek ea eb)[o]?) ∧ Below w8.heap.size w8 w8 := ⟨XE.C, Below.refl _ _⟩
    obtain ⟨oq, hoq⟩ : ∃ oq, orderOkB ek ea eb = oq := ⟨_, rfl⟩
    have HOQ := Lib.hid hoq
    clear hoq
    go_region_held3 (fun W => (∀ o, W.cell? ⟨b7, o, none⟩ = (ordC ek ea eb)[o]?) ∧ Below w8.heap.size w8 W)
      (first | exact S0 | exact S1 | exact S2 | exact S3 | (exact ⟨S0.1, S0.2.drew⟩))
      (first
        | (go_at_call 44
           have hq := S2
           clear hq
           have hcall := orderOk_any ek ea eb w9b
           rw [HOQ.out] at hcall
           refine hcall.mono ?_
           clear hcall
           rintro e w9c ⟨rfl, hb3⟩
           have K3 := K2.trans (hb3.mono K2.size)
           have S3 : (∀ o, w9c.cell? ⟨b7, o, none⟩ = (ordC ek ea eb)[o]?) ∧ Below w8.heap.size w8 w9c := ⟨(XE.step K3).C, K3⟩)
        | (go_at_call 43
           have hq := S1
           clear hq
           have hcall := implOrderOk_any ek ea eb w9a
           rw [HOQ.out] at hcall
           refine hcall.mono ?_
           clear hcall
           rintro e w9b ⟨rfl, hb2⟩
           have K2 := K1.trans (hb2.mono K1.size)
           have S2 : (∀ o, w9b.cell? ⟨b7, o, none⟩ = (ordC ek ea eb)[o]?) ∧ Below w8.heap.size w8 w9b := ⟨(XE.step K2).C, K2⟩)
        | (go_at_call 13
           have Kd : Below w8.heap.size w8 w8.drew := (Below.refl _ _).drew
           refine (likeRecs_same _ _ l _ (O1.below Kd).rt (O2.below Kd).rt).mono ?_
           rintro e w9a ⟨rfl, hb1⟩
           have K1 := Kd.trans (hb1.mono Kd.size)
           have S1 : (∀ o, w9a.cell? ⟨b7, o, none⟩ = (ordC ek ea eb)[o]?) ∧ Below w8.heap.size w8 w9a := ⟨(XE.step K1).C, K1⟩))
    have hb := K3
    clear S0 S1 S2 S3 Kd K1 K2 K3 hb1 hb2 hb3
    replace K := K.trans (hb.mono K.size)
    replace L := L.below hb
    replace Os := Os.below hb
    replace XP := XP.step hb
    replace XS := XS.step hb
    replace XO := XO.step hb
    replace O1 := O1.below hb
    replace O2 := O2.below hb
    replace XE := XE.step hb
    clear hb O2 XE
    obtain ⟨AL, CL, sl, rfl, -⟩ := O1.open_
    have hlb : l.length ≤ 2 ^ 63 - 1 := by have := O1.len; unfold maxLen at this; omega
    rcases HG.out with ⟨h0, hok, hcase⟩ | ⟨h0, hl⟩
    case inr =>
      have HL : Hid (l.length = 0) := Lib.hid (by rw [hl]; rfl)
      have hc1 : (cd != 0) = true := by simpa using h0
      have hl0 : (l.length : Int) = 0 := by have := HL.out; omega
      clear h0 hl
      go_wp2
      all_goals (go_ret; exact ⟨ret_bool (by simp), K⟩)
    case inl =>
      subst h0
      have HOK := Lib.hid hok
      clear hok
      have h1 := XP.C
      have h2 := XS.C
      have h3 := XO.C
      rcases hcase with ⟨hk13, hpt⟩ | ⟨hno, x, hx1, hx2, hfx⟩
      · subst hk13
        have hge : decide (s.pr ≥ d.t) = true := by simpa using hpt
        have hge2 : decide (d.t ≤ s.pr) = true := by simpa using hpt
        clear hpt
        go_wp2_with fail
        have hall := implOrderOk_any 13 xa xb w9c
        rw [HOK.out] at hall
        refine hall.mono ?_
        clear hall
        rintro e we ⟨rfl, hb⟩
        go_wp2
        go_ret
        exact ⟨rfl, K.trans (hb.mono K.size)⟩
      · have HX1 := Lib.hid hx1
        have HSO := Lib.hid (stOkB_iff.2 hx2)
        have HNO : Hid ((xk == 13 && decide (d.t ≤ s.pr)) = false) := Lib.hid (by
          by_cases h : xk = 13
          · have : ¬ d.t ≤ s.pr := fun h' => hno ⟨h, h'⟩
            simp [this]
          · simp [h])
        have hno2 : (xk == 13) = false ∨ ((xk == 13) = true ∧ decide (d.t ≤ s.pr) = false) := by
          by_cases h : xk = 13
          · exact .inr ⟨by simp [h], by simpa using fun h' => hno ⟨h, h'⟩⟩
          · exact .inl (by simp [h])
        clear hx1 hx2 hno HNO
        rcases hno2 with hn1 | ⟨hn1, hn2⟩
        all_goals
          try have hn3 : decide (s.pr ≥ d.t) = false := hn2
          go_wp2_with fail
          have hall := implAll_any _ _ _ d s l w9c L.plan (Os.isR hf) O1.rt (HN.out.go K)
          rw [HX1.out] at hall
          refine hall.mono ?_
          rintro e w10 ⟨vx, rfl, Ox, hb⟩
          try clear hn2 hn3
          clear hall h1 h2 h3 hn1
          replace K := K.trans (hb.mono K.size)
          replace L := L.below hb
          replace Os := Os.below hb
          replace XP := XP.step hb
          replace XS := XS.step hb
          replace XO := XO.step hb
          replace O1 := O1.below hb
          clear hb
          obtain ⟨y0, y1, y2, y3, rfl, -⟩ := Ox.it
          obtain ⟨⟨X0, m0, rfl⟩, ⟨X1, m1, rfl⟩, ⟨X2, m2, rfl⟩, ⟨X3, m3, rfl⟩⟩ := Ox.shapes
          go_upto_region 14 with fail
          have hK0 : Below w10.heap.size w10 w10 := Below.refl _ _
          have XX := Own.box2 K (stC X0 X1 X2 X3 x.pods.length m0 x.mnts.length m1 x.devs.length m2 x.lks.length m3 x.ph x.co x.ck x.bo x.ba x.lb x.gd x.pr) 34
          have hK1 := hK0.alloc hK0.size (.cells (stC X0 X1 X2 X3 x.pods.length m0 x.mnts.length m1 x.devs.length m2 x.lks.length m3 x.ph x.co x.ck x.bo x.ba x.lb x.gd x.pr) 34)
          have hb := hK1
          replace K := K.trans (hb.mono K.size)
          replace L := L.below hb
          replace Os := Os.below hb
          replace XP := XP.step hb
          replace XS := XS.step hb
          replace XO := XO.step hb
          replace O1 := O1.below hb
          replace Ox := Ox.below hb
          clear hb hK0 hK1
          generalize (w10.alloc (.cells (stC X0 X1 X2 X3 x.pods.length m0 x.mnts.length m1 x.devs.length m2 x.lks.length m3 x.ph x.co x.ck x.bo x.ba x.lb x.gd x.pr) 34)) = w11 at K L Os XP XS XO O1 Ox XX ⊢
          generalize hw10 : w10.heap.size = b10 at XX ⊢
          have h1 := XP.C
          have h2 := XX.C
          have h3 := XO.C
          go_wp2_with fail
          refine (implStateOk_any _ _ d x _ L.plan Ox.st).mono ?_
          rintro e w12 ⟨rfl, hb⟩
          rw [HSO.out]
          clear h1 h2 h3
          replace K := K.trans (hb.mono K.size)
          replace L := L.below hb
          replace Os := Os.below hb
          replace XP := XP.step hb
          replace XS := XS.step hb
          replace XO := XO.step hb
          replace O1 := O1.below hb
          replace Ox := Ox.below hb
          replace XX := XX.step hb
          clear hb
          have h3 := XO.C
          go_wp2_with fail
          have hall := implOrderOk_any xk xa xb w12
          rw [HOK.out] at hall
          refine hall.mono ?_
          clear hall
          rintro e we ⟨rfl, hb⟩
          go_wp2
          go_ret
          exact ⟨rfl, K.trans (hb.mono K.size)⟩
end Go.Proofs.YtdkmhaghnfhajaaGreatDoor
