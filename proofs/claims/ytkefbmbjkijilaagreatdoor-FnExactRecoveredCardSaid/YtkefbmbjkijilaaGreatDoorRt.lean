/-
  FnExactRecovered: the law's walk.
-/
import Derived.Test.YtkefbmbjkijilaaGreatDoorRs
set_option linter.unusedVariables false
namespace Go.Proofs.YtkefbmbjkijilaaGreatDoor
open Go.RowKit

set_option maxRecDepth 100000 in
set_option maxHeartbeats 16000000 in
theorem lawRecovered (pv bv : Value) (d : PlanD) (b : List Nat) (w : World) (hp : IsPlan w w.heap.size pv d) (hb : Bt w w.heap.size bv b) (N : Names w) :
    Calls Tryz.prog 5 #[pv, bv] w fun e w' => e = .returned (.bool true) ∧ Below w.heap.size w w' := by
  have H := Lib.hid hp
  have HN := Lib.hid N
  have HJ : Hid ((Tryz.prog.info? 48).map (·.size) = some 20) := Lib.hid (by kernel_rfl)
  obtain ⟨⟨A0, A1, A2, A3, c0, c1, c2, c3, rfl, -, -, -, -⟩, -, -, -, -⟩ := hp
  have HBB := Lib.hid hb
  have HSB := Lib.hid hb.small
  have HLB := Lib.hid hb.len
  obtain ⟨⟨Ab, cb, rfl, -, -⟩, -, -⟩ := hb
  clear N
  have X := Own.box w (planC A0 A1 A2 A3 d.n0 c0 d.n1 c1 d.n2 c2 d.n3 c3 d.l d.p d.t) 27
  go_enter Tryz.func5, Tryz.ntmps5
  have HLB2 := Lib.hid (Nat.le_trans HLB.out (show maxLen ≤ 2 ^ 63 - 1 by unfold maxLen; decide))
  by_cases hlb : b.length ≤ 1048576
  case neg =>
    have i1 : (1048576 : Int) < (b.length : Int) := by omega
    have i2 : decide ((1048576 : Int) < (b.length : Int)) = true := decide_eq_true i1
    go_wp2_with fail
    go_ret
    exact ⟨rfl, X.K⟩
  case pos =>
    have HBL := Lib.hid hlb
    have i1 : (b.length : Int) ≤ 1048576 := by omega
    clear hlb
    go_wp2_with fail
    generalize w.alloc (.cells (planC A0 A1 A2 A3 d.n0 c0 d.n1 c1 d.n2 c2 d.n3 c3 d.l d.p d.t) 27) = w1 at X ⊢
    refine (szPlan_any _ d w1 ((H.out.below X.K (Nat.le_refl _)).more X.K.size)).mono ?_
    rintro e w2 ⟨rfl, hb⟩
    clear i1
    replace X := X.step hb
    clear hb
    have hC := X.C
    by_cases hsz : d.n0 + d.n1 + d.n2 + d.n3 ≤ 1048576
    case neg =>
      have e0 : szP d = -1 := if_neg hsz
      rw [e0]
      clear e0
      go_wp2_with fail
      go_ret
      exact ⟨rfl, X.K⟩
    case pos =>
      have e0 : szP d = 1048576 - d.n0 - d.n1 - d.n2 - d.n3 := if_pos hsz
      have l0 : ¬ szP d < 0 := by omega
      clear e0
      generalize szP d = left at *
      have q0 : Hid (d.n0 ≤ 1048576) := Lib.hid (by omega)
      have q1 : Hid (d.n1 ≤ 1048576) := Lib.hid (by omega)
      have q2 : Hid (d.n2 ≤ 1048576) := Lib.hid (by omega)
      have q3 : Hid (d.n3 ≤ 1048576) := Lib.hid (by omega)
      have PF : Hid (PlFits d) := Lib.hid ⟨q0.out, q1.out, q2.out, q3.out⟩
      have PS : Hid ((1 + 4 * d.n0 + d.n1 + 2 * d.n2 + d.n3 : Int) ≤ 4194305) := Lib.hid (by omega)
      obtain ⟨D, T, B, TB, hrec⟩ : ∃ D T B TB, recovD d b = ((D, T, B), TB) := ⟨_, _, _, _, rfl⟩
      have HREC := Lib.hid hrec
      have FIT := Lib.hid (recov_fit hsz hrec)
      clear hrec hsz
      -- the model's answer
      go_wp2_with fail
      refine (toPlan_any _ d w2 ((H.out.below X.K (Nat.le_refl _)).more X.K.size) q0.out q1.out q2.out q3.out).mono ?_
      rintro e w3 ⟨f0, f1, f2, f3, rfl, N1, hb⟩
      clear hC
      replace X := X.step hb
      clear hb
      have P1 := Lib.hid (N1.isR PF.out)
      clear N1
      go_wp2_with fail
      refine (toByteS_any _ b w3 ((HBB.out.below X.K (Nat.le_refl _)).more X.K.size) HBL.out).mono ?_
      rintro e w3b ⟨j1, rfl, -, -, -, B1, hb⟩
      replace P1 := Lib.hid (P1.out.go hb)
      have BB1 := Lib.hid B1
      clear B1
      replace X := X.step hb
      clear hb
      go_wp2_with fail
      have hcall := (specRecovered_any _ _ d b w3b P1.out BB1.out (.inr ⟨_, _, _, rfl⟩) HBL.out)
      rw [HREC.out] at hcall
      refine hcall.mono ?_
      clear hcall P1 BB1
      rintro e w4 ⟨v0, rfl, OA, hb⟩
      have Z0 := OA.ins hb.size
      have hsm := OA.small
      obtain ⟨cs0, rfl, hsz9, hone9⟩ := OA.flat
      have SZ0 := Lib.hid hsz9
      have ONE0 := Lib.hid hone9
      have SMB := Lib.hid hsm
      have Z0l : w3b.heap.size ≤ w4.heap.size := hb.size
      clear OA hsz9 hone9 hsm
      replace X := X.step hb
      clear hb
      have lw0 : w.heap.size < w4.heap.size := X.z
      have hC := X.C
      have HB8 := heap_alloc_new w4 (.cells (agC (.slice none 0 0) (.slice none 0 0) (.slice none 0 0) (.slice none 0 0) 0 0 0 0 false 0 0 0 0 (.slice none 0 0) (.slice none 0 0) (.slice none 0 0) (.slice none 0 0) 0 0 (.slice none 0 0)) 48)
      have hA : Below w4.heap.size w4 (w4.alloc (.cells (agC (.slice none 0 0) (.slice none 0 0) (.slice none 0 0) (.slice none 0 0) 0 0 0 0 false 0 0 0 0 (.slice none 0 0) (.slice none 0 0) (.slice none 0 0) (.slice none 0 0) 0 0 (.slice none 0 0)) 48)) := (Below.refl _ _).alloc (Nat.le_refl _) _
      have hb := below_setRow hA (Nat.le_refl _) cs0
      have HG9 := setRow_heap _ _ _ cs0 _ _ HB8
      go_upto_region 8 with (
        (with_reducible refine store_agent (x := 6) (y := 31) (g := w4.heap.size) (cs := cs0) ?_ ?_ HB8 ?_ ?_ ?_ ?_)
        · rfl
        · rfl
        · rw [SZ0.out]; exact HJ.out
        · rw [SZ0.out]; rfl
        · exact ONE0.out)
      have HA4l : w4.heap.size < ((w4.alloc (.cells (agC (.slice none 0 0) (.slice none 0 0) (.slice none 0 0) (.slice none 0 0) 0 0 0 0 false 0 0 0 0 (.slice none 0 0) (.slice none 0 0) (.slice none 0 0) (.slice none 0 0) 0 0 (.slice none 0 0)) 48)).setRow w4.heap.size cs0).heap.size := (Array.getElem?_eq_some_iff.1 HG9).1
      replace X := X.step hb
      replace Z0 := Z0.go hb
      clear hb
      clear hA HB8
      generalize hw9 : (w4.alloc (.cells (agC (.slice none 0 0) (.slice none 0 0) (.slice none 0 0) (.slice none 0 0) 0 0 0 0 false 0 0 0 0 (.slice none 0 0) (.slice none 0 0) (.slice none 0 0) (.slice none 0 0) 0 0 (.slice none 0 0)) 48)).setRow w4.heap.size cs0 = w5 at X Z0 HG9 HA4l ⊢
      clear hw9
      have HA4 := HG9
      clear HG9
      clear hC
      have hC := X.C
      -- the program's arguments
      go_wp2_with fail
      refine (toPlan_any _ d w5 ((H.out.below X.K (Nat.le_refl _)).more X.K.size) q0.out q1.out q2.out q3.out).mono ?_
      rintro e w6 ⟨a0, a1, a2, a3, rfl, N, hb⟩
      clear hC
      replace X := X.step hb
      replace Z0 := Z0.go hb
      replace HA4 := (hb.block _ (Array.getElem?_eq_some_iff.1 HA4).1).trans HA4
      clear hb
      have la : w5.heap.size ≤ a0 ∧ a0 < a1 ∧ a1 < a2 ∧ a2 < a3 ∧ a3 < w6.heap.size := ⟨N.l0, N.l1, N.l2, N.l3, N.l4⟩
      have hb : Below w6.heap.size w6 (w6.alloc (.cells (planC (some ⟨a0, 0, none⟩) (some ⟨a1, 0, none⟩) (some ⟨a2, 0, none⟩) (some ⟨a3, 0, none⟩) d.n0 d.n0 d.n1 d.n1 d.n2 d.n2 d.n3 d.n3 d.l d.p d.t) 42)) := (Below.refl _ _).alloc (Nat.le_refl _) _
      have V6 := Own.box2 X.K (planC (some ⟨a0, 0, none⟩) (some ⟨a1, 0, none⟩) (some ⟨a2, 0, none⟩) (some ⟨a3, 0, none⟩) d.n0 d.n0 d.n1 d.n1 d.n2 d.n2 d.n3 d.n3 d.l d.p d.t) 42
      have l67 : w6.heap.size < (w6.alloc (.cells (planC (some ⟨a0, 0, none⟩) (some ⟨a1, 0, none⟩) (some ⟨a2, 0, none⟩) (some ⟨a3, 0, none⟩) d.n0 d.n0 d.n1 d.n1 d.n2 d.n2 d.n3 d.n3 d.l d.p d.t) 42)).heap.size := by rw [heap_size_alloc_]; omega
      replace X := X.step hb
      replace Z0 := Z0.go hb
      replace HA4 := (hb.block _ (Array.getElem?_eq_some_iff.1 HA4).1).trans HA4
      replace N := N.below hb
      clear hb
      have hC := X.C
      go_wp2_with fail
      generalize hw : w6.alloc (.cells (planC (some ⟨a0, 0, none⟩) (some ⟨a1, 0, none⟩) (some ⟨a2, 0, none⟩) (some ⟨a3, 0, none⟩) d.n0 d.n0 d.n1 d.n1 d.n2 d.n2 d.n3 d.n3 d.l d.p d.t) 42) = w7 at X Z0 HA4 N V6 l67 hC ⊢
      clear hw
      refine (toByteS_any _ b w7 ((HBB.out.below X.K (Nat.le_refl _)).more X.K.size) HBL.out).mono ?_
      rintro e w8 ⟨j2, rfl, hj0, hj1, RU, B2, hb⟩
      have U := RU.urow hj1
      have l78 : w7.heap.size ≤ w8.heap.size := hb.size
      clear RU hC
      replace X := X.step hb
      replace Z0 := Z0.go hb
      replace HA4 := (hb.block _ (Array.getElem?_eq_some_iff.1 HA4).1).trans HA4
      replace N := N.below hb
      replace V6 := V6.step hb
      clear hb
      have BB2 := Lib.hid B2
      clear B2
      have hV := V6.C
      have P2 := Lib.hid (N.isR PF.out)
      go_wp2_with fail
      have hcall := (implRecovered_any _ _ d b w8 P2.out BB2.out (.inr ⟨_, _, _, rfl⟩) HBL.out (HN.out.go X.K))
      rw [HREC.out] at hcall
      refine hcall.mono ?_
      clear hcall P2 hV BB2
      rintro e w9 ⟨v1, rfl, OA, hb⟩
      have Z1 := OA.ins hb.size
      have hsm := OA.small
      obtain ⟨cs1, rfl, hsz9, hone9⟩ := OA.flat
      have SZ1 := Lib.hid hsz9
      have ONE1 := Lib.hid hone9
      have SMB := Lib.hid hsm
      have Z1l : w8.heap.size ≤ w9.heap.size := hb.size
      clear OA hsz9 hone9 hsm
      replace X := X.step hb
      replace Z0 := Z0.go hb
      replace HA4 := (hb.block _ (Array.getElem?_eq_some_iff.1 HA4).1).trans HA4
      replace N := N.below hb
      replace V6 := V6.step hb
      replace U := U.go hb
      clear hb
      have HB8 := heap_alloc_new w9 (.cells (agC (.slice none 0 0) (.slice none 0 0) (.slice none 0 0) (.slice none 0 0) 0 0 0 0 false 0 0 0 0 (.slice none 0 0) (.slice none 0 0) (.slice none 0 0) (.slice none 0 0) 0 0 (.slice none 0 0)) 48)
      have hA : Below w9.heap.size w9 (w9.alloc (.cells (agC (.slice none 0 0) (.slice none 0 0) (.slice none 0 0) (.slice none 0 0) 0 0 0 0 false 0 0 0 0 (.slice none 0 0) (.slice none 0 0) (.slice none 0 0) (.slice none 0 0) 0 0 (.slice none 0 0)) 48)) := (Below.refl _ _).alloc (Nat.le_refl _) _
      have hb := below_setRow hA (Nat.le_refl _) cs1
      have HG9 := setRow_heap _ _ _ cs1 _ _ HB8
      go_upto_region 11 with (
        (with_reducible refine store_agent (x := 10) (y := 41) (g := w9.heap.size) (cs := cs1) ?_ ?_ HB8 ?_ ?_ ?_ ?_)
        · rfl
        · rfl
        · rw [SZ1.out]; exact HJ.out
        · rw [SZ1.out]; rfl
        · exact ONE1.out)
      have HA9l : w9.heap.size < ((w9.alloc (.cells (agC (.slice none 0 0) (.slice none 0 0) (.slice none 0 0) (.slice none 0 0) 0 0 0 0 false 0 0 0 0 (.slice none 0 0) (.slice none 0 0) (.slice none 0 0) (.slice none 0 0) 0 0 (.slice none 0 0)) 48)).setRow w9.heap.size cs1).heap.size := (Array.getElem?_eq_some_iff.1 HG9).1
      replace X := X.step hb
      replace Z0 := Z0.go hb
      replace HA4 := (hb.block _ (Array.getElem?_eq_some_iff.1 HA4).1).trans HA4
      replace N := N.below hb
      replace V6 := V6.step hb
      replace U := U.go hb
      replace Z1 := Z1.go hb
      clear hb
      clear hA HB8
      generalize hw9 : (w9.alloc (.cells (agC (.slice none 0 0) (.slice none 0 0) (.slice none 0 0) (.slice none 0 0) 0 0 0 0 false 0 0 0 0 (.slice none 0 0) (.slice none 0 0) (.slice none 0 0) (.slice none 0 0) 0 0 (.slice none 0 0)) 48)).setRow w9.heap.size cs1 = w10 at X Z0 HA4 N V6 U Z1 HG9 HA9l ⊢
      clear hw9
      have HA9 := HG9
      clear HG9
      -- the answers are alike
      go_wp2_with (first
        | ((with_reducible refine load_agentG (x := 10) (g := w9.heap.size) (cs := cs1) ?_ ?_ HA9 ?_ ?_)
           · rfl
           · rfl
           · rw [SZ1.out]; exact HJ.out)
        | ((with_reducible refine load_agentG (x := 6) (g := w4.heap.size) (cs := cs0) ?_ ?_ HA4 ?_ ?_)
           · rfl
           · rfl
           · rw [SZ0.out]; exact HJ.out))
      refine (eqAg_same _ _ D T B w10 (Z1.is FIT.out.1 FIT.out.2.1 (Nat.le_trans FIT.out.2.2.1 (by unfold maxLen; decide)) SMB.out) (Z0.is FIT.out.1 FIT.out.2.1 (Nat.le_trans FIT.out.2.2.1 (by unfold maxLen; decide)) SMB.out)).mono ?_
      rintro e w11 ⟨rfl, hb⟩
      replace X := X.step hb
      replace Z0 := Z0.go hb
      replace HA4 := (hb.block _ (Array.getElem?_eq_some_iff.1 HA4).1).trans HA4
      replace N := N.below hb
      replace V6 := V6.step hb
      replace U := U.go hb
      replace Z1 := Z1.go hb
      replace HA9 := (hb.block _ (Array.getElem?_eq_some_iff.1 HA9).1).trans HA9
      clear hb
      have hbb : (TB != TB) = false := by cases TB <;> rfl
      go_upto_region 13 with fail
      clear hbb
      refine wp_region_noPanic ?_
      refine wp_region_held_drew (S := (fun W => (∀ o, W.cell? ⟨w6.heap.size, o, none⟩ = (planC (some ⟨a0, 0, none⟩) (some ⟨a1, 0, none⟩) (some ⟨a2, 0, none⟩) (some ⟨a3, 0, none⟩) d.n0 d.n0 d.n1 d.n1 d.n2 d.n2 d.n3 d.n3 d.l d.p d.t)[o]?) ∧ (∀ o, W.cell? ⟨w.heap.size, o, none⟩ = (planC A0 A1 A2 A3 d.n0 c0 d.n1 c1 d.n2 c2 d.n3 c3 d.l d.p d.t)[o]?))) (by kernel_rfl) (⟨(V6.step (Below.refl _ _).drew).C, (X.step (Below.refl _ _).drew).C⟩) (fun _ => ?_)
      rw [← heap_drew w11] at HA4 HA9
      replace X := X.drew
      replace V6 := V6.drew
      replace Z0 := Z0.go (Below.refl _ _).drew
      replace Z1 := Z1.go (Below.refl _ _).drew
      replace N := N.below (Below.refl _ _).drew
      replace U := U.go (Below.refl _ _).drew
      generalize w11.drew = v0 at X V6 HA4 HA9 Z0 Z1 N U ⊢
      refine wpAnyH_take (i := 0) (v := ?_) rfl (by kernel_rfl) (by kernel_rfl) (by kernel_rfl) (fun _ _ _ h => h) (Or.inl ⟨by rfl, ?_⟩) ⟨V6.C, X.C⟩ ?_
      rotate_left 1
      · intro w hSw
        obtain ⟨hs1, hs2⟩ := hSw
        go_simp
        try with_reducible rfl
      change wpAnyH _ _ _ _ _ _ _ (Act.put _ (some 52) _) _
      simp only [Act.put, List.setIfInBounds_toArray, List.set_cons_zero, List.set_cons_succ]
      refine wpAnyH_take (i := 1) (v := ?_) rfl (by kernel_rfl) (by kernel_rfl) (by kernel_rfl) (fun _ _ _ h => h) (Or.inl ⟨by rfl, ?_⟩) ⟨V6.C, X.C⟩ ?_
      rotate_left 1
      · intro w hSw
        obtain ⟨hs1, hs2⟩ := hSw
        go_simp
        try with_reducible rfl
      change wpAnyH _ _ _ _ _ _ _ (Act.put _ (some 53) _) _
      simp only [Act.put, List.setIfInBounds_toArray, List.set_cons_zero, List.set_cons_succ]
      refine wpAnyH_ready (rs := [2]) (by kernel_rfl) (by simp) ?_
      refine AllReadyH.cons rfl (fun K' hK => ?_) AllReadyH.nil
      go_simp
      go_at_call 13
      refine (toPlan_any _ d v0 ((H.out.below X.K (Nat.le_refl _)).more X.K.size) q0.out q1.out q2.out q3.out).mono ?_
      rintro e v1 ⟨z0, z1, z2, z3, rfl, N3, hb⟩
      have P3 := N3.isR PF.out
      clear N3
      replace X := X.step hb
      replace V6 := V6.step hb
      replace HA4 := (hb.block _ (Array.getElem?_eq_some_iff.1 HA4).1).trans HA4
      replace HA9 := (hb.block _ (Array.getElem?_eq_some_iff.1 HA9).1).trans HA9
      replace Z0 := Z0.go hb
      replace Z1 := Z1.go hb
      replace N := N.below hb
      replace U := U.go hb
      clear hb
      go_wp2_with fail
      refine hK.out _ _ ⟨V6.C, X.C⟩ (fun _ => ?_)
      clear hK K'
      try (change wpAnyH _ _ _ _ _ _ _ (Act.put _ (some 54) _) _; simp only [Act.put, List.setIfInBounds_toArray, List.set_cons_zero, List.set_cons_succ])
      refine wpAnyH_ready (rs := [3]) (by kernel_rfl) (by simp) ?_
      refine AllReadyH.cons rfl (fun K' hK => ?_) AllReadyH.nil
      go_simp
      go_at_call 15
      refine (eqPlan_same _ _ d v1 (N.isR PF.out).is P3.is).mono ?_
      rintro e v2 ⟨rfl, hb⟩
      replace X := X.step hb
      replace V6 := V6.step hb
      replace HA4 := (hb.block _ (Array.getElem?_eq_some_iff.1 HA4).1).trans HA4
      replace HA9 := (hb.block _ (Array.getElem?_eq_some_iff.1 HA9).1).trans HA9
      replace Z0 := Z0.go hb
      replace Z1 := Z1.go hb
      replace N := N.below hb
      replace U := U.go hb
      clear hb P3
      go_wp2_with fail
      refine hK.out _ _ ⟨V6.C, X.C⟩ (fun _ => ?_)
      clear hK K'
      try (change wpAnyH _ _ _ _ _ _ _ (Act.put _ (some 55) _) _; simp only [Act.put, List.setIfInBounds_toArray, List.set_cons_zero, List.set_cons_succ])
      refine wpAnyH_take (i := 4) (v := ?_) rfl (by kernel_rfl) (by kernel_rfl) (by kernel_rfl) (fun _ _ _ h => h) (Or.inl ⟨by rfl, ?_⟩) ⟨V6.C, X.C⟩ ?_
      rotate_left 1
      · intro w hSw
        obtain ⟨hs1, hs2⟩ := hSw
        go_simp
        try with_reducible rfl
      change wpAnyH _ _ _ _ _ _ _ (Act.put _ (some 56) _) _
      simp only [Act.put, List.setIfInBounds_toArray, List.set_cons_zero, List.set_cons_succ]
      refine wpAnyH_done (by kernel_rfl) ?_ _
      refine NoPanic.normal ?_
      have hX9 := X.K
      go_wp2_with fail
      refine (toByteS_any _ b v2 ((HBB.out.below X.K (Nat.le_refl _)).more X.K.size) HBL.out).mono ?_
      rintro e w13 ⟨j3, rfl, -, -, -, B3, hb⟩
      clear hX9
      replace X := X.step hb
      replace Z0 := Z0.go hb
      replace HA4 := (hb.block _ (Array.getElem?_eq_some_iff.1 HA4).1).trans HA4
      replace N := N.below hb
      replace V6 := V6.step hb
      replace U := U.go hb
      replace Z1 := Z1.go hb
      replace HA9 := (hb.block _ (Array.getElem?_eq_some_iff.1 HA9).1).trans HA9
      clear hb
      go_wp2_with fail
      refine (eqByteS_same _ _ b w13 (U.bt HLB.out HSB.out) B3).mono ?_
      rintro e w14 ⟨rfl, hb⟩
      clear B3
      replace X := X.step hb
      replace Z0 := Z0.go hb
      replace HA4 := (hb.block _ (Array.getElem?_eq_some_iff.1 HA4).1).trans HA4
      replace N := N.below hb
      replace V6 := V6.step hb
      replace U := U.go hb
      replace Z1 := Z1.go hb
      replace HA9 := (hb.block _ (Array.getElem?_eq_some_iff.1 HA9).1).trans HA9
      clear hb
      have hV := V6.C
      go_wp2_with fail
      -- the arguments are marked
      refine (markPlan_num d a0 a1 a2 a3 _ _ N q0.out q1.out q2.out q3.out).mono ?_
      rintro e w15 ⟨rfl, hk⟩
      clear hV
      clear N V6
      replace X := X.keeps hk (by rintro b ⟨hb1, hb2⟩; omega) (by rintro ⟨hb1, hb2⟩; omega)
      replace Z0 := Z0.keeps hk (by rintro b p1 p2 ⟨hb1, hb2⟩; omega)
      replace HA4 := (hk.block _ (Array.getElem?_eq_some_iff.1 HA4).1 (by rintro ⟨hb1, hb2⟩; omega)).trans HA4
      replace U := U.keeps hk (by intro b hb; have hbk := blk_one hb; rintro ⟨hb1, hb2⟩; omega)
      replace Z1 := Z1.keeps hk (by rintro b p1 p2 ⟨hb1, hb2⟩; omega)
      replace HA9 := (hk.block _ (Array.getElem?_eq_some_iff.1 HA9).1 (by rintro ⟨hb1, hb2⟩; omega)).trans HA9
      clear hk
      have p0 : (0 : Int) ≤ 1 + 4 * d.n0 + d.n1 + 2 * d.n2 + d.n3 := by omega
      have p1 := PS.out
      generalize (1 + 4 * d.n0 + d.n1 + 2 * d.n2 + d.n3 : Int) = kk at p0 p1 ⊢
      go_wp2_with fail
      refine (markByteS_p _ b.length kk _ w15 U HBL.out p0 (by omega)).mono ?_
      rintro e w16 ⟨rfl, -, hk9⟩
      have hk : Keeps (fun x => x = j2) w15 w16 := hk9.mono fun x hx => blk_one hx
      clear hk9
      clear U
      replace X := X.keeps hk (by rintro b rfl; omega) (by rintro rfl; omega)
      replace Z0 := Z0.keeps hk (by rintro b p1 p2 rfl; omega)
      replace HA4 := (hk.block _ (Array.getElem?_eq_some_iff.1 HA4).1 (by rintro rfl; omega)).trans HA4
      replace Z1 := Z1.keeps hk (by rintro b p1 p2 rfl; omega)
      replace HA9 := (hk.block _ (Array.getElem?_eq_some_iff.1 HA9).1 (by rintro rfl; omega)).trans HA9
      clear hk
      have p2 : (0 : Int) ≤ kk + (b.length : Int) := by omega
      clear p0 p1
      generalize (kk + (b.length : Int) : Int) = kk at p2 ⊢
      have p0 := p2
      clear p2
      have p4 : ¬ (kk < 0) := by omega
      have p5 : decide (kk < 0) = false := by simp [p4]
      go_wp2_with (first
        | ((with_reducible refine load_agentG (x := 10) (g := w9.heap.size) (cs := cs1) ?_ ?_ HA9 ?_ ?_)
           · rfl
           · rfl
           · rw [SZ1.out]; exact HJ.out)
        | ((with_reducible refine load_agentG (x := 6) (g := w4.heap.size) (cs := cs0) ?_ ?_ HA4 ?_ ?_)
           · rfl
           · rfl
           · rw [SZ0.out]; exact HJ.out))
      refine (eqAg_same _ _ D T B _ (Z1.is FIT.out.1 FIT.out.2.1 (Nat.le_trans FIT.out.2.2.1 (by unfold maxLen; decide)) SMB.out) (Z0.is FIT.out.1 FIT.out.2.1 (Nat.le_trans FIT.out.2.2.1 (by unfold maxLen; decide)) SMB.out)).mono ?_
      rintro e w17 ⟨rfl, hb⟩
      clear p4 p5
      replace X := X.step hb
      replace Z0 := Z0.go hb
      replace HA4 := (hb.block _ (Array.getElem?_eq_some_iff.1 HA4).1).trans HA4
      replace Z1 := Z1.go hb
      replace HA9 := (hb.block _ (Array.getElem?_eq_some_iff.1 HA9).1).trans HA9
      clear hb
      have hbb : (TB != TB) = false := by cases TB <;> rfl
      go_wp2_with (first
        | ((with_reducible refine load_agentG (x := 10) (g := w9.heap.size) (cs := cs1) ?_ ?_ HA9 ?_ ?_)
           · rfl
           · rfl
           · rw [SZ1.out]; exact HJ.out))
      clear hbb
      -- the answer is marked
      refine (markAg_any _ D T B.length _ _ _ 1 _ Z1 FIT.out.1 FIT.out.2.1 FIT.out.2.2.1 (by omega) (by have := FIT.out.2.2.2; omega)).mono ?_
      rintro e w18 ⟨rfl, Zm, hk⟩
      clear Z1
      replace X := X.keeps hk (by rintro b ⟨hb1, hb2⟩; omega) (by rintro ⟨hb1, hb2⟩; omega)
      replace Z0 := Z0.keeps hk (by rintro b p1 p2 ⟨hb1, hb2⟩; omega)
      replace HA4 := (hk.block _ (Array.getElem?_eq_some_iff.1 HA4).1 (by rintro ⟨hb1, hb2⟩; omega)).trans HA4
      replace HA9 := (hk.block _ (Array.getElem?_eq_some_iff.1 HA9).1 (by rintro ⟨hb1, hb2⟩; omega)).trans HA9
      clear hk
      have Z1 := Zm
      clear Zm
      go_wp2_with (first
        | ((with_reducible refine load_agentG (x := 10) (g := w9.heap.size) (cs := cs1) ?_ ?_ HA9 ?_ ?_)
           · rfl
           · rfl
           · rw [SZ1.out]; exact HJ.out))
      refine (heldAg_any _ D T B.length _ _ 1 _ Z1 FIT.out.1 FIT.out.2.1 FIT.out.2.2.1 (by omega) (by have := FIT.out.2.2.2; omega)).mono ?_
      rintro e w19 ⟨rfl, hb⟩
      replace X := X.step hb
      replace Z0 := Z0.go hb
      replace HA4 := (hb.block _ (Array.getElem?_eq_some_iff.1 HA4).1).trans HA4
      replace HA9 := (hb.block _ (Array.getElem?_eq_some_iff.1 HA9).1).trans HA9
      replace Z1 := Z1.go hb
      clear hb
      have nn : ¬ ((1 : Int) + (totA D T B.length : Int) < 0) := by omega
      have hC := X.C
      -- once more, of other copies
      go_wp2_with fail
      refine (toPlan_any _ d w19 ((H.out.below X.K (Nat.le_refl _)).more X.K.size) q0.out q1.out q2.out q3.out).mono ?_
      rintro e w20 ⟨z0, z1, z2, z3, rfl, N4, hb⟩
      clear hC
      replace X := X.step hb
      replace Z0 := Z0.go hb
      replace HA4 := (hb.block _ (Array.getElem?_eq_some_iff.1 HA4).1).trans HA4
      replace HA9 := (hb.block _ (Array.getElem?_eq_some_iff.1 HA9).1).trans HA9
      replace Z1 := Z1.go hb
      clear hb
      have P4 := Lib.hid (N4.isR PF.out)
      clear N4
      go_wp2_with fail
      refine (toByteS_any _ b w20 ((HBB.out.below X.K (Nat.le_refl _)).more X.K.size) HBL.out).mono ?_
      rintro e w20b ⟨j4, rfl, -, -, -, B4, hb⟩
      replace P4 := Lib.hid (P4.out.go hb)
      have BB4 := Lib.hid B4
      clear B4
      replace X := X.step hb
      replace Z0 := Z0.go hb
      replace HA4 := (hb.block _ (Array.getElem?_eq_some_iff.1 HA4).1).trans HA4
      replace HA9 := (hb.block _ (Array.getElem?_eq_some_iff.1 HA9).1).trans HA9
      replace Z1 := Z1.go hb
      clear hb
      clear SMB
      go_wp2_with fail
      have hcall := (implRecovered_any _ _ d b w20b P4.out BB4.out (.inr ⟨_, _, _, rfl⟩) HBL.out (HN.out.go X.K))
      rw [HREC.out] at hcall
      refine hcall.mono ?_
      clear hcall P4 BB4
      rintro e w21 ⟨v2, rfl, OA, hb⟩
      have Z2 := OA.ins hb.size
      have hsm := OA.small
      obtain ⟨cs2, rfl, hsz9, hone9⟩ := OA.flat
      have SZ2 := Lib.hid hsz9
      have ONE2 := Lib.hid hone9
      have SMB := Lib.hid hsm
      have Z2l : w20b.heap.size ≤ w21.heap.size := hb.size
      clear OA hsz9 hone9 hsm
      replace X := X.step hb
      replace Z0 := Z0.go hb
      replace HA4 := (hb.block _ (Array.getElem?_eq_some_iff.1 HA4).1).trans HA4
      replace HA9 := (hb.block _ (Array.getElem?_eq_some_iff.1 HA9).1).trans HA9
      replace Z1 := Z1.go hb
      clear hb
      have HB8 := heap_alloc_new w21 (.cells (agC (.slice none 0 0) (.slice none 0 0) (.slice none 0 0) (.slice none 0 0) 0 0 0 0 false 0 0 0 0 (.slice none 0 0) (.slice none 0 0) (.slice none 0 0) (.slice none 0 0) 0 0 (.slice none 0 0)) 48)
      have hA : Below w21.heap.size w21 (w21.alloc (.cells (agC (.slice none 0 0) (.slice none 0 0) (.slice none 0 0) (.slice none 0 0) 0 0 0 0 false 0 0 0 0 (.slice none 0 0) (.slice none 0 0) (.slice none 0 0) (.slice none 0 0) 0 0 (.slice none 0 0)) 48)) := (Below.refl _ _).alloc (Nat.le_refl _) _
      have hb := below_setRow hA (Nat.le_refl _) cs2
      have HG9 := setRow_heap _ _ _ cs2 _ _ HB8
      go_upto_region 31 with (
        (with_reducible refine store_agent (x := 15) (y := 98) (g := w21.heap.size) (cs := cs2) ?_ ?_ HB8 ?_ ?_ ?_ ?_)
        · rfl
        · rfl
        · rw [SZ2.out]; exact HJ.out
        · rw [SZ2.out]; rfl
        · exact ONE2.out)
      have HA21l : w21.heap.size < ((w21.alloc (.cells (agC (.slice none 0 0) (.slice none 0 0) (.slice none 0 0) (.slice none 0 0) 0 0 0 0 false 0 0 0 0 (.slice none 0 0) (.slice none 0 0) (.slice none 0 0) (.slice none 0 0) 0 0 (.slice none 0 0)) 48)).setRow w21.heap.size cs2).heap.size := (Array.getElem?_eq_some_iff.1 HG9).1
      replace X := X.step hb
      replace Z0 := Z0.go hb
      replace HA4 := (hb.block _ (Array.getElem?_eq_some_iff.1 HA4).1).trans HA4
      replace HA9 := (hb.block _ (Array.getElem?_eq_some_iff.1 HA9).1).trans HA9
      replace Z1 := Z1.go hb
      replace Z2 := Z2.go hb
      clear hb
      clear hA HB8
      generalize hw9 : (w21.alloc (.cells (agC (.slice none 0 0) (.slice none 0 0) (.slice none 0 0) (.slice none 0 0) 0 0 0 0 false 0 0 0 0 (.slice none 0 0) (.slice none 0 0) (.slice none 0 0) (.slice none 0 0) 0 0 (.slice none 0 0)) 48)).setRow w21.heap.size cs2 = w22 at X Z0 HA4 HA9 Z1 Z2 HG9 HA21l ⊢
      clear hw9
      have HA21 := HG9
      clear HG9
      go_wp2_with (first
        | ((with_reducible refine load_agentG (x := 15) (g := w21.heap.size) (cs := cs2) ?_ ?_ HA21 ?_ ?_)
           · rfl
           · rfl
           · rw [SZ2.out]; exact HJ.out)
        | ((with_reducible refine load_agentG (x := 6) (g := w4.heap.size) (cs := cs0) ?_ ?_ HA4 ?_ ?_)
           · rfl
           · rfl
           · rw [SZ0.out]; exact HJ.out))
      refine (eqAg_same _ _ D T B w22 (Z2.is FIT.out.1 FIT.out.2.1 (Nat.le_trans FIT.out.2.2.1 (by unfold maxLen; decide)) SMB.out) (Z0.is FIT.out.1 FIT.out.2.1 (Nat.le_trans FIT.out.2.2.1 (by unfold maxLen; decide)) SMB.out)).mono ?_
      rintro e w23 ⟨rfl, hb⟩
      replace X := X.step hb
      replace Z0 := Z0.go hb
      replace HA4 := (hb.block _ (Array.getElem?_eq_some_iff.1 HA4).1).trans HA4
      replace HA9 := (hb.block _ (Array.getElem?_eq_some_iff.1 HA9).1).trans HA9
      replace Z1 := Z1.go hb
      replace Z2 := Z2.go hb
      replace HA21 := (hb.block _ (Array.getElem?_eq_some_iff.1 HA21).1).trans HA21
      clear hb
      have hbb : (TB != TB) = false := by cases TB <;> rfl
      go_wp2_with (first
        | ((with_reducible refine load_agentG (x := 10) (g := w9.heap.size) (cs := cs1) ?_ ?_ HA9 ?_ ?_)
           · rfl
           · rfl
           · rw [SZ1.out]; exact HJ.out))
      clear hbb
      refine (heldAg_any _ D T B.length _ _ 1 _ Z1 FIT.out.1 FIT.out.2.1 FIT.out.2.2.1 (by omega) (by have := FIT.out.2.2.2; omega)).mono ?_
      rintro e w24 ⟨rfl, hb⟩
      replace X := X.step hb
      replace Z0 := Z0.go hb
      replace HA4 := (hb.block _ (Array.getElem?_eq_some_iff.1 HA4).1).trans HA4
      replace HA9 := (hb.block _ (Array.getElem?_eq_some_iff.1 HA9).1).trans HA9
      replace Z1 := Z1.go hb
      replace Z2 := Z2.go hb
      replace HA21 := (hb.block _ (Array.getElem?_eq_some_iff.1 HA21).1).trans HA21
      clear hb
      go_wp2_with fail
      go_ret
      exact ⟨rfl, X.K⟩
end Go.Proofs.YtkefbmbjkijilaaGreatDoor
