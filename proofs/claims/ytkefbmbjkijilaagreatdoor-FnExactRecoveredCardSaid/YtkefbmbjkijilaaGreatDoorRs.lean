/-
  FnExactNewAgent: the law's walk.
-/
import Derived.Test.YtkefbmbjkijilaaGreatDoorRq
import Derived.Test.YtkefbmbjkijilaaGreatDoorRo
import Derived.Test.YtkefbmbjkijilaaGreatDoorMZ19
set_option linter.unusedVariables false
namespace Go.Proofs.YtkefbmbjkijilaaGreatDoor
open Go.RowKit

theorem OwnAg.small {w : World} {B : Nat} {v : Value} {d : PlanD} {s : StD} {st : List Nat} (h : OwnAg w B v d s st) : SmallB st := by
  obtain ⟨p0, p1, p2, p3, s0, s1, s2, s3, b, hv, h0, h1, h2, h4⟩ := h.it
  exact h2.small
/-- What comes back is small. -/
theorem recov_fit {d : PlanD} {b : List Nat} {D : PlanD} {T : StD} {B : List Nat} {ok : Bool} (hd : d.n0 + d.n1 + d.n2 + d.n3 ≤ 1048576) (h : recovD d b = ((D, T, B), ok)) : PlFits D ∧ StFits T 1048576 ∧ B.length ≤ 1048576 ∧ (totA D T B.length : Int) ≤ 4300000 := by
  have zz : (zeroP, zeroS, ([] : List Nat)) = (D, T, B) → PlFits D ∧ StFits T 1048576 ∧ B.length ≤ 1048576 ∧ (totA D T B.length : Int) ≤ 4300000 := fun e => by
    cases e
    exact ⟨⟨by decide, by decide, by decide, by decide⟩, ⟨by decide, by decide, by decide, by decide⟩, by decide, by decide⟩
  cases hok : planOkB d with
  | false =>
    rw [recov_bad hok] at h
    injection h with h1 h2
    exact zz h1
  | true =>
    by_cases hn : (framesN b).2 ≤ 1200
    · obtain ⟨x, bx, hr⟩ : ∃ x bx, replayD d (framesN b).1 = (x, bx) := ⟨_, _, rfl⟩
      cases bx with
      | false =>
        rw [recov_replay_no hr] at h
        injection h with h1 h2
        exact zz h1
      | true =>
        obtain ⟨e, hs⟩ := recov_replay hok hn hr
        rw [e] at h
        injection h with h1 h2
        injection h1 with h3 h4
        injection h4 with h5 h6
        subst h3 h5 h6
        have hl : (b.take (framesN b).2).length ≤ 1200 := by rw [List.length_take]; omega
        have := st_small hs
        refine ⟨⟨by omega, by omega, by omega, by omega⟩, fits_ok hs, by omega, ?_⟩
        unfold totA totP totS
        omega
    · rw [recov_far hn] at h
      injection h with h1 h2
      exact zz h1
set_option maxRecDepth 100000 in
set_option maxHeartbeats 16000000 in
theorem lawNewAgent (pv : Value) (d : PlanD) (w : World) (hp : IsPlan w w.heap.size pv d) (N : Names w) :
    Calls Tryz.prog 4 #[pv] w fun e w' => e = .returned (.bool true) ∧ Below w.heap.size w w' := by
  have H := Lib.hid hp
  have HN := Lib.hid N
  have HJ : Hid ((Tryz.prog.info? 48).map (·.size) = some 20) := Lib.hid (by kernel_rfl)
  obtain ⟨⟨A0, A1, A2, A3, c0, c1, c2, c3, rfl, -, -, -, -⟩, -, -, -, -⟩ := hp
  clear N
  have X := Own.box w (planC A0 A1 A2 A3 d.n0 c0 d.n1 c1 d.n2 c2 d.n3 c3 d.l d.p d.t) 27
  go_enter Tryz.func4, Tryz.ntmps4
  go_wp2_with fail
  generalize w.alloc (.cells (planC A0 A1 A2 A3 d.n0 c0 d.n1 c1 d.n2 c2 d.n3 c3 d.l d.p d.t) 27) = w1 at X ⊢
  refine (szPlan_any _ d w1 ((H.out.below X.K (Nat.le_refl _)).more X.K.size)).mono ?_
  rintro e w2 ⟨rfl, hb⟩
  replace X := X.step hb
  clear hb
  have hC := X.C
  by_cases hsz : d.n0 + d.n1 + d.n2 + d.n3 ≤ 1048576
  case neg =>
    have e0 : szP d = -1 := if_neg hsz
    rw [e0]
    clear e0
    go_wp2_with fail
    go_ret
    exact ⟨rfl, X.K⟩
  case pos =>
    have e0 : szP d = 1048576 - d.n0 - d.n1 - d.n2 - d.n3 := if_pos hsz
    have l0 : ¬ szP d < 0 := by omega
    clear e0
    generalize szP d = left at *
    have q0 : Hid (d.n0 ≤ 1048576) := Lib.hid (by omega)
    have q1 : Hid (d.n1 ≤ 1048576) := Lib.hid (by omega)
    have q2 : Hid (d.n2 ≤ 1048576) := Lib.hid (by omega)
    have q3 : Hid (d.n3 ≤ 1048576) := Lib.hid (by omega)
    have PF : Hid (PlFits d) := Lib.hid ⟨q0.out, q1.out, q2.out, q3.out⟩
    have PS : Hid ((1 + 4 * d.n0 + d.n1 + 2 * d.n2 + d.n3 : Int) ≤ 4194305) := Lib.hid (by omega)
    obtain ⟨D, T, B, TB, hrec⟩ : ∃ D T B TB, recovD d [] = ((D, T, B), TB) := ⟨_, _, _, _, rfl⟩
    have HREC := Lib.hid hrec
    have FIT := Lib.hid (recov_fit hsz hrec)
    clear hrec hsz
    -- the model's answer
    go_wp2_with fail
    refine (toPlan_any _ d w2 ((H.out.below X.K (Nat.le_refl _)).more X.K.size) q0.out q1.out q2.out q3.out).mono ?_
    rintro e w3 ⟨f0, f1, f2, f3, rfl, N1, hb⟩
    clear hC
    replace X := X.step hb
    clear hb
    have P1 := Lib.hid (N1.isR PF.out)
    clear N1
    go_wp2_with fail
    have hcall := (specNewAgent_any _ d w3 P1.out)
    rw [HREC.out] at hcall
    refine hcall.mono ?_
    clear hcall P1
    rintro e w4 ⟨v0, rfl, OA, hb⟩
    have Z0 := OA.ins hb.size
    have hsm := OA.small
    obtain ⟨cs0, rfl, hsz9, hone9⟩ := OA.flat
    have SZ0 := Lib.hid hsz9
    have ONE0 := Lib.hid hone9
    have SMB := Lib.hid hsm
    have Z0l : w3.heap.size ≤ w4.heap.size := hb.size
    clear OA hsz9 hone9 hsm
    replace X := X.step hb
    clear hb
    have lw0 : w.heap.size < w4.heap.size := X.z
    have hC := X.C
    have HB8 := heap_alloc_new w4 (.cells (agC (.slice none 0 0) (.slice none 0 0) (.slice none 0 0) (.slice none 0 0) 0 0 0 0 false 0 0 0 0 (.slice none 0 0) (.slice none 0 0) (.slice none 0 0) (.slice none 0 0) 0 0 (.slice none 0 0)) 48)
    have hA : Below w4.heap.size w4 (w4.alloc (.cells (agC (.slice none 0 0) (.slice none 0 0) (.slice none 0 0) (.slice none 0 0) 0 0 0 0 false 0 0 0 0 (.slice none 0 0) (.slice none 0 0) (.slice none 0 0) (.slice none 0 0) 0 0 (.slice none 0 0)) 48)) := (Below.refl _ _).alloc (Nat.le_refl _) _
    have hb := below_setRow hA (Nat.le_refl _) cs0
    have HG9 := setRow_heap _ _ _ cs0 _ _ HB8
    go_upto_region 6 with (
      (with_reducible refine store_agent (x := 4) (y := 23) (g := w4.heap.size) (cs := cs0) ?_ ?_ HB8 ?_ ?_ ?_ ?_)
      · rfl
      · rfl
      · rw [SZ0.out]; exact HJ.out
      · rw [SZ0.out]; rfl
      · exact ONE0.out)
    have HA4l : w4.heap.size < ((w4.alloc (.cells (agC (.slice none 0 0) (.slice none 0 0) (.slice none 0 0) (.slice none 0 0) 0 0 0 0 false 0 0 0 0 (.slice none 0 0) (.slice none 0 0) (.slice none 0 0) (.slice none 0 0) 0 0 (.slice none 0 0)) 48)).setRow w4.heap.size cs0).heap.size := (Array.getElem?_eq_some_iff.1 HG9).1
    replace X := X.step hb
    replace Z0 := Z0.go hb
    clear hb
    clear hA HB8
    generalize hw9 : (w4.alloc (.cells (agC (.slice none 0 0) (.slice none 0 0) (.slice none 0 0) (.slice none 0 0) 0 0 0 0 false 0 0 0 0 (.slice none 0 0) (.slice none 0 0) (.slice none 0 0) (.slice none 0 0) 0 0 (.slice none 0 0)) 48)).setRow w4.heap.size cs0 = w5 at X Z0 HG9 HA4l ⊢
    clear hw9
    have HA4 := HG9
    clear HG9
    clear hC
    have hC := X.C
    -- the program's arguments
    go_wp2_with fail
    refine (toPlan_any _ d w5 ((H.out.below X.K (Nat.le_refl _)).more X.K.size) q0.out q1.out q2.out q3.out).mono ?_
    rintro e w6 ⟨a0, a1, a2, a3, rfl, N, hb⟩
    clear hC
    replace X := X.step hb
    replace Z0 := Z0.go hb
    replace HA4 := (hb.block _ (Array.getElem?_eq_some_iff.1 HA4).1).trans HA4
    clear hb
    have la : w5.heap.size ≤ a0 ∧ a0 < a1 ∧ a1 < a2 ∧ a2 < a3 ∧ a3 < w6.heap.size := ⟨N.l0, N.l1, N.l2, N.l3, N.l4⟩
    have hb : Below w6.heap.size w6 (w6.alloc (.cells (planC (some ⟨a0, 0, none⟩) (some ⟨a1, 0, none⟩) (some ⟨a2, 0, none⟩) (some ⟨a3, 0, none⟩) d.n0 d.n0 d.n1 d.n1 d.n2 d.n2 d.n3 d.n3 d.l d.p d.t) 42)) := (Below.refl _ _).alloc (Nat.le_refl _) _
    have V6 := Own.box2 X.K (planC (some ⟨a0, 0, none⟩) (some ⟨a1, 0, none⟩) (some ⟨a2, 0, none⟩) (some ⟨a3, 0, none⟩) d.n0 d.n0 d.n1 d.n1 d.n2 d.n2 d.n3 d.n3 d.l d.p d.t) 42
    have l67 : w6.heap.size < (w6.alloc (.cells (planC (some ⟨a0, 0, none⟩) (some ⟨a1, 0, none⟩) (some ⟨a2, 0, none⟩) (some ⟨a3, 0, none⟩) d.n0 d.n0 d.n1 d.n1 d.n2 d.n2 d.n3 d.n3 d.l d.p d.t) 42)).heap.size := by rw [heap_size_alloc_]; omega
    replace X := X.step hb
    replace Z0 := Z0.go hb
    replace HA4 := (hb.block _ (Array.getElem?_eq_some_iff.1 HA4).1).trans HA4
    replace N := N.below hb
    clear hb
    have hC := X.C
    go_upto_region 7 with fail
    generalize hw : w6.alloc (.cells (planC (some ⟨a0, 0, none⟩) (some ⟨a1, 0, none⟩) (some ⟨a2, 0, none⟩) (some ⟨a3, 0, none⟩) d.n0 d.n0 d.n1 d.n1 d.n2 d.n2 d.n3 d.n3 d.l d.p d.t) 42) = w7 at X Z0 HA4 N V6 l67 hC ⊢
    clear hw hC
    have hV := V6.C
    have P2 := Lib.hid (N.isR PF.out)
    go_wp2_with fail
    have hcall := (implNewAgent_any _ d w7 P2.out (HN.out.go X.K))
    rw [HREC.out] at hcall
    refine hcall.mono ?_
    clear hcall P2 hV
    rintro e w9 ⟨v1, rfl, OA, hb⟩
    have Z1 := OA.ins hb.size
    have hsm := OA.small
    obtain ⟨cs1, rfl, hsz9, hone9⟩ := OA.flat
    have SZ1 := Lib.hid hsz9
    have ONE1 := Lib.hid hone9
    have SMB := Lib.hid hsm
    have Z1l : w7.heap.size ≤ w9.heap.size := hb.size
    clear OA hsz9 hone9 hsm
    replace X := X.step hb
    replace Z0 := Z0.go hb
    replace HA4 := (hb.block _ (Array.getElem?_eq_some_iff.1 HA4).1).trans HA4
    replace N := N.below hb
    replace V6 := V6.step hb
    clear hb
    have HB8 := heap_alloc_new w9 (.cells (agC (.slice none 0 0) (.slice none 0 0) (.slice none 0 0) (.slice none 0 0) 0 0 0 0 false 0 0 0 0 (.slice none 0 0) (.slice none 0 0) (.slice none 0 0) (.slice none 0 0) 0 0 (.slice none 0 0)) 48)
    have hA : Below w9.heap.size w9 (w9.alloc (.cells (agC (.slice none 0 0) (.slice none 0 0) (.slice none 0 0) (.slice none 0 0) 0 0 0 0 false 0 0 0 0 (.slice none 0 0) (.slice none 0 0) (.slice none 0 0) (.slice none 0 0) 0 0 (.slice none 0 0)) 48)) := (Below.refl _ _).alloc (Nat.le_refl _) _
    have hb := below_setRow hA (Nat.le_refl _) cs1
    have HG9 := setRow_heap _ _ _ cs1 _ _ HB8
    go_upto_region 8 with (
      (with_reducible refine store_agent (x := 7) (y := 30) (g := w9.heap.size) (cs := cs1) ?_ ?_ HB8 ?_ ?_ ?_ ?_)
      · rfl
      · rfl
      · rw [SZ1.out]; exact HJ.out
      · rw [SZ1.out]; rfl
      · exact ONE1.out)
    have HA9l : w9.heap.size < ((w9.alloc (.cells (agC (.slice none 0 0) (.slice none 0 0) (.slice none 0 0) (.slice none 0 0) 0 0 0 0 false 0 0 0 0 (.slice none 0 0) (.slice none 0 0) (.slice none 0 0) (.slice none 0 0) 0 0 (.slice none 0 0)) 48)).setRow w9.heap.size cs1).heap.size := (Array.getElem?_eq_some_iff.1 HG9).1
    replace X := X.step hb
    replace Z0 := Z0.go hb
    replace HA4 := (hb.block _ (Array.getElem?_eq_some_iff.1 HA4).1).trans HA4
    replace N := N.below hb
    replace V6 := V6.step hb
    replace Z1 := Z1.go hb
    clear hb
    clear hA HB8
    generalize hw9 : (w9.alloc (.cells (agC (.slice none 0 0) (.slice none 0 0) (.slice none 0 0) (.slice none 0 0) 0 0 0 0 false 0 0 0 0 (.slice none 0 0) (.slice none 0 0) (.slice none 0 0) (.slice none 0 0) 0 0 (.slice none 0 0)) 48)).setRow w9.heap.size cs1 = w10 at X Z0 HA4 N V6 Z1 HG9 HA9l ⊢
    clear hw9
    have HA9 := HG9
    clear HG9
    -- the answers are alike
    go_wp2_with (first
      | ((with_reducible refine load_agentG (x := 7) (g := w9.heap.size) (cs := cs1) ?_ ?_ HA9 ?_ ?_)
         · rfl
         · rfl
         · rw [SZ1.out]; exact HJ.out)
      | ((with_reducible refine load_agentG (x := 4) (g := w4.heap.size) (cs := cs0) ?_ ?_ HA4 ?_ ?_)
         · rfl
         · rfl
         · rw [SZ0.out]; exact HJ.out))
    refine (eqAg_same _ _ D T B w10 (Z1.is FIT.out.1 FIT.out.2.1 (Nat.le_trans FIT.out.2.2.1 (by unfold maxLen; decide)) SMB.out) (Z0.is FIT.out.1 FIT.out.2.1 (Nat.le_trans FIT.out.2.2.1 (by unfold maxLen; decide)) SMB.out)).mono ?_
    rintro e w11 ⟨rfl, hb⟩
    replace X := X.step hb
    replace Z0 := Z0.go hb
    replace HA4 := (hb.block _ (Array.getElem?_eq_some_iff.1 HA4).1).trans HA4
    replace N := N.below hb
    replace V6 := V6.step hb
    replace Z1 := Z1.go hb
    replace HA9 := (hb.block _ (Array.getElem?_eq_some_iff.1 HA9).1).trans HA9
    clear hb
    have hbb : (TB != TB) = false := by cases TB <;> rfl
    go_upto_region 10 with fail
    clear hbb
    refine wp_region_noPanic ?_
    refine wp_region_held_drew (S := (fun W => (∀ o, W.cell? ⟨w6.heap.size, o, none⟩ = (planC (some ⟨a0, 0, none⟩) (some ⟨a1, 0, none⟩) (some ⟨a2, 0, none⟩) (some ⟨a3, 0, none⟩) d.n0 d.n0 d.n1 d.n1 d.n2 d.n2 d.n3 d.n3 d.l d.p d.t)[o]?) ∧ (∀ o, W.cell? ⟨w.heap.size, o, none⟩ = (planC A0 A1 A2 A3 d.n0 c0 d.n1 c1 d.n2 c2 d.n3 c3 d.l d.p d.t)[o]?))) (by kernel_rfl) (⟨(V6.step (Below.refl _ _).drew).C, (X.step (Below.refl _ _).drew).C⟩) (fun _ => ?_)
    rw [← heap_drew w11] at HA4 HA9
    replace X := X.drew
    replace V6 := V6.drew
    replace Z0 := Z0.go (Below.refl _ _).drew
    replace Z1 := Z1.go (Below.refl _ _).drew
    replace N := N.below (Below.refl _ _).drew
    generalize w11.drew = v0 at X V6 HA4 HA9 Z0 Z1 N ⊢
    refine wpAnyH_take (i := 0) (v := ?_) rfl (by kernel_rfl) (by kernel_rfl) (by kernel_rfl) (fun _ _ _ h => h) (Or.inl ⟨by rfl, ?_⟩) ⟨V6.C, X.C⟩ ?_
    rotate_left 1
    · intro w hSw
      obtain ⟨hs1, hs2⟩ := hSw
      go_simp
      try with_reducible rfl
    change wpAnyH _ _ _ _ _ _ _ (Act.put _ (some 41) _) _
    simp only [Act.put, List.setIfInBounds_toArray, List.set_cons_zero, List.set_cons_succ]
    refine wpAnyH_take (i := 1) (v := ?_) rfl (by kernel_rfl) (by kernel_rfl) (by kernel_rfl) (fun _ _ _ h => h) (Or.inl ⟨by rfl, ?_⟩) ⟨V6.C, X.C⟩ ?_
    rotate_left 1
    · intro w hSw
      obtain ⟨hs1, hs2⟩ := hSw
      go_simp
      try with_reducible rfl
    change wpAnyH _ _ _ _ _ _ _ (Act.put _ (some 42) _) _
    simp only [Act.put, List.setIfInBounds_toArray, List.set_cons_zero, List.set_cons_succ]
    refine wpAnyH_ready (rs := [2]) (by kernel_rfl) (by simp) ?_
    refine AllReadyH.cons rfl (fun K' hK => ?_) AllReadyH.nil
    go_simp
    go_at_call 13
    refine (toPlan_any _ d v0 ((H.out.below X.K (Nat.le_refl _)).more X.K.size) q0.out q1.out q2.out q3.out).mono ?_
    rintro e v1 ⟨z0, z1, z2, z3, rfl, N3, hb⟩
    have P3 := N3.isR PF.out
    clear N3
    replace X := X.step hb
    replace V6 := V6.step hb
    replace HA4 := (hb.block _ (Array.getElem?_eq_some_iff.1 HA4).1).trans HA4
    replace HA9 := (hb.block _ (Array.getElem?_eq_some_iff.1 HA9).1).trans HA9
    replace Z0 := Z0.go hb
    replace Z1 := Z1.go hb
    replace N := N.below hb
    clear hb
    go_wp2_with fail
    refine hK.out _ _ ⟨V6.C, X.C⟩ (fun _ => ?_)
    clear hK K'
    try (change wpAnyH _ _ _ _ _ _ _ (Act.put _ (some 43) _) _; simp only [Act.put, List.setIfInBounds_toArray, List.set_cons_zero, List.set_cons_succ])
    refine wpAnyH_ready (rs := [3]) (by kernel_rfl) (by simp) ?_
    refine AllReadyH.cons rfl (fun K' hK => ?_) AllReadyH.nil
    go_simp
    go_at_call 15
    refine (eqPlan_same _ _ d v1 (N.isR PF.out).is P3.is).mono ?_
    rintro e v2 ⟨rfl, hb⟩
    replace X := X.step hb
    replace V6 := V6.step hb
    replace HA4 := (hb.block _ (Array.getElem?_eq_some_iff.1 HA4).1).trans HA4
    replace HA9 := (hb.block _ (Array.getElem?_eq_some_iff.1 HA9).1).trans HA9
    replace Z0 := Z0.go hb
    replace Z1 := Z1.go hb
    replace N := N.below hb
    clear hb P3
    go_wp2_with fail
    refine hK.out _ _ ⟨V6.C, X.C⟩ (fun _ => ?_)
    clear hK K'
    try (change wpAnyH _ _ _ _ _ _ _ (Act.put _ (some 44) _) _; simp only [Act.put, List.setIfInBounds_toArray, List.set_cons_zero, List.set_cons_succ])
    refine wpAnyH_take (i := 4) (v := ?_) rfl (by kernel_rfl) (by kernel_rfl) (by kernel_rfl) (fun _ _ _ h => h) (Or.inl ⟨by rfl, ?_⟩) ⟨V6.C, X.C⟩ ?_
    rotate_left 1
    · intro w hSw
      obtain ⟨hs1, hs2⟩ := hSw
      go_simp
      try with_reducible rfl
    change wpAnyH _ _ _ _ _ _ _ (Act.put _ (some 45) _) _
    simp only [Act.put, List.setIfInBounds_toArray, List.set_cons_zero, List.set_cons_succ]
    refine wpAnyH_done (by kernel_rfl) ?_ _
    refine NoPanic.normal ?_
    have hV := V6.C
    go_wp2_with fail
    -- the arguments are marked
    refine (markPlan_num d a0 a1 a2 a3 _ _ N q0.out q1.out q2.out q3.out).mono ?_
    rintro e w15 ⟨rfl, hk⟩
    clear hV
    clear N V6
    replace X := X.keeps hk (by rintro b ⟨hb1, hb2⟩; omega) (by rintro ⟨hb1, hb2⟩; omega)
    replace Z0 := Z0.keeps hk (by rintro b p1 p2 ⟨hb1, hb2⟩; omega)
    replace HA4 := (hk.block _ (Array.getElem?_eq_some_iff.1 HA4).1 (by rintro ⟨hb1, hb2⟩; omega)).trans HA4
    replace Z1 := Z1.keeps hk (by rintro b p1 p2 ⟨hb1, hb2⟩; omega)
    replace HA9 := (hk.block _ (Array.getElem?_eq_some_iff.1 HA9).1 (by rintro ⟨hb1, hb2⟩; omega)).trans HA9
    clear hk
    have p0 : (0 : Int) ≤ 1 + 4 * d.n0 + d.n1 + 2 * d.n2 + d.n3 := by omega
    have p1 := PS.out
    generalize (1 + 4 * d.n0 + d.n1 + 2 * d.n2 + d.n3 : Int) = kk at p0 p1 ⊢
    have p4 : ¬ (kk < 0) := by omega
    have p5 : decide (kk < 0) = false := by simp [p4]
    clear p0 p1
    go_wp2_with (first
      | ((with_reducible refine load_agentG (x := 7) (g := w9.heap.size) (cs := cs1) ?_ ?_ HA9 ?_ ?_)
         · rfl
         · rfl
         · rw [SZ1.out]; exact HJ.out)
      | ((with_reducible refine load_agentG (x := 4) (g := w4.heap.size) (cs := cs0) ?_ ?_ HA4 ?_ ?_)
         · rfl
         · rfl
         · rw [SZ0.out]; exact HJ.out))
    refine (eqAg_same _ _ D T B _ (Z1.is FIT.out.1 FIT.out.2.1 (Nat.le_trans FIT.out.2.2.1 (by unfold maxLen; decide)) SMB.out) (Z0.is FIT.out.1 FIT.out.2.1 (Nat.le_trans FIT.out.2.2.1 (by unfold maxLen; decide)) SMB.out)).mono ?_
    rintro e w17 ⟨rfl, hb⟩
    clear p4 p5
    replace X := X.step hb
    replace Z0 := Z0.go hb
    replace HA4 := (hb.block _ (Array.getElem?_eq_some_iff.1 HA4).1).trans HA4
    replace Z1 := Z1.go hb
    replace HA9 := (hb.block _ (Array.getElem?_eq_some_iff.1 HA9).1).trans HA9
    clear hb
    have hbb : (TB != TB) = false := by cases TB <;> rfl
    go_wp2_with (first
      | ((with_reducible refine load_agentG (x := 7) (g := w9.heap.size) (cs := cs1) ?_ ?_ HA9 ?_ ?_)
         · rfl
         · rfl
         · rw [SZ1.out]; exact HJ.out))
    clear hbb
    -- the answer is marked
    refine (markAg_any _ D T B.length _ _ _ 1 _ Z1 FIT.out.1 FIT.out.2.1 FIT.out.2.2.1 (by omega) (by have := FIT.out.2.2.2; omega)).mono ?_
    rintro e w18 ⟨rfl, Zm, hk⟩
    clear Z1
    replace X := X.keeps hk (by rintro b ⟨hb1, hb2⟩; omega) (by rintro ⟨hb1, hb2⟩; omega)
    replace Z0 := Z0.keeps hk (by rintro b p1 p2 ⟨hb1, hb2⟩; omega)
    replace HA4 := (hk.block _ (Array.getElem?_eq_some_iff.1 HA4).1 (by rintro ⟨hb1, hb2⟩; omega)).trans HA4
    replace HA9 := (hk.block _ (Array.getElem?_eq_some_iff.1 HA9).1 (by rintro ⟨hb1, hb2⟩; omega)).trans HA9
    clear hk
    have Z1 := Zm
    clear Zm
    go_wp2_with (first
      | ((with_reducible refine load_agentG (x := 7) (g := w9.heap.size) (cs := cs1) ?_ ?_ HA9 ?_ ?_)
         · rfl
         · rfl
         · rw [SZ1.out]; exact HJ.out))
    refine (heldAg_any _ D T B.length _ _ 1 _ Z1 FIT.out.1 FIT.out.2.1 FIT.out.2.2.1 (by omega) (by have := FIT.out.2.2.2; omega)).mono ?_
    rintro e w19 ⟨rfl, hb⟩
    replace X := X.step hb
    replace Z0 := Z0.go hb
    replace HA4 := (hb.block _ (Array.getElem?_eq_some_iff.1 HA4).1).trans HA4
    replace HA9 := (hb.block _ (Array.getElem?_eq_some_iff.1 HA9).1).trans HA9
    replace Z1 := Z1.go hb
    clear hb
    have nn : ¬ ((1 : Int) + (totA D T B.length : Int) < 0) := by omega
    have hC := X.C
    -- once more, of other copies
    go_wp2_with fail
    refine (toPlan_any _ d w19 ((H.out.below X.K (Nat.le_refl _)).more X.K.size) q0.out q1.out q2.out q3.out).mono ?_
    rintro e w20 ⟨z0, z1, z2, z3, rfl, N4, hb⟩
    clear hC
    replace X := X.step hb
    replace Z0 := Z0.go hb
    replace HA4 := (hb.block _ (Array.getElem?_eq_some_iff.1 HA4).1).trans HA4
    replace HA9 := (hb.block _ (Array.getElem?_eq_some_iff.1 HA9).1).trans HA9
    replace Z1 := Z1.go hb
    clear hb
    have P4 := Lib.hid (N4.isR PF.out)
    clear N4
    clear SMB
    go_wp2_with fail
    have hcall := (implNewAgent_any _ d w20 P4.out (HN.out.go X.K))
    rw [HREC.out] at hcall
    refine hcall.mono ?_
    clear hcall P4
    rintro e w21 ⟨v2, rfl, OA, hb⟩
    have Z2 := OA.ins hb.size
    have hsm := OA.small
    obtain ⟨cs2, rfl, hsz9, hone9⟩ := OA.flat
    have SZ2 := Lib.hid hsz9
    have ONE2 := Lib.hid hone9
    have SMB := Lib.hid hsm
    have Z2l : w20.heap.size ≤ w21.heap.size := hb.size
    clear OA hsz9 hone9 hsm
    replace X := X.step hb
    replace Z0 := Z0.go hb
    replace HA4 := (hb.block _ (Array.getElem?_eq_some_iff.1 HA4).1).trans HA4
    replace HA9 := (hb.block _ (Array.getElem?_eq_some_iff.1 HA9).1).trans HA9
    replace Z1 := Z1.go hb
    clear hb
    have HB8 := heap_alloc_new w21 (.cells (agC (.slice none 0 0) (.slice none 0 0) (.slice none 0 0) (.slice none 0 0) 0 0 0 0 false 0 0 0 0 (.slice none 0 0) (.slice none 0 0) (.slice none 0 0) (.slice none 0 0) 0 0 (.slice none 0 0)) 48)
    have hA : Below w21.heap.size w21 (w21.alloc (.cells (agC (.slice none 0 0) (.slice none 0 0) (.slice none 0 0) (.slice none 0 0) 0 0 0 0 false 0 0 0 0 (.slice none 0 0) (.slice none 0 0) (.slice none 0 0) (.slice none 0 0) 0 0 (.slice none 0 0)) 48)) := (Below.refl _ _).alloc (Nat.le_refl _) _
    have hb := below_setRow hA (Nat.le_refl _) cs2
    have HG9 := setRow_heap _ _ _ cs2 _ _ HB8
    go_upto_region 25 with (
      (with_reducible refine store_agent (x := 12) (y := 77) (g := w21.heap.size) (cs := cs2) ?_ ?_ HB8 ?_ ?_ ?_ ?_)
      · rfl
      · rfl
      · rw [SZ2.out]; exact HJ.out
      · rw [SZ2.out]; rfl
      · exact ONE2.out)
    have HA21l : w21.heap.size < ((w21.alloc (.cells (agC (.slice none 0 0) (.slice none 0 0) (.slice none 0 0) (.slice none 0 0) 0 0 0 0 false 0 0 0 0 (.slice none 0 0) (.slice none 0 0) (.slice none 0 0) (.slice none 0 0) 0 0 (.slice none 0 0)) 48)).setRow w21.heap.size cs2).heap.size := (Array.getElem?_eq_some_iff.1 HG9).1
    replace X := X.step hb
    replace Z0 := Z0.go hb
    replace HA4 := (hb.block _ (Array.getElem?_eq_some_iff.1 HA4).1).trans HA4
    replace HA9 := (hb.block _ (Array.getElem?_eq_some_iff.1 HA9).1).trans HA9
    replace Z1 := Z1.go hb
    replace Z2 := Z2.go hb
    clear hb
    clear hA HB8
    generalize hw9 : (w21.alloc (.cells (agC (.slice none 0 0) (.slice none 0 0) (.slice none 0 0) (.slice none 0 0) 0 0 0 0 false 0 0 0 0 (.slice none 0 0) (.slice none 0 0) (.slice none 0 0) (.slice none 0 0) 0 0 (.slice none 0 0)) 48)).setRow w21.heap.size cs2 = w22 at X Z0 HA4 HA9 Z1 Z2 HG9 HA21l ⊢
    clear hw9
    have HA21 := HG9
    clear HG9
    go_wp2_with (first
      | ((with_reducible refine load_agentG (x := 12) (g := w21.heap.size) (cs := cs2) ?_ ?_ HA21 ?_ ?_)
         · rfl
         · rfl
         · rw [SZ2.out]; exact HJ.out)
      | ((with_reducible refine load_agentG (x := 4) (g := w4.heap.size) (cs := cs0) ?_ ?_ HA4 ?_ ?_)
         · rfl
         · rfl
         · rw [SZ0.out]; exact HJ.out))
    refine (eqAg_same _ _ D T B w22 (Z2.is FIT.out.1 FIT.out.2.1 (Nat.le_trans FIT.out.2.2.1 (by unfold maxLen; decide)) SMB.out) (Z0.is FIT.out.1 FIT.out.2.1 (Nat.le_trans FIT.out.2.2.1 (by unfold maxLen; decide)) SMB.out)).mono ?_
    rintro e w23 ⟨rfl, hb⟩
    replace X := X.step hb
    replace Z0 := Z0.go hb
    replace HA4 := (hb.block _ (Array.getElem?_eq_some_iff.1 HA4).1).trans HA4
    replace HA9 := (hb.block _ (Array.getElem?_eq_some_iff.1 HA9).1).trans HA9
    replace Z1 := Z1.go hb
    replace Z2 := Z2.go hb
    replace HA21 := (hb.block _ (Array.getElem?_eq_some_iff.1 HA21).1).trans HA21
    clear hb
    have hbb : (TB != TB) = false := by cases TB <;> rfl
    go_wp2_with (first
      | ((with_reducible refine load_agentG (x := 7) (g := w9.heap.size) (cs := cs1) ?_ ?_ HA9 ?_ ?_)
         · rfl
         · rfl
         · rw [SZ1.out]; exact HJ.out))
    clear hbb
    refine (heldAg_any _ D T B.length _ _ 1 _ Z1 FIT.out.1 FIT.out.2.1 FIT.out.2.2.1 (by omega) (by have := FIT.out.2.2.2; omega)).mono ?_
    rintro e w24 ⟨rfl, hb⟩
    replace X := X.step hb
    replace Z0 := Z0.go hb
    replace HA4 := (hb.block _ (Array.getElem?_eq_some_iff.1 HA4).1).trans HA4
    replace HA9 := (hb.block _ (Array.getElem?_eq_some_iff.1 HA9).1).trans HA9
    replace Z1 := Z1.go hb
    replace Z2 := Z2.go hb
    replace HA21 := (hb.block _ (Array.getElem?_eq_some_iff.1 HA21).1).trans HA21
    clear hb
    go_wp2_with fail
    go_ret
    exact ⟨rfl, X.K⟩
end Go.Proofs.YtkefbmbjkijilaaGreatDoor
