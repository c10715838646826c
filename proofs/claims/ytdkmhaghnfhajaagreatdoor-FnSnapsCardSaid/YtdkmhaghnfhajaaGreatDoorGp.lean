/-
  FnSnaps' walk.
-/
import Derived.Test.YtdkmhaghnfhajaaGreatDoorGg
import Derived.Test.YtdkmhaghnfhajaaGreatDoorGk
import Derived.Test.YtdkmhaghnfhajaaGreatDoorGr
import Derived.Test.YtdkmhaghnfhajaaGreatDoorGn
import Derived.Test.YtdkmhaghnfhajaaGreatDoorMZxLqB
import Derived.Deep.RegionHeld3
set_option linter.unusedVariables false
namespace Go.Proofs.YtdkmhaghnfhajaaGreatDoor
open Go.RowKit

set_option maxRecDepth 100000 in
set_option maxHeartbeats 8000000 in
theorem lawSnaps (A : Option Addr) (n c : Nat) (w : World) (hN : Names w) (hB : Bytes w w.heap.size A n) (hn : n ≤ maxLen) : Calls Tryz.prog 3 #[.slice A n c] w fun e w' => e = .returned (.bool true) ∧ Below w.heap.size w w' := by
  have HB := Lib.hid hB
  have HN := Lib.hid hN
  clear hB hN
  go_enter Tryz.func3, Tryz.ntmps3
  go_wp2_with fail
  refine (big_any A n c _ hn).mono ?_
  rintro e w2 ⟨rfl, rfl⟩
  by_cases hbig : 4096 < (n : Int)
  · go_wp2_with fail
    go_ret
    exact ⟨rfl, Below.refl _ _⟩
  · have hn4 : n ≤ 4096 := by omega
    go_wp2_with fail
    refine (drawSnapOf_any A n c _ HB.out hn4).mono ?_
    rintro e w3 ⟨v0, v1, v2, v3, d, vs, s, rfl, L, Os, hd, hs, K⟩
    obtain ⟨V0, C0, rfl, -, -⟩ := L.o0.formR
    obtain ⟨V1, C1, rfl, -, -⟩ := L.o1.formR
    obtain ⟨V2, C2, rfl, -, -⟩ := L.o2.formR
    obtain ⟨V3, C3, rfl, -, -⟩ := L.o3.formR
    obtain ⟨y0, y1, y2, y3, rfl, -⟩ := Os.it
    obtain ⟨⟨E0, k0, rfl⟩, ⟨E1, k1, rfl⟩, ⟨E2, k2, rfl⟩, ⟨E3, k3, rfl⟩⟩ := Os.shapes
    have hf : StFits s 1048576 := ⟨by have := hs.s0; omega, by have := hs.s1; omega, by have := hs.s2; omega, by have := hs.s3; omega⟩
    go_upto_region 4 with fail
    have hK0 : Below w3.heap.size w3 w3 := Below.refl _ _
    have XP := Own.box2 K (planC V0 V1 V2 V3 d.n0 C0 d.n1 C1 d.n2 C2 d.n3 C3 d.l d.p d.t) 29
    have hK1 := hK0.alloc hK0.size (.cells (planC V0 V1 V2 V3 d.n0 C0 d.n1 C1 d.n2 C2 d.n3 C3 d.l d.p d.t) 29)
    have XS := Own.box2 (K.trans (hK1.mono K.size)) (stC E0 E1 E2 E3 s.pods.length k0 s.mnts.length k1 s.devs.length k2 s.lks.length k3 s.ph s.co s.ck s.bo s.ba s.lb s.gd s.pr) 34
    have hK2 := hK1.alloc hK1.size (.cells (stC E0 E1 E2 E3 s.pods.length k0 s.mnts.length k1 s.devs.length k2 s.lks.length k3 s.ph s.co s.ck s.bo s.ba s.lb s.gd s.pr) 34)
    replace XP := XP.alloc (.cells (stC E0 E1 E2 E3 s.pods.length k0 s.mnts.length k1 s.devs.length k2 s.lks.length k3 s.ph s.co s.ck s.bo s.ba s.lb s.gd s.pr) 34)
    have hb := hK2
    replace K := K.trans (hb.mono K.size)
    replace L := L.below hb
    replace Os := Os.below hb
    clear hb hK0 hK1 hK2
    try rw [heap_size_alloc_] at XS
    generalize ((w3.alloc (.cells (planC V0 V1 V2 V3 d.n0 C0 d.n1 C1 d.n2 C2 d.n3 C3 d.l d.p d.t) 29)).alloc (.cells (stC E0 E1 E2 E3 s.pods.length k0 s.mnts.length k1 s.devs.length k2 s.lks.length k3 s.ph s.co s.ck s.bo s.ba s.lb s.gd s.pr) 34)) = w4 at K L Os XP XS ⊢
    generalize hw3 : w3.heap.size = b3 at XP XS ⊢
    have h1 := XP.C
    have h2 := XS.C
    go_wp2_with fail
    refine (implSnapOf_any _ _ d s w4 L.plan Os.st).mono ?_
    rintro e w5 ⟨v, rfl, O1, hb⟩
    clear h1 h2
    replace K := K.trans (hb.mono K.size)
    replace L := L.below hb
    replace Os := Os.below hb
    replace XP := XP.step hb
    replace XS := XS.step hb
    clear hb
    go_wp2_with fail
    refine (drawSameState_any A n c w5 ((HB.out.below K (Nat.le_refl _)).more K.size) hn4).mono ?_
    rintro e w6 ⟨ua, ub, sa, sb, rfl, Ia, Ib, hb⟩
    replace K := K.trans (hb.mono K.size)
    replace L := L.below hb
    replace Os := Os.below hb
    replace XP := XP.step hb
    replace XS := XS.step hb
    replace O1 := O1.below hb
    clear hb
    have HIa := Ia
    have HIb := Ib
    obtain ⟨⟨M0, M1, M2, M3, x0, x1, x2, x3, rfl, -⟩, -⟩ := HIa
    obtain ⟨⟨N0, N1, N2, N3, y0, y1, y2, y3, rfl, -⟩, -⟩ := HIb
    go_upto_region 6 with fail
    have hK0 : Below w6.heap.size w6 w6 := Below.refl _ _
    have XA := Own.box2 K (stC M0 M1 M2 M3 sa.pods.length x0 sa.mnts.length x1 sa.devs.length x2 sa.lks.length x3 sa.ph sa.co sa.ck sa.bo sa.ba sa.lb sa.gd sa.pr) 34
    have hK1 := hK0.alloc hK0.size (.cells (stC M0 M1 M2 M3 sa.pods.length x0 sa.mnts.length x1 sa.devs.length x2 sa.lks.length x3 sa.ph sa.co sa.ck sa.bo sa.ba sa.lb sa.gd sa.pr) 34)
    have XB := Own.box2 (K.trans (hK1.mono K.size)) (stC N0 N1 N2 N3 sb.pods.length y0 sb.mnts.length y1 sb.devs.length y2 sb.lks.length y3 sb.ph sb.co sb.ck sb.bo sb.ba sb.lb sb.gd sb.pr) 34
    have hK2 := hK1.alloc hK1.size (.cells (stC N0 N1 N2 N3 sb.pods.length y0 sb.mnts.length y1 sb.devs.length y2 sb.lks.length y3 sb.ph sb.co sb.ck sb.bo sb.ba sb.lb sb.gd sb.pr) 34)
    replace XA := XA.alloc (.cells (stC N0 N1 N2 N3 sb.pods.length y0 sb.mnts.length y1 sb.devs.length y2 sb.lks.length y3 sb.ph sb.co sb.ck sb.bo sb.ba sb.lb sb.gd sb.pr) 34)
    have hb := hK2
    replace K := K.trans (hb.mono K.size)
    replace L := L.below hb
    replace Os := Os.below hb
    replace XP := XP.step hb
    replace XS := XS.step hb
    replace O1 := O1.below hb
    replace Ia := Ia.go hb
    replace Ib := Ib.go hb
    clear hb hK0 hK1 hK2
    try rw [heap_size_alloc_] at XB
    generalize ((w6.alloc (.cells (stC M0 M1 M2 M3 sa.pods.length x0 sa.mnts.length x1 sa.devs.length x2 sa.lks.length x3 sa.ph sa.co sa.ck sa.bo sa.ba sa.lb sa.gd sa.pr) 34)).alloc (.cells (stC N0 N1 N2 N3 sb.pods.length y0 sb.mnts.length y1 sb.devs.length y2 sb.lks.length y3 sb.ph sb.co sb.ck sb.bo sb.ba sb.lb sb.gd sb.pr) 34)) = w7 at K L Os XP XS O1 Ia Ib XA XB ⊢
    generalize hw6 : w6.heap.size = b6 at XA XB ⊢
    have S0 : (∀ o, w7.cell? ⟨b3, o, none⟩ = (planC V0 V1 V2 V3 d.n0 C0 d.n1 C1 d.n2 C2 d.n3 C3 d.l d.p d.t)[o]?) ∧ (∀ o, w7.cell? ⟨b3 + 1, o, none⟩ = (stC E0 E1 E2 E3 s.pods.length k0 s.mnts.length k1 s.devs.length k2 s.lks.length k3 s.ph s.co s.ck s.bo s.ba s.lb s.gd s.pr)[o]?) ∧ (∀ o, w7.cell? ⟨b6, o, none⟩ = (stC M0 M1 M2 M3 sa.pods.length x0 sa.mnts.length x1 sa.devs.length x2 sa.lks.length x3 sa.ph sa.co sa.ck sa.bo sa.ba sa.lb sa.gd sa.pr)[o]?) ∧ (∀ o, w7.cell? ⟨b6 + 1, o, none⟩ = (stC N0 N1 N2 N3 sb.pods.length y0 sb.mnts.length y1 sb.devs.length y2 sb.lks.length y3 sb.ph sb.co sb.ck sb.bo sb.ba sb.lb sb.gd sb.pr)[o]?) ∧ Below w7.heap.size w7 w7 := ⟨XP.C, XS.C, XA.C, XB.C, Below.refl _ _⟩
    obtain ⟨same_, hsame⟩ : ∃ q, decide (sa = sb) = q := ⟨_, rfl⟩
    have HSAME := Lib.hid hsame
    clear hsame
    go_region_held3 (fun W => (∀ o, W.cell? ⟨b3, o, none⟩ = (planC V0 V1 V2 V3 d.n0 C0 d.n1 C1 d.n2 C2 d.n3 C3 d.l d.p d.t)[o]?) ∧ (∀ o, W.cell? ⟨b3 + 1, o, none⟩ = (stC E0 E1 E2 E3 s.pods.length k0 s.mnts.length k1 s.devs.length k2 s.lks.length k3 s.ph s.co s.ck s.bo s.ba s.lb s.gd s.pr)[o]?) ∧ (∀ o, W.cell? ⟨b6, o, none⟩ = (stC M0 M1 M2 M3 sa.pods.length x0 sa.mnts.length x1 sa.devs.length x2 sa.lks.length x3 sa.ph sa.co sa.ck sa.bo sa.ba sa.lb sa.gd sa.pr)[o]?) ∧ (∀ o, W.cell? ⟨b6 + 1, o, none⟩ = (stC N0 N1 N2 N3 sb.pods.length y0 sb.mnts.length y1 sb.devs.length y2 sb.lks.length y3 sb.ph sb.co sb.ck sb.bo sb.ba sb.lb sb.gd sb.pr)[o]?) ∧ Below w7.heap.size w7 W)
      (first | exact S0 | exact S1 | exact S2 | exact S3 | exact S4 | (exact ⟨S0.1, S0.2.1, S0.2.2.1, S0.2.2.2.1, S0.2.2.2.2.drew⟩))
      (first
        | (go_at_call 16
           have hq := S3
           clear hq
           have hcall := specSame_any _ _ sa sb w8c ((Ia.go K3)) ((Ib.go K3))
           rw [HSAME.out] at hcall
           refine hcall.mono ?_
           clear hcall
           rintro e w8d ⟨rfl, hb4⟩
           have K4 := K3.trans (hb4.mono K3.size)
           have S4 : (∀ o, w8d.cell? ⟨b3, o, none⟩ = (planC V0 V1 V2 V3 d.n0 C0 d.n1 C1 d.n2 C2 d.n3 C3 d.l d.p d.t)[o]?) ∧ (∀ o, w8d.cell? ⟨b3 + 1, o, none⟩ = (stC E0 E1 E2 E3 s.pods.length k0 s.mnts.length k1 s.devs.length k2 s.lks.length k3 s.ph s.co s.ck s.bo s.ba s.lb s.gd s.pr)[o]?) ∧ (∀ o, w8d.cell? ⟨b6, o, none⟩ = (stC M0 M1 M2 M3 sa.pods.length x0 sa.mnts.length x1 sa.devs.length x2 sa.lks.length x3 sa.ph sa.co sa.ck sa.bo sa.ba sa.lb sa.gd sa.pr)[o]?) ∧ (∀ o, w8d.cell? ⟨b6 + 1, o, none⟩ = (stC N0 N1 N2 N3 sb.pods.length y0 sb.mnts.length y1 sb.devs.length y2 sb.lks.length y3 sb.ph sb.co sb.ck sb.bo sb.ba sb.lb sb.gd sb.pr)[o]?) ∧ Below w7.heap.size w7 w8d := ⟨(XP.step K4).C, (XS.step K4).C, (XA.step K4).C, (XB.step K4).C, K4⟩)
        | (go_at_call 15
           have hq := S2
           clear hq
           have hcall := implSame_any _ _ sa sb w8b ((Ia.go K2)) ((Ib.go K2))
           rw [HSAME.out] at hcall
           refine hcall.mono ?_
           clear hcall
           rintro e w8c ⟨rfl, hb3⟩
           have K3 := K2.trans (hb3.mono K2.size)
           have S3 : (∀ o, w8c.cell? ⟨b3, o, none⟩ = (planC V0 V1 V2 V3 d.n0 C0 d.n1 C1 d.n2 C2 d.n3 C3 d.l d.p d.t)[o]?) ∧ (∀ o, w8c.cell? ⟨b3 + 1, o, none⟩ = (stC E0 E1 E2 E3 s.pods.length k0 s.mnts.length k1 s.devs.length k2 s.lks.length k3 s.ph s.co s.ck s.bo s.ba s.lb s.gd s.pr)[o]?) ∧ (∀ o, w8c.cell? ⟨b6, o, none⟩ = (stC M0 M1 M2 M3 sa.pods.length x0 sa.mnts.length x1 sa.devs.length x2 sa.lks.length x3 sa.ph sa.co sa.ck sa.bo sa.ba sa.lb sa.gd sa.pr)[o]?) ∧ (∀ o, w8c.cell? ⟨b6 + 1, o, none⟩ = (stC N0 N1 N2 N3 sb.pods.length y0 sb.mnts.length y1 sb.devs.length y2 sb.lks.length y3 sb.ph sb.co sb.ck sb.bo sb.ba sb.lb sb.gd sb.pr)[o]?) ∧ Below w7.heap.size w7 w8c := ⟨(XP.step K3).C, (XS.step K3).C, (XA.step K3).C, (XB.step K3).C, K3⟩)
        | (go_at_call 13
           have hq := S1
           clear hq
           refine (likeRecs_same _ _ (snapD d s) _ (O1.below K1).rt O2.rt).mono ?_
           rintro e w8b ⟨rfl, hb2⟩
           have K2 := K1.trans (hb2.mono K1.size)
           have S2 : (∀ o, w8b.cell? ⟨b3, o, none⟩ = (planC V0 V1 V2 V3 d.n0 C0 d.n1 C1 d.n2 C2 d.n3 C3 d.l d.p d.t)[o]?) ∧ (∀ o, w8b.cell? ⟨b3 + 1, o, none⟩ = (stC E0 E1 E2 E3 s.pods.length k0 s.mnts.length k1 s.devs.length k2 s.lks.length k3 s.ph s.co s.ck s.bo s.ba s.lb s.gd s.pr)[o]?) ∧ (∀ o, w8b.cell? ⟨b6, o, none⟩ = (stC M0 M1 M2 M3 sa.pods.length x0 sa.mnts.length x1 sa.devs.length x2 sa.lks.length x3 sa.ph sa.co sa.ck sa.bo sa.ba sa.lb sa.gd sa.pr)[o]?) ∧ (∀ o, w8b.cell? ⟨b6 + 1, o, none⟩ = (stC N0 N1 N2 N3 sb.pods.length y0 sb.mnts.length y1 sb.devs.length y2 sb.lks.length y3 sb.ph sb.co sb.ck sb.bo sb.ba sb.lb sb.gd sb.pr)[o]?) ∧ Below w7.heap.size w7 w8b := ⟨(XP.step K2).C, (XS.step K2).C, (XA.step K2).C, (XB.step K2).C, K2⟩)
        | (go_at_call 14
           have Kd : Below w7.heap.size w7 w7.drew := (Below.refl _ _).drew
           refine (specSnapOf_any _ _ d s _ (L.below Kd).plan (Os.below Kd).st).mono ?_
           rintro e w8a ⟨v', rfl, O2, hb1⟩
           have K1 := Kd.trans (hb1.mono Kd.size)
           have S1 : (∀ o, w8a.cell? ⟨b3, o, none⟩ = (planC V0 V1 V2 V3 d.n0 C0 d.n1 C1 d.n2 C2 d.n3 C3 d.l d.p d.t)[o]?) ∧ (∀ o, w8a.cell? ⟨b3 + 1, o, none⟩ = (stC E0 E1 E2 E3 s.pods.length k0 s.mnts.length k1 s.devs.length k2 s.lks.length k3 s.ph s.co s.ck s.bo s.ba s.lb s.gd s.pr)[o]?) ∧ (∀ o, w8a.cell? ⟨b6, o, none⟩ = (stC M0 M1 M2 M3 sa.pods.length x0 sa.mnts.length x1 sa.devs.length x2 sa.lks.length x3 sa.ph sa.co sa.ck sa.bo sa.ba sa.lb sa.gd sa.pr)[o]?) ∧ (∀ o, w8a.cell? ⟨b6 + 1, o, none⟩ = (stC N0 N1 N2 N3 sb.pods.length y0 sb.mnts.length y1 sb.devs.length y2 sb.lks.length y3 sb.ph sb.co sb.ck sb.bo sb.ba sb.lb sb.gd sb.pr)[o]?) ∧ Below w7.heap.size w7 w8a := ⟨(XP.step K1).C, (XS.step K1).C, (XA.step K1).C, (XB.step K1).C, K1⟩))
    have hb := K4
    clear S0 S1 S2 S3 S4 Kd K1 K2 K3 K4 hb1 hb2 hb3 hb4 O2
    replace K := K.trans (hb.mono K.size)
    replace L := L.below hb
    replace Os := Os.below hb
    replace XP := XP.step hb
    replace XS := XS.step hb
    replace O1 := O1.below hb
    replace Ia := Ia.go hb
    replace Ib := Ib.go hb
    replace XA := XA.step hb
    replace XB := XB.step hb
    clear hb XA XB Ia Ib HSAME
    have h1 := XP.C
    have h2 := XS.C
    go_wp2_with fail
    refine (specStateOk_any _ _ d s _ L.plan Os.st).mono ?_
    rintro e w9 ⟨rfl, hb⟩
    clear h1 h2
    replace K := K.trans (hb.mono K.size)
    replace L := L.below hb
    replace Os := Os.below hb
    replace XP := XP.step hb
    replace XS := XS.step hb
    replace O1 := O1.below hb
    clear hb
    obtain ⟨AL, CL, rfl⟩ := O1.form_
    cases hok : stOkB d s
    · have hl0 : ((snapD d s).length : Int) = 0 := by unfold snapD; rw [hok]; rfl
      clear hok
      go_wp2
      all_goals (go_ret; exact ⟨ret_bool (by simp), K⟩)
    have HOK := Lib.hid (stOkB_iff.1 hok)
    have HD : Hid (snapD d s = snapL s) := Lib.hid (by unfold snapD; rw [hok]; rfl)
    clear hok
    have HX : Hid (appliedL d (newS d) (snapD d s) = (s, true)) := Lib.hid (by rw [HD.out, appliedL, if_pos (stOkB_iff.2 (newS_ok HOK.out.plan)), snap_run HOK.out])
    have HFN : Hid (StFits (newS d) 1048576) := Lib.hid (fits_ok (newS_ok HOK.out.plan))
    have HW : Hid (writeB (snapD d s) = true) := Lib.hid (by rw [HD.out]; exact snap_write HOK.out)
    have h3g : b3 + 1 < w9.heap.size := XS.z
    have HIS : Hid ((Tryz.prog.info? 34).map (·.size) = some 12) := Lib.hid (by kernel_rfl)
    go_upto_region 10 with fail
    refine wp_region_noPanic ?_
    refine wp_region_held_drew (S := fun W => ∀ o, W.cell? ⟨b3, o, none⟩ = (planC V0 V1 V2 V3 d.n0 C0 d.n1 C1 d.n2 C2 d.n3 C3 d.l d.p d.t)[o]?) (by kernel_rfl) (XP.drew.C) (fun _ => ?_)
    replace K := K.drew
    replace XP := XP.drew
    replace XS := XS.drew
    replace L := L.below (Below.refl _ _).drew
    replace Os := Os.below (Below.refl _ _).drew
    replace O1 := O1.below (Below.refl _ _).drew
    replace h3g : b3 + 1 < w9.drew.heap.size := h3g
    generalize w9.drew = v0 at h3g K XP XS L Os O1 ⊢
    refine wpAnyH_take (i := 0) (v := ?_) rfl (by kernel_rfl) (by kernel_rfl) (by kernel_rfl) (fun _ _ _ h => h) (Or.inl ⟨by rfl, ?_⟩) XP.C ?_
    rotate_left 1
    · intro w hSw
      skip
      go_simp
      try with_reducible rfl
    change wpAnyH _ _ _ _ _ _ _ (Act.put _ (some 50) _) _
    dsimp only [Act.put]
    refine wpAnyH_take (i := 1) (v := ?_) rfl (by kernel_rfl) (by kernel_rfl) (by kernel_rfl) (fun _ _ _ h => h) (Or.inl ⟨by rfl, ?_⟩) XP.C ?_
    rotate_left 1
    · intro w hSw
      skip
      go_simp
      try with_reducible rfl
    change wpAnyH _ _ _ _ _ _ _ (Act.put _ (some 51) _) _
    dsimp only [Act.put]
    refine wpAnyH_take (i := 3) (v := ?_) rfl (by kernel_rfl) (by kernel_rfl) (by kernel_rfl) (fun _ _ _ h => h) (Or.inl ⟨by rfl, ?_⟩) XP.C ?_
    rotate_left 1
    · intro w hSw
      skip
      go_simp
      try with_reducible rfl
    change wpAnyH _ _ _ _ _ _ _ (Act.put _ (some 53) _) _
    dsimp only [Act.put]
    refine wpAnyH_ready (rs := [2, 8]) (by kernel_rfl) (by simp) ?_
    refine AllReadyH.cons rfl (fun K' hK => ?_) ?_
    · skip
      go_simp
      go_at_call 19
      refine (implNewState_any _ d v0 L.plan).mono ?_
      rintro e v1 ⟨vn, rfl, On, hb⟩
      try replace H8 := (hb.block _ (Array.getElem?_eq_some_iff.1 H8).1).trans H8
      skip
      try replace Ox := Ox.below hb
      replace K := K.trans (hb.mono K.size)
      replace XP := XP.step hb
      replace XS := XS.step hb
      replace L := L.below hb
      replace Os := Os.below hb
      replace O1 := O1.below hb
      have hsz := hb.size
      try replace h3g := Nat.lt_of_lt_of_le h3g hsz
      clear hb hsz
      go_wp2_with fail
      refine hK.out _ _ XP.C (fun _ => ?_)
      clear hK K'
      try (change wpAnyH _ _ _ _ _ _ _ (Act.put _ (some 52) _) _; dsimp only [Act.put])
      refine wpAnyH_ready (rs := [4, 8]) (by kernel_rfl) (by simp) ?_
      refine AllReadyH.cons rfl (fun K' hK => ?_) ?_
      · skip
        go_simp
        go_at_call 18
        have hall := implAll_any _ _ _ d (newS d) (snapD d s) v1 L.plan (On.isR HFN.out) O1.rt (HN.out.go K)
        rw [HX.out] at hall
        refine hall.mono ?_
        clear hall
        rintro e v2 ⟨vx, rfl, Ox, hb⟩
        clear On
        try replace H8 := (hb.block _ (Array.getElem?_eq_some_iff.1 H8).1).trans H8
        skip
        skip
        replace K := K.trans (hb.mono K.size)
        replace XP := XP.step hb
        replace XS := XS.step hb
        replace L := L.below hb
        replace Os := Os.below hb
        replace O1 := O1.below hb
        have hsz := hb.size
        try replace h3g := Nat.lt_of_lt_of_le h3g hsz
        clear hb hsz
        obtain ⟨y0, y1, y2, y3, rfl, -⟩ := Ox.it
        obtain ⟨⟨X0, m0, rfl⟩, ⟨X1, m1, rfl⟩, ⟨X2, m2, rfl⟩, ⟨X3, m3, rfl⟩⟩ := Ox.shapes
        dsimp only
        go_wp2_with fail
        refine hK.out _ _ XP.C (fun _ => ?_)
        clear hK K'
        try (change wpAnyH _ _ _ _ _ _ _ (Act.put _ (some 54) _) _; dsimp only [Act.put])
        refine wpAnyH_take (i := 5) (v := ?_) rfl (by kernel_rfl) (by kernel_rfl) (by kernel_rfl) (fun _ _ _ h => h) (Or.inl ⟨by rfl, ?_⟩) XP.C ?_
        rotate_left 1
        · intro w hSw
          skip
          go_simp
          try with_reducible rfl
        change wpAnyH _ _ _ _ _ _ _ (Act.put _ (some 49) _) _
        dsimp only [Act.put]
        refine wpAnyH_take (i := 6) (v := ?_) rfl (by kernel_rfl) (by kernel_rfl) (by kernel_rfl) (fun _ _ _ h => h) (Or.inl ⟨by rfl, ?_⟩) XP.C ?_
        rotate_left 1
        · intro w hSw
          skip
          go_simp
          try with_reducible rfl
        change wpAnyH _ _ _ _ _ _ _ (Act.put _ (some 55) _) _
        dsimp only [Act.put]
        refine wpAnyH_take (i := 7) (v := ?_) rfl (by kernel_rfl) (by kernel_rfl) (by kernel_rfl) (fun _ _ _ h => h) (Or.inl ⟨by rfl, ?_⟩) XP.C ?_
        rotate_left 1
        · intro w hSw
          skip
          go_simp
          try with_reducible rfl
        change wpAnyH _ _ _ _ _ _ _ (Act.put _ (some 56) _) _
        dsimp only [Act.put]
        refine wpAnyH_ready (rs := [8]) (by kernel_rfl) (by simp) ?_
        refine AllReadyH.cons rfl (fun K' hK => ?_) AllReadyH.nil
        go_simp
        have h8g : b3 + 1 < v2.heap.size := XS.z
        have h8w : w.heap.size ≤ v2.heap.size := K.size
        have H8 := heap_alloc_new v2 (.cells (stC none none none none 0 0 0 0 0 0 0 0 0 false 0 0 0 0 0 0) 34)
        have hb := (Below.refl v2.heap.size v2).alloc (Nat.le_refl _) (.cells (stC none none none none 0 0 0 0 0 0 0 0 0 false 0 0 0 0 0 0) 34)
        skip
        try replace On := On.below hb
        try replace Ox := Ox.below hb
        replace K := K.trans (hb.mono K.size)
        replace XP := XP.step hb
        replace XS := XS.step hb
        replace L := L.below hb
        replace Os := Os.below hb
        replace O1 := O1.below hb
        have hsz := hb.size
        try replace h3g := Nat.lt_of_lt_of_le h3g hsz
        clear hb hsz
        generalize hW8 : v2.alloc (.cells (stC none none none none 0 0 0 0 0 0 0 0 0 false 0 0 0 0 0 0) 34) = v3 at *
        clear hW8
        generalize v2.heap.size = R8 at H8 h8g h8w ⊢
        refine hK.out _ _ XP.C (fun _ => ?_)
        clear hK K'
        try (change wpAnyH _ _ _ _ _ _ _ (Act.put _ (some 8) _) _; dsimp only [Act.put])
        refine wpAnyH_ready (rs := [9]) (by kernel_rfl) (by simp) ?_
        refine AllReadyH.cons rfl (fun K' hK => ?_) AllReadyH.nil
        rw [if_pos (by rfl)]
        refine wp_store_row 34 (.tmp 8) (.tmp 55) rfl R8 (stC X0 X1 X2 X3 s.pods.length m0 s.mnts.length m1 s.devs.length m2 s.lks.length m3 s.ph s.co s.ck s.bo s.ba s.lb s.gd s.pr) rfl rfl 34 _ H8 HIS.out rfl (by simp [Value.oneCell']) ?_
        have kk := keepsRow_ v3 (R8) (stC X0 X1 X2 X3 s.pods.length m0 s.mnts.length m1 s.devs.length m2 s.lks.length m3 s.ph s.co s.ck s.bo s.ba s.lb s.gd s.pr)
        replace O1 : OR _ _ _ _ := ownsRow_keeps O1 kk (row_apart O1 H8 (by decide))
        replace Ox := Ox.keepsT kk H8 (by decide)
        replace K := belowRow_ K (B := R8) (by omega) (stC X0 X1 X2 X3 s.pods.length m0 s.mnts.length m1 s.devs.length m2 s.lks.length m3 s.ph s.co s.ck s.bo s.ba s.lb s.gd s.pr)
        replace XP := XP.keeps kk (by rintro b rfl; omega) (by show ¬ b3 = R8; omega)
        replace XS := XS.keeps kk (by rintro b rfl; omega) (by show ¬ b3 + 1 = R8; omega)
        replace L := L.keeps kk H8 (by decide)
        replace Os := Os.keepsT kk H8 (by decide)
        replace H8 := setRow_heap _ _ _ (stC X0 X1 X2 X3 s.pods.length m0 s.mnts.length m1 s.devs.length m2 s.lks.length m3 s.ph s.co s.ck s.bo s.ba s.lb s.gd s.pr) _ _ H8
        clear kk
        generalize v3.setRow R8 (stC X0 X1 X2 X3 s.pods.length m0 s.mnts.length m1 s.devs.length m2 s.lks.length m3 s.ph s.co s.ck s.bo s.ba s.lb s.gd s.pr) = v4 at H8 Ox K XP XS L Os O1 ⊢
        refine hK.out _ _ XP.C (fun _ => ?_)
        clear hK K'
        try (change wpAnyH _ _ _ _ _ _ _ (Act.put _ none _) _; dsimp only [Act.put])
        refine wpAnyH_ready (rs := [10]) (by kernel_rfl) (by simp) ?_
        refine AllReadyH.cons rfl (fun K' hK => ?_) AllReadyH.nil
        go_simp
        refine hK.out _ _ XP.C (fun _ => ?_)
        clear hK K'
        try (change wpAnyH _ _ _ _ _ _ _ (Act.put _ (some 9) _) _; dsimp only [Act.put])
        refine wpAnyH_done (by kernel_rfl) ?_ _
        refine NoPanic.normal ?_
        clear h8g h8w h3g
        have h4 : ∀ o, v4.cell? ⟨R8, o, none⟩ = (stC X0 X1 X2 X3 s.pods.length m0 s.mnts.length m1 s.devs.length m2 s.lks.length m3 s.ph s.co s.ck s.bo s.ba s.lb s.gd s.pr)[o]? := fun o => cell_of_row _ _ o _ _ _ H8
        go_wp2_with fail
        refine (framed_any _ (snapD d s) _ (HN.out.go K) O1.rt).mono ?_
        rintro e w12 ⟨vf, rfl, -, hb⟩
        rw [HW.out]
        clear h4
        replace H8 := (hb.block _ (Array.getElem?_eq_some_iff.1 H8).1).trans H8
        replace XS := XS.step hb
        replace Ox := Ox.below hb
        replace Os := Os.below hb
        replace K := K.trans (hb.mono K.size)
        clear hb
        have h4 : ∀ o, w12.cell? ⟨R8, o, none⟩ = (stC X0 X1 X2 X3 s.pods.length m0 s.mnts.length m1 s.devs.length m2 s.lks.length m3 s.ph s.co s.ck s.bo s.ba s.lb s.gd s.pr)[o]? := fun o => cell_of_row _ _ o _ _ _ H8
        have h2 := XS.C
        go_wp2_with fail
        have hcall := implSame_any _ _ s s w12 Ox.st Os.st
        rw [decide_eq_true (rfl : s = s)] at hcall
        refine hcall.mono ?_
        clear hcall
        rintro e w13 ⟨rfl, hb⟩
        clear h4 h2
        go_wp2
        all_goals (go_ret; exact ⟨rfl, K.trans (hb.mono K.size)⟩)
      refine AllReadyH.cons rfl (fun K' hK => ?_) AllReadyH.nil
      go_simp
      have h8g : b3 + 1 < v1.heap.size := XS.z
      have h8w : w.heap.size ≤ v1.heap.size := K.size
      have H8 := heap_alloc_new v1 (.cells (stC none none none none 0 0 0 0 0 0 0 0 0 false 0 0 0 0 0 0) 34)
      have hb := (Below.refl v1.heap.size v1).alloc (Nat.le_refl _) (.cells (stC none none none none 0 0 0 0 0 0 0 0 0 false 0 0 0 0 0 0) 34)
      skip
      try replace On := On.below hb
      try replace Ox := Ox.below hb
      replace K := K.trans (hb.mono K.size)
      replace XP := XP.step hb
      replace XS := XS.step hb
      replace L := L.below hb
      replace Os := Os.below hb
      replace O1 := O1.below hb
      have hsz := hb.size
      try replace h3g := Nat.lt_of_lt_of_le h3g hsz
      clear hb hsz
      generalize hW8 : v1.alloc (.cells (stC none none none none 0 0 0 0 0 0 0 0 0 false 0 0 0 0 0 0) 34) = v2 at *
      clear hW8
      generalize v1.heap.size = R8 at H8 h8g h8w ⊢
      refine hK.out _ _ XP.C (fun _ => ?_)
      clear hK K'
      try (change wpAnyH _ _ _ _ _ _ _ (Act.put _ (some 8) _) _; dsimp only [Act.put])
      refine wpAnyH_ready (rs := [4]) (by kernel_rfl) (by simp) ?_
      refine AllReadyH.cons rfl (fun K' hK => ?_) AllReadyH.nil
      go_simp
      go_at_call 18
      have hall := implAll_any _ _ _ d (newS d) (snapD d s) v2 L.plan (On.isR HFN.out) O1.rt (HN.out.go K)
      rw [HX.out] at hall
      refine hall.mono ?_
      clear hall
      rintro e v3 ⟨vx, rfl, Ox, hb⟩
      clear On
      try replace H8 := (hb.block _ (Array.getElem?_eq_some_iff.1 H8).1).trans H8
      skip
      skip
      replace K := K.trans (hb.mono K.size)
      replace XP := XP.step hb
      replace XS := XS.step hb
      replace L := L.below hb
      replace Os := Os.below hb
      replace O1 := O1.below hb
      have hsz := hb.size
      try replace h3g := Nat.lt_of_lt_of_le h3g hsz
      clear hb hsz
      obtain ⟨y0, y1, y2, y3, rfl, -⟩ := Ox.it
      obtain ⟨⟨X0, m0, rfl⟩, ⟨X1, m1, rfl⟩, ⟨X2, m2, rfl⟩, ⟨X3, m3, rfl⟩⟩ := Ox.shapes
      dsimp only
      go_wp2_with fail
      refine hK.out _ _ XP.C (fun _ => ?_)
      clear hK K'
      try (change wpAnyH _ _ _ _ _ _ _ (Act.put _ (some 54) _) _; dsimp only [Act.put])
      refine wpAnyH_take (i := 5) (v := ?_) rfl (by kernel_rfl) (by kernel_rfl) (by kernel_rfl) (fun _ _ _ h => h) (Or.inl ⟨by rfl, ?_⟩) XP.C ?_
      rotate_left 1
      · intro w hSw
        skip
        go_simp
        try with_reducible rfl
      change wpAnyH _ _ _ _ _ _ _ (Act.put _ (some 49) _) _
      dsimp only [Act.put]
      refine wpAnyH_take (i := 6) (v := ?_) rfl (by kernel_rfl) (by kernel_rfl) (by kernel_rfl) (fun _ _ _ h => h) (Or.inl ⟨by rfl, ?_⟩) XP.C ?_
      rotate_left 1
      · intro w hSw
        skip
        go_simp
        try with_reducible rfl
      change wpAnyH _ _ _ _ _ _ _ (Act.put _ (some 55) _) _
      dsimp only [Act.put]
      refine wpAnyH_take (i := 7) (v := ?_) rfl (by kernel_rfl) (by kernel_rfl) (by kernel_rfl) (fun _ _ _ h => h) (Or.inl ⟨by rfl, ?_⟩) XP.C ?_
      rotate_left 1
      · intro w hSw
        skip
        go_simp
        try with_reducible rfl
      change wpAnyH _ _ _ _ _ _ _ (Act.put _ (some 56) _) _
      dsimp only [Act.put]
      refine wpAnyH_ready (rs := [9]) (by kernel_rfl) (by simp) ?_
      refine AllReadyH.cons rfl (fun K' hK => ?_) AllReadyH.nil
      rw [if_pos (by rfl)]
      refine wp_store_row 34 (.tmp 8) (.tmp 55) rfl R8 (stC X0 X1 X2 X3 s.pods.length m0 s.mnts.length m1 s.devs.length m2 s.lks.length m3 s.ph s.co s.ck s.bo s.ba s.lb s.gd s.pr) rfl rfl 34 _ H8 HIS.out rfl (by simp [Value.oneCell']) ?_
      have kk := keepsRow_ v3 (R8) (stC X0 X1 X2 X3 s.pods.length m0 s.mnts.length m1 s.devs.length m2 s.lks.length m3 s.ph s.co s.ck s.bo s.ba s.lb s.gd s.pr)
      replace O1 : OR _ _ _ _ := ownsRow_keeps O1 kk (row_apart O1 H8 (by decide))
      replace Ox := Ox.keepsT kk H8 (by decide)
      replace K := belowRow_ K (B := R8) (by omega) (stC X0 X1 X2 X3 s.pods.length m0 s.mnts.length m1 s.devs.length m2 s.lks.length m3 s.ph s.co s.ck s.bo s.ba s.lb s.gd s.pr)
      replace XP := XP.keeps kk (by rintro b rfl; omega) (by show ¬ b3 = R8; omega)
      replace XS := XS.keeps kk (by rintro b rfl; omega) (by show ¬ b3 + 1 = R8; omega)
      replace L := L.keeps kk H8 (by decide)
      replace Os := Os.keepsT kk H8 (by decide)
      replace H8 := setRow_heap _ _ _ (stC X0 X1 X2 X3 s.pods.length m0 s.mnts.length m1 s.devs.length m2 s.lks.length m3 s.ph s.co s.ck s.bo s.ba s.lb s.gd s.pr) _ _ H8
      clear kk
      generalize v3.setRow R8 (stC X0 X1 X2 X3 s.pods.length m0 s.mnts.length m1 s.devs.length m2 s.lks.length m3 s.ph s.co s.ck s.bo s.ba s.lb s.gd s.pr) = v4 at H8 Ox K XP XS L Os O1 ⊢
      refine hK.out _ _ XP.C (fun _ => ?_)
      clear hK K'
      try (change wpAnyH _ _ _ _ _ _ _ (Act.put _ none _) _; dsimp only [Act.put])
      refine wpAnyH_ready (rs := [10]) (by kernel_rfl) (by simp) ?_
      refine AllReadyH.cons rfl (fun K' hK => ?_) AllReadyH.nil
      go_simp
      refine hK.out _ _ XP.C (fun _ => ?_)
      clear hK K'
      try (change wpAnyH _ _ _ _ _ _ _ (Act.put _ (some 9) _) _; dsimp only [Act.put])
      refine wpAnyH_done (by kernel_rfl) ?_ _
      refine NoPanic.normal ?_
      clear h8g h8w h3g
      have h4 : ∀ o, v4.cell? ⟨R8, o, none⟩ = (stC X0 X1 X2 X3 s.pods.length m0 s.mnts.length m1 s.devs.length m2 s.lks.length m3 s.ph s.co s.ck s.bo s.ba s.lb s.gd s.pr)[o]? := fun o => cell_of_row _ _ o _ _ _ H8
      go_wp2_with fail
      refine (framed_any _ (snapD d s) _ (HN.out.go K) O1.rt).mono ?_
      rintro e w12 ⟨vf, rfl, -, hb⟩
      rw [HW.out]
      clear h4
      replace H8 := (hb.block _ (Array.getElem?_eq_some_iff.1 H8).1).trans H8
      replace XS := XS.step hb
      replace Ox := Ox.below hb
      replace Os := Os.below hb
      replace K := K.trans (hb.mono K.size)
      clear hb
      have h4 : ∀ o, w12.cell? ⟨R8, o, none⟩ = (stC X0 X1 X2 X3 s.pods.length m0 s.mnts.length m1 s.devs.length m2 s.lks.length m3 s.ph s.co s.ck s.bo s.ba s.lb s.gd s.pr)[o]? := fun o => cell_of_row _ _ o _ _ _ H8
      have h2 := XS.C
      go_wp2_with fail
      have hcall := implSame_any _ _ s s w12 Ox.st Os.st
      rw [decide_eq_true (rfl : s = s)] at hcall
      refine hcall.mono ?_
      clear hcall
      rintro e w13 ⟨rfl, hb⟩
      clear h4 h2
      go_wp2
      all_goals (go_ret; exact ⟨rfl, K.trans (hb.mono K.size)⟩)
    refine AllReadyH.cons rfl (fun K' hK => ?_) AllReadyH.nil
    go_simp
    have h8g : b3 + 1 < v0.heap.size := XS.z
    have h8w : w.heap.size ≤ v0.heap.size := K.size
    have H8 := heap_alloc_new v0 (.cells (stC none none none none 0 0 0 0 0 0 0 0 0 false 0 0 0 0 0 0) 34)
    have hb := (Below.refl v0.heap.size v0).alloc (Nat.le_refl _) (.cells (stC none none none none 0 0 0 0 0 0 0 0 0 false 0 0 0 0 0 0) 34)
    skip
    try replace On := On.below hb
    try replace Ox := Ox.below hb
    replace K := K.trans (hb.mono K.size)
    replace XP := XP.step hb
    replace XS := XS.step hb
    replace L := L.below hb
    replace Os := Os.below hb
    replace O1 := O1.below hb
    have hsz := hb.size
    try replace h3g := Nat.lt_of_lt_of_le h3g hsz
    clear hb hsz
    generalize hW8 : v0.alloc (.cells (stC none none none none 0 0 0 0 0 0 0 0 0 false 0 0 0 0 0 0) 34) = v1 at *
    clear hW8
    generalize v0.heap.size = R8 at H8 h8g h8w ⊢
    refine hK.out _ _ XP.C (fun _ => ?_)
    clear hK K'
    try (change wpAnyH _ _ _ _ _ _ _ (Act.put _ (some 8) _) _; dsimp only [Act.put])
    refine wpAnyH_ready (rs := [2]) (by kernel_rfl) (by simp) ?_
    refine AllReadyH.cons rfl (fun K' hK => ?_) AllReadyH.nil
    go_simp
    go_at_call 19
    refine (implNewState_any _ d v1 L.plan).mono ?_
    rintro e v2 ⟨vn, rfl, On, hb⟩
    try replace H8 := (hb.block _ (Array.getElem?_eq_some_iff.1 H8).1).trans H8
    skip
    try replace Ox := Ox.below hb
    replace K := K.trans (hb.mono K.size)
    replace XP := XP.step hb
    replace XS := XS.step hb
    replace L := L.below hb
    replace Os := Os.below hb
    replace O1 := O1.below hb
    have hsz := hb.size
    try replace h3g := Nat.lt_of_lt_of_le h3g hsz
    clear hb hsz
    go_wp2_with fail
    refine hK.out _ _ XP.C (fun _ => ?_)
    clear hK K'
    try (change wpAnyH _ _ _ _ _ _ _ (Act.put _ (some 52) _) _; dsimp only [Act.put])
    refine wpAnyH_ready (rs := [4]) (by kernel_rfl) (by simp) ?_
    refine AllReadyH.cons rfl (fun K' hK => ?_) AllReadyH.nil
    go_simp
    go_at_call 18
    have hall := implAll_any _ _ _ d (newS d) (snapD d s) v2 L.plan (On.isR HFN.out) O1.rt (HN.out.go K)
    rw [HX.out] at hall
    refine hall.mono ?_
    clear hall
    rintro e v3 ⟨vx, rfl, Ox, hb⟩
    clear On
    try replace H8 := (hb.block _ (Array.getElem?_eq_some_iff.1 H8).1).trans H8
    skip
    skip
    replace K := K.trans (hb.mono K.size)
    replace XP := XP.step hb
    replace XS := XS.step hb
    replace L := L.below hb
    replace Os := Os.below hb
    replace O1 := O1.below hb
    have hsz := hb.size
    try replace h3g := Nat.lt_of_lt_of_le h3g hsz
    clear hb hsz
    obtain ⟨y0, y1, y2, y3, rfl, -⟩ := Ox.it
    obtain ⟨⟨X0, m0, rfl⟩, ⟨X1, m1, rfl⟩, ⟨X2, m2, rfl⟩, ⟨X3, m3, rfl⟩⟩ := Ox.shapes
    dsimp only
    go_wp2_with fail
    refine hK.out _ _ XP.C (fun _ => ?_)
    clear hK K'
    try (change wpAnyH _ _ _ _ _ _ _ (Act.put _ (some 54) _) _; dsimp only [Act.put])
    refine wpAnyH_take (i := 5) (v := ?_) rfl (by kernel_rfl) (by kernel_rfl) (by kernel_rfl) (fun _ _ _ h => h) (Or.inl ⟨by rfl, ?_⟩) XP.C ?_
    rotate_left 1
    · intro w hSw
      skip
      go_simp
      try with_reducible rfl
    change wpAnyH _ _ _ _ _ _ _ (Act.put _ (some 49) _) _
    dsimp only [Act.put]
    refine wpAnyH_take (i := 6) (v := ?_) rfl (by kernel_rfl) (by kernel_rfl) (by kernel_rfl) (fun _ _ _ h => h) (Or.inl ⟨by rfl, ?_⟩) XP.C ?_
    rotate_left 1
    · intro w hSw
      skip
      go_simp
      try with_reducible rfl
    change wpAnyH _ _ _ _ _ _ _ (Act.put _ (some 55) _) _
    dsimp only [Act.put]
    refine wpAnyH_take (i := 7) (v := ?_) rfl (by kernel_rfl) (by kernel_rfl) (by kernel_rfl) (fun _ _ _ h => h) (Or.inl ⟨by rfl, ?_⟩) XP.C ?_
    rotate_left 1
    · intro w hSw
      skip
      go_simp
      try with_reducible rfl
    change wpAnyH _ _ _ _ _ _ _ (Act.put _ (some 56) _) _
    dsimp only [Act.put]
    refine wpAnyH_ready (rs := [9]) (by kernel_rfl) (by simp) ?_
    refine AllReadyH.cons rfl (fun K' hK => ?_) AllReadyH.nil
    rw [if_pos (by rfl)]
    refine wp_store_row 34 (.tmp 8) (.tmp 55) rfl R8 (stC X0 X1 X2 X3 s.pods.length m0 s.mnts.length m1 s.devs.length m2 s.lks.length m3 s.ph s.co s.ck s.bo s.ba s.lb s.gd s.pr) rfl rfl 34 _ H8 HIS.out rfl (by simp [Value.oneCell']) ?_
    have kk := keepsRow_ v3 (R8) (stC X0 X1 X2 X3 s.pods.length m0 s.mnts.length m1 s.devs.length m2 s.lks.length m3 s.ph s.co s.ck s.bo s.ba s.lb s.gd s.pr)
    replace O1 : OR _ _ _ _ := ownsRow_keeps O1 kk (row_apart O1 H8 (by decide))
    replace Ox := Ox.keepsT kk H8 (by decide)
    replace K := belowRow_ K (B := R8) (by omega) (stC X0 X1 X2 X3 s.pods.length m0 s.mnts.length m1 s.devs.length m2 s.lks.length m3 s.ph s.co s.ck s.bo s.ba s.lb s.gd s.pr)
    replace XP := XP.keeps kk (by rintro b rfl; omega) (by show ¬ b3 = R8; omega)
    replace XS := XS.keeps kk (by rintro b rfl; omega) (by show ¬ b3 + 1 = R8; omega)
    replace L := L.keeps kk H8 (by decide)
    replace Os := Os.keepsT kk H8 (by decide)
    replace H8 := setRow_heap _ _ _ (stC X0 X1 X2 X3 s.pods.length m0 s.mnts.length m1 s.devs.length m2 s.lks.length m3 s.ph s.co s.ck s.bo s.ba s.lb s.gd s.pr) _ _ H8
    clear kk
    generalize v3.setRow R8 (stC X0 X1 X2 X3 s.pods.length m0 s.mnts.length m1 s.devs.length m2 s.lks.length m3 s.ph s.co s.ck s.bo s.ba s.lb s.gd s.pr) = v4 at H8 Ox K XP XS L Os O1 ⊢
    refine hK.out _ _ XP.C (fun _ => ?_)
    clear hK K'
    try (change wpAnyH _ _ _ _ _ _ _ (Act.put _ none _) _; dsimp only [Act.put])
    refine wpAnyH_ready (rs := [10]) (by kernel_rfl) (by simp) ?_
    refine AllReadyH.cons rfl (fun K' hK => ?_) AllReadyH.nil
    go_simp
    refine hK.out _ _ XP.C (fun _ => ?_)
    clear hK K'
    try (change wpAnyH _ _ _ _ _ _ _ (Act.put _ (some 9) _) _; dsimp only [Act.put])
    refine wpAnyH_done (by kernel_rfl) ?_ _
    refine NoPanic.normal ?_
    clear h8g h8w h3g
    have h4 : ∀ o, v4.cell? ⟨R8, o, none⟩ = (stC X0 X1 X2 X3 s.pods.length m0 s.mnts.length m1 s.devs.length m2 s.lks.length m3 s.ph s.co s.ck s.bo s.ba s.lb s.gd s.pr)[o]? := fun o => cell_of_row _ _ o _ _ _ H8
    go_wp2_with fail
    refine (framed_any _ (snapD d s) _ (HN.out.go K) O1.rt).mono ?_
    rintro e w12 ⟨vf, rfl, -, hb⟩
    rw [HW.out]
    clear h4
    replace H8 := (hb.block _ (Array.getElem?_eq_some_iff.1 H8).1).trans H8
    replace XS := XS.step hb
    replace Ox := Ox.below hb
    replace Os := Os.below hb
    replace K := K.trans (hb.mono K.size)
    clear hb
    have h4 : ∀ o, w12.cell? ⟨R8, o, none⟩ = (stC X0 X1 X2 X3 s.pods.length m0 s.mnts.length m1 s.devs.length m2 s.lks.length m3 s.ph s.co s.ck s.bo s.ba s.lb s.gd s.pr)[o]? := fun o => cell_of_row _ _ o _ _ _ H8
    have h2 := XS.C
    go_wp2_with fail
    have hcall := implSame_any _ _ s s w12 Ox.st Os.st
    rw [decide_eq_true (rfl : s = s)] at hcall
    refine hcall.mono ?_
    clear hcall
    rintro e w13 ⟨rfl, hb⟩
    clear h4 h2
    go_wp2
    all_goals (go_ret; exact ⟨rfl, K.trans (hb.mono K.size)⟩)
end Go.Proofs.YtdkmhaghnfhajaaGreatDoor
