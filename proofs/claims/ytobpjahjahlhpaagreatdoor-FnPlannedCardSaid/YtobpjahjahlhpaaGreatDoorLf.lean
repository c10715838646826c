/-
  FnPlanned's walk.
-/
import Derived.Test.YtobpjahjahlhpaaGreatDoorLe
import Derived.Test.YtobpjahjahlhpaaGreatDoorLp
import Derived.Test.YtobpjahjahlhpaaGreatDoorMZxLz
import Derived.Deep.RegionHeld3
set_option linter.unusedVariables false
namespace Go.Proofs.YtobpjahjahlhpaaGreatDoor
open Go.RowKit

set_option maxRecDepth 100000 in
set_option maxHeartbeats 4000000 in
theorem lawPlannedF (K_ O_ P_ S_ B_ : Addr) (A : Option Addr) (n c : Nat) (w : World) (hE : Errs w K_ O_ P_ S_ B_) (hN : Names w) (hB : Bytes w w.heap.size A n) (hn : n ≤ maxLen) : Calls Tryz.prog 3 #[.slice A n c] w fun e w' => e = .returned (.bool true) ∧ Below w.heap.size w w' := by
  have HB := Lib.hid hB
  have HN := Lib.hid hN
  have HE := Lib.hid hE
  clear hB hN hE
  go_enter Tryz.func3, Tryz.ntmps3
  go_wp2_with fail
  refine (big_any A n c _ hn).mono ?_
  rintro e w2 ⟨rfl, rfl⟩
  by_cases hbig : 4096 < (n : Int)
  · go_wp2_with fail
    go_ret
    exact ⟨rfl, Below.refl _ _⟩
  · have hn4 : n ≤ 4096 := by omega
    clear hbig
    go_wp2_with fail
    refine (drawPlanned_any A n c _ HB.out hn4).mono ?_
    rintro e w3 ⟨v0, v1, v2, v3, d, vs, s, xk, xa, xb, rfl, L, Os, hd, hs, K⟩
    obtain ⟨V0, C0, rfl, -, -⟩ := L.o0.formR
    obtain ⟨V1, C1, rfl, -, -⟩ := L.o1.formR
    obtain ⟨V2, C2, rfl, -, -⟩ := L.o2.formR
    obtain ⟨V3, C3, rfl, -, -⟩ := L.o3.formR
    obtain ⟨y0, y1, y2, y3, rfl, -⟩ := Os.it
    obtain ⟨⟨E0, k0, rfl⟩, ⟨E1, k1, rfl⟩, ⟨E2, k2, rfl⟩, ⟨E3, k3, rfl⟩⟩ := Os.shapes
    have hf : StFits s 1048576 := ⟨by have := hs.s0; omega, by have := hs.s1; omega, by have := hs.s2; omega, by have := hs.s3; omega⟩
    go_upto_region 4 with fail
    have hK0 : Below w3.heap.size w3 w3 := Below.refl _ _
    have XP := Own.box2 K (planC V0 V1 V2 V3 d.n0 C0 d.n1 C1 d.n2 C2 d.n3 C3 d.l d.p d.t) 29
    have hK1 := hK0.alloc hK0.size (.cells (planC V0 V1 V2 V3 d.n0 C0 d.n1 C1 d.n2 C2 d.n3 C3 d.l d.p d.t) 29)
    have XS := Own.box2 (K.trans (hK1.mono K.size)) (stC E0 E1 E2 E3 s.pods.length k0 s.mnts.length k1 s.devs.length k2 s.lks.length k3 s.ph s.co s.ck s.bo s.ba s.lb s.gd s.pr) 34
    have hK2 := hK1.alloc hK1.size (.cells (stC E0 E1 E2 E3 s.pods.length k0 s.mnts.length k1 s.devs.length k2 s.lks.length k3 s.ph s.co s.ck s.bo s.ba s.lb s.gd s.pr) 34)
    replace XP := XP.alloc (.cells (stC E0 E1 E2 E3 s.pods.length k0 s.mnts.length k1 s.devs.length k2 s.lks.length k3 s.ph s.co s.ck s.bo s.ba s.lb s.gd s.pr) 34)
    have XO := Own.box2 (K.trans (hK2.mono K.size)) (ordC xk xa xb) 36
    have hK3 := hK2.alloc hK2.size (.cells (ordC xk xa xb) 36)
    replace XP := XP.alloc (.cells (ordC xk xa xb) 36)
    replace XS := XS.alloc (.cells (ordC xk xa xb) 36)
    have hb := hK3
    replace K := K.trans (hb.mono K.size)
    replace L := L.below hb
    replace Os := Os.below hb
    clear hb hK0 hK1 hK2 hK3
    try rw [heap_size_alloc_] at XS
    try rw [heap_size_alloc_ , heap_size_alloc_] at XO
    generalize (((w3.alloc (.cells (planC V0 V1 V2 V3 d.n0 C0 d.n1 C1 d.n2 C2 d.n3 C3 d.l d.p d.t) 29)).alloc (.cells (stC E0 E1 E2 E3 s.pods.length k0 s.mnts.length k1 s.devs.length k2 s.lks.length k3 s.ph s.co s.ck s.bo s.ba s.lb s.gd s.pr) 34)).alloc (.cells (ordC xk xa xb) 36)) = w4 at K L Os XP XS XO ⊢
    generalize hw3 : w3.heap.size = b3 at XP XS XO ⊢
    obtain ⟨l, cd, hx⟩ : ∃ l cd, plannedD d s xk xa xb = (l, cd) := by
      generalize plannedD d s xk xa xb = q
      exact ⟨q.1, q.2, rfl⟩
    have HX := Lib.hid hx
    have HG := Lib.hid (planned_good (d := d) (s := s) hx)
    clear hx
    have h1 := XP.C
    have h2 := XS.C
    have h3 := XO.C
    go_wp2_with fail
    have hall := implPlanned_any K_ O_ P_ S_ B_ _ _ d s xk xa xb w4 L.plan Os.st (HE.out.below K)
    rw [HX.out] at hall
    refine hall.mono ?_
    rintro e w5 ⟨v, rfl, O1, hb⟩
    dsimp only at O1 ⊢
    clear hall h1 h2 h3
    replace K := K.trans (hb.mono K.size)
    replace L := L.below hb
    replace Os := Os.below hb
    replace XP := XP.step hb
    replace XS := XS.step hb
    replace XO := XO.step hb
    clear hb
    have h1 := XP.C
    have h2 := XS.C
    have h3 := XO.C
    go_wp2_with fail
    have hall := planned_any _ _ d s xk xa xb w5 L.plan Os.st
    rw [HX.out] at hall
    refine hall.mono ?_
    rintro e w6 ⟨v', rfl, O2, hb⟩
    dsimp only at O2 ⊢
    clear hall h1 h2 h3
    replace K := K.trans (hb.mono K.size)
    replace L := L.below hb
    replace Os := Os.below hb
    replace XP := XP.step hb
    replace XS := XS.step hb
    replace XO := XO.step hb
    replace O1 := O1.below hb
    clear hb
    go_wp2_with fail
    refine (drawOrderOk_any A n c _ ((HB.out.below K (Nat.le_refl _)).more K.size) hn4).mono ?_
    rintro e w7 ⟨ek, ea, eb, rfl, hb⟩
    replace K := K.trans (hb.mono K.size)
    replace L := L.below hb
    replace Os := Os.below hb
    replace XP := XP.step hb
    replace XS := XS.step hb
    replace XO := XO.step hb
    replace O1 := O1.below hb
    replace O2 := O2.below hb
    clear hb
    go_upto_region 7 with fail
    have hK0 : Below w7.heap.size w7 w7 := Below.refl _ _
    have XE := Own.box2 K (ordC ek ea eb) 36
    have hK1 := hK0.alloc hK0.size (.cells (ordC ek ea eb) 36)
    have hb := hK1
    replace K := K.trans (hb.mono K.size)
    replace L := L.below hb
    replace Os := Os.below hb
    replace XP := XP.step hb
    replace XS := XS.step hb
    replace XO := XO.step hb
    replace O1 := O1.below hb
    replace O2 := O2.below hb
    clear hb hK0 hK1
    generalize (w7.alloc (.cells (ordC ek ea eb) 36)) = w8 at K L Os XP XS XO O1 O2 XE ⊢
    generalize hw7 : w7.heap.size = b7 at XE ⊢
    have S0 : (∀ o, w8.cell? ⟨b7, o, none⟩ = (ordC ek ea eb)[o]?) ∧ Below w8.heap.size w8 w8 := ⟨XE.C, Below.refl _ _⟩
    obtain ⟨oq, hoq⟩ : ∃ oq, orderOkB ek ea eb = oq := ⟨_, rfl⟩
    have HOQ := Lib.hid hoq
    clear hoq
    go_region_held3 (fun W => (∀ o, W.cell? ⟨b7, o, none⟩ = (ordC ek ea eb)[o]?) ∧ Below w8.heap.size w8 W)
      (first | exact S0 | exact S1 | exact S2 | exact S3 | (exact ⟨S0.1, S0.2.drew⟩))
      (first
        | (go_at_call 11
           have hq := S2
           clear hq
           have hcall := orderOk_any ek ea eb w9b
           rw [HOQ.out] at hcall
           refine hcall.mono ?_
           clear hcall
           rintro e w9c ⟨rfl, hb3⟩
           have K3 := K2.trans (hb3.mono K2.size)
           have S3 : (∀ o, w9c.cell? ⟨b7, o, none⟩ = (ordC ek ea eb)[o]?) ∧ Below w8.heap.size w8 w9c := ⟨(XE.step K3).C, K3⟩)
        | (go_at_call 10
           have hq := S1
           clear hq
           have hcall := implOrderOk_any ek ea eb w9a
           rw [HOQ.out] at hcall
           refine hcall.mono ?_
           clear hcall
           rintro e w9b ⟨rfl, hb2⟩
           have K2 := K1.trans (hb2.mono K1.size)
           have S2 : (∀ o, w9b.cell? ⟨b7, o, none⟩ = (ordC ek ea eb)[o]?) ∧ Below w8.heap.size w8 w9b := ⟨(XE.step K2).C, K2⟩)
        | (go_at_call 9
           have Kd : Below w8.heap.size w8 w8.drew := (Below.refl _ _).drew
           refine (likeRecs_same _ _ l _ (O1.below Kd).rt (O2.below Kd).rt).mono ?_
           rintro e w9a ⟨rfl, hb1⟩
           have K1 := Kd.trans (hb1.mono Kd.size)
           have S1 : (∀ o, w9a.cell? ⟨b7, o, none⟩ = (ordC ek ea eb)[o]?) ∧ Below w8.heap.size w8 w9a := ⟨(XE.step K1).C, K1⟩))
    have hb := K3
    clear S0 S1 S2 S3 Kd K1 K2 K3 hb1 hb2 hb3
    replace K := K.trans (hb.mono K.size)
    replace L := L.below hb
    replace Os := Os.below hb
    replace XP := XP.step hb
    replace XS := XS.step hb
    replace XO := XO.step hb
    replace O1 := O1.below hb
    replace O2 := O2.below hb
    replace XE := XE.step hb
    clear hb O2 XE
    obtain ⟨AL, CL, sl, rfl, -⟩ := O1.open_
    have hlb : l.length ≤ 2 ^ 63 - 1 := by have := O1.len; unfold maxLen at this; omega
    rcases HG.out with ⟨h0, hok, hcase⟩ | ⟨h0, hl⟩
    case inr =>
      have HL : Hid (l.length = 0) := Lib.hid (by rw [hl]; rfl)
      have hc1 : (cd != 0) = true := by simpa using h0
      have hl0 : (l.length : Int) = 0 := by have := HL.out; omega
      clear h0 hl
      go_wp2
      all_goals (go_ret; exact ⟨ret_bool (by simp), K⟩)
    case inl =>
      subst h0
      have HOK := Lib.hid hok
      clear hok
      have h1 := XP.C
      have h2 := XS.C
      have h3 := XO.C
      rcases hcase with ⟨hk13, hpt⟩ | ⟨hno, x, hx1, hx2, hfx⟩
      · subst hk13
        have hge : decide (s.pr ≥ d.t) = true := by simpa using hpt
        have hge2 : decide (d.t ≤ s.pr) = true := by simpa using hpt
        clear hpt
        go_wp2_with fail
        have hall := implOrderOk_any 13 xa xb w9c
        rw [HOK.out] at hall
        refine hall.mono ?_
        clear hall
        rintro e we ⟨rfl, hb⟩
        go_wp2
        go_ret
        exact ⟨rfl, K.trans (hb.mono K.size)⟩
      · have HX1 := Lib.hid hx1
        have HSO := Lib.hid (stOkB_iff.2 hx2)
        have HNO : Hid ((xk == 13 && decide (d.t ≤ s.pr)) = false) := Lib.hid (by
          by_cases h : xk = 13
          · have : ¬ d.t ≤ s.pr := fun h' => hno ⟨h, h'⟩
            simp [this]
          · simp [h])
        have hno2 : (xk == 13) = false ∨ ((xk == 13) = true ∧ decide (d.t ≤ s.pr) = false) := by
          by_cases h : xk = 13
          · exact .inr ⟨by simp [h], by simpa using fun h' => hno ⟨h, h'⟩⟩
          · exact .inl (by simp [h])
        clear hx1 hx2 hno HNO
        rcases hno2 with hn1 | ⟨hn1, hn2⟩
        all_goals
          try have hn3 : decide (s.pr ≥ d.t) = false := hn2
          go_wp2_with fail
          have hall := implAll_any _ _ _ d s l w9c L.plan (Os.isR hf) O1.rt (HN.out.go K)
          rw [HX1.out] at hall
          refine hall.mono ?_
          rintro e w10 ⟨vx, rfl, Ox, hb⟩
          try clear hn2 hn3
          clear hall h1 h2 h3 hn1
          replace K := K.trans (hb.mono K.size)
          replace L := L.below hb
          replace Os := Os.below hb
          replace XP := XP.step hb
          replace XS := XS.step hb
          replace XO := XO.step hb
          replace O1 := O1.below hb
          clear hb
          obtain ⟨y0, y1, y2, y3, rfl, -⟩ := Ox.it
          obtain ⟨⟨X0, m0, rfl⟩, ⟨X1, m1, rfl⟩, ⟨X2, m2, rfl⟩, ⟨X3, m3, rfl⟩⟩ := Ox.shapes
          go_upto_region 14 with fail
          have hK0 : Below w10.heap.size w10 w10 := Below.refl _ _
          have XX := Own.box2 K (stC X0 X1 X2 X3 x.pods.length m0 x.mnts.length m1 x.devs.length m2 x.lks.length m3 x.ph x.co x.ck x.bo x.ba x.lb x.gd x.pr) 34
          have hK1 := hK0.alloc hK0.size (.cells (stC X0 X1 X2 X3 x.pods.length m0 x.mnts.length m1 x.devs.length m2 x.lks.length m3 x.ph x.co x.ck x.bo x.ba x.lb x.gd x.pr) 34)
          have hb := hK1
          replace K := K.trans (hb.mono K.size)
          replace L := L.below hb
          replace Os := Os.below hb
          replace XP := XP.step hb
          replace XS := XS.step hb
          replace XO := XO.step hb
          replace O1 := O1.below hb
          replace Ox := Ox.below hb
          clear hb hK0 hK1
          generalize (w10.alloc (.cells (stC X0 X1 X2 X3 x.pods.length m0 x.mnts.length m1 x.devs.length m2 x.lks.length m3 x.ph x.co x.ck x.bo x.ba x.lb x.gd x.pr) 34)) = w11 at K L Os XP XS XO O1 Ox XX ⊢
          generalize hw10 : w10.heap.size = b10 at XX ⊢
          have h1 := XP.C
          have h2 := XX.C
          have h3 := XO.C
          go_wp2_with fail
          refine (implStateOk_any _ _ d x _ L.plan Ox.st).mono ?_
          rintro e w12 ⟨rfl, hb⟩
          rw [HSO.out]
          clear h1 h2 h3
          replace K := K.trans (hb.mono K.size)
          replace L := L.below hb
          replace Os := Os.below hb
          replace XP := XP.step hb
          replace XS := XS.step hb
          replace XO := XO.step hb
          replace O1 := O1.below hb
          replace Ox := Ox.below hb
          replace XX := XX.step hb
          clear hb
          have h3 := XO.C
          go_wp2_with fail
          have hall := implOrderOk_any xk xa xb w12
          rw [HOK.out] at hall
          refine hall.mono ?_
          clear hall
          rintro e we ⟨rfl, hb⟩
          go_wp2
          go_ret
          exact ⟨rfl, K.trans (hb.mono K.size)⟩
end Go.Proofs.YtobpjahjahlhpaaGreatDoor
