/-
  FnBoots' walk.
-/
import Derived.Test.YtmgckdmglnmnnaaGreatDoorMZxOg
import Derived.Test.YtmgckdmglnmnnaaGreatDoorMZ15
import Derived.Test.YtmgckdmglnmnnaaGreatDoorMZxOc
import Derived.Deep.RegionHeld3
import Derived.Test.YtmgckdmglnmnnaaGreatDoorMZ14
import Derived.Test.YtmgckdmglnmnnaaGreatDoorMZ3
import Derived.Test.YtmgckdmglnmnnaaGreatDoorMZ0
/- Oh -/
set_option linter.unusedVariables false
namespace Go.Proofs.YtmgckdmglnmnnaaGreatDoor
open Go.RowKit

set_option maxRecDepth 100000 in
set_option maxHeartbeats 4000000 in
theorem lawBoots (A : Option Addr) (n c : Nat) (w : World) (hN : Names w) (hB : Bytes w w.heap.size A n) (hn : n ≤ maxLen) : Calls Tryz.prog 3 #[.slice A n c] w fun e w' => e = .returned (.bool true) ∧ Below w.heap.size w w' := by
  have HB := Lib.hid hB
  have HN := Lib.hid hN
  clear hB hN
  go_enter Tryz.func3, Tryz.ntmps3
  go_wp2_with fail
  refine (big_any A n c _ hn).mono ?_
  rintro e w2 ⟨rfl, rfl⟩
  by_cases hbig : 4096 < (n : Int)
  · go_wp2_with fail
    go_ret
    exact ⟨rfl, Below.refl _ _⟩
  · have hn4 : n ≤ 4096 := by omega
    clear hbig
    go_wp2_with fail
    refine (drawBootRecs_any A n c _ HB.out hn4).mono ?_
    rintro e w3 ⟨v0, v1, v2, v3, d, vs, s, id, rfl, L, Os, hd, hs, K⟩
    obtain ⟨V0, C0, rfl, -, -⟩ := L.o0.formR
    obtain ⟨V1, C1, rfl, -, -⟩ := L.o1.formR
    obtain ⟨V2, C2, rfl, -, -⟩ := L.o2.formR
    obtain ⟨V3, C3, rfl, -, -⟩ := L.o3.formR
    obtain ⟨y0, y1, y2, y3, rfl, -⟩ := Os.it
    obtain ⟨⟨E0, k0, rfl⟩, ⟨E1, k1, rfl⟩, ⟨E2, k2, rfl⟩, ⟨E3, k3, rfl⟩⟩ := Os.shapes
    have hf : StFits s 1048576 := ⟨by have := hs.s0; omega, by have := hs.s1; omega, by have := hs.s2; omega, by have := hs.s3; omega⟩
    go_upto_region 4 with fail
    have hK0 : Below w3.heap.size w3 w3 := Below.refl _ _
    have XP := Own.box2 K (planC V0 V1 V2 V3 d.n0 C0 d.n1 C1 d.n2 C2 d.n3 C3 d.l d.p d.t) 29
    have hK1 := hK0.alloc hK0.size (.cells (planC V0 V1 V2 V3 d.n0 C0 d.n1 C1 d.n2 C2 d.n3 C3 d.l d.p d.t) 29)
    have XS := Own.box2 (K.trans (hK1.mono K.size)) (stC E0 E1 E2 E3 s.pods.length k0 s.mnts.length k1 s.devs.length k2 s.lks.length k3 s.ph s.co s.ck s.bo s.ba s.lb s.gd s.pr) 34
    have hK2 := hK1.alloc hK1.size (.cells (stC E0 E1 E2 E3 s.pods.length k0 s.mnts.length k1 s.devs.length k2 s.lks.length k3 s.ph s.co s.ck s.bo s.ba s.lb s.gd s.pr) 34)
    replace XP := XP.alloc (.cells (stC E0 E1 E2 E3 s.pods.length k0 s.mnts.length k1 s.devs.length k2 s.lks.length k3 s.ph s.co s.ck s.bo s.ba s.lb s.gd s.pr) 34)
    have hb := hK2
    replace K := K.trans (hb.mono K.size)
    replace L := L.below hb
    replace Os := Os.below hb
    clear hb hK0 hK1 hK2
    try rw [heap_size_alloc_] at XS
    generalize ((w3.alloc (.cells (planC V0 V1 V2 V3 d.n0 C0 d.n1 C1 d.n2 C2 d.n3 C3 d.l d.p d.t) 29)).alloc (.cells (stC E0 E1 E2 E3 s.pods.length k0 s.mnts.length k1 s.devs.length k2 s.lks.length k3 s.ph s.co s.ck s.bo s.ba s.lb s.gd s.pr) 34)) = w4 at K L Os XP XS ⊢
    generalize hw3 : w3.heap.size = b3 at XP XS ⊢
    obtain ⟨l, cd, hx⟩ : ∃ l cd, (if stOkB d s then bootD d s id else noR 1) = (l, cd) := by
      generalize (if stOkB d s then bootD d s id else noR 1) = q
      exact ⟨q.1, q.2, rfl⟩
    have HX := Lib.hid hx
    have HG := Lib.hid (boot_good (d := d) (s := s) hx)
    clear hx
    have h1 := XP.C
    have h2 := XS.C
    go_wp2_with fail
    have hall := implBootRecs_any _ _ d s id w4 L.plan Os.st
    rw [HX.out] at hall
    refine hall.mono ?_
    rintro e w5 ⟨v, rfl, O1, hb⟩
    dsimp only at O1 ⊢
    clear hall h1 h2
    replace K := K.trans (hb.mono K.size)
    replace L := L.below hb
    replace Os := Os.below hb
    replace XP := XP.step hb
    replace XS := XS.step hb
    clear hb
    have h1 := XP.C
    have h2 := XS.C
    go_wp2_with fail
    have hall := bootRecs_any _ _ d s id w5 L.plan Os.st
    rw [HX.out] at hall
    refine hall.mono ?_
    rintro e w6 ⟨v', rfl, O2, hb⟩
    dsimp only at O2 ⊢
    clear hall h1 h2
    replace K := K.trans (hb.mono K.size)
    replace L := L.below hb
    replace Os := Os.below hb
    replace XP := XP.step hb
    replace XS := XS.step hb
    replace O1 := O1.below hb
    clear hb
    go_wp2_with fail
    refine (likeRecs_same _ _ l _ O1.rt O2.rt).mono ?_
    rintro e w7 ⟨rfl, hb⟩
    replace K := K.trans (hb.mono K.size)
    replace L := L.below hb
    replace Os := Os.below hb
    replace XP := XP.step hb
    replace XS := XS.step hb
    replace O1 := O1.below hb
    replace O2 := O2.below hb
    clear hb O2
    obtain ⟨AL, CL, sl, rfl, -⟩ := O1.open_
    have hlb : l.length ≤ 2 ^ 63 - 1 := by have := O1.len; unfold maxLen at this; omega
    rcases HG.out with ⟨h0, x, hx1, hx2, hx3, hx4, hx5, hx6, hx7, hx8, hx9, hxa, hxb, hxc⟩ | ⟨h0, hl⟩
    case inr =>
      have HL : Hid (l.length = 0) := Lib.hid (by rw [hl]; rfl)
      have hc1 : (cd != 0) = true := by simpa using h0
      have hl0 : (l.length : Int) = 0 := by have := HL.out; omega
      clear h0 hl
      go_wp2
      all_goals (go_ret; exact ⟨ret_bool (by simp), K⟩)
    case inl =>
      subst h0
      have HX1 := Lib.hid hx1
      have HSM := Lib.hid hx2
      have HLV := Lib.hid hx3
      have HHD := Lib.hid hx4
      have HPX := Lib.hid hxa
      have HLX := Lib.hid hx9
      have HFX := Lib.hid hxb
      have HPH := Lib.hid hxc
      have HX7 : Hid (x.lks.length = 0) := Lib.hid (by rw [hx7]; rfl)
      obtain ⟨xph, xco, xck, xbo, xba, xlb, xps, xms, xds, xls, xgd, xpr⟩ := x
      dsimp only at hx5 hx6 hx7 hx8 HPX HLX HPH HX7
      subst hx6
      have HX5 := Lib.hid hx5
      have HX8 := Lib.hid hx8
      have hsl := hs.s0
      clear hx1 hx2 hx3 hx4 hx5 hx7 hx8 hx9 hxa hxb hxc
      have h1 := XP.C
      have h2 := XS.C
      go_wp2_with fail
      have hall := implAll_any _ _ _ d s l w7 L.plan (Os.isR hf) O1.rt (HN.out.go K)
      rw [HX1.out] at hall
      refine hall.mono ?_
      rintro e w8 ⟨vx, rfl, Ox, hb⟩
      dsimp only at Ox ⊢
      clear hall h1 h2
      replace K := K.trans (hb.mono K.size)
      replace L := L.below hb
      replace Os := Os.below hb
      replace XP := XP.step hb
      replace XS := XS.step hb
      replace O1 := O1.below hb
      clear hb
      obtain ⟨y0, y1, y2, y3, rfl, -⟩ := Ox.it
      obtain ⟨⟨X0, m0, rfl⟩, ⟨X1, m1, rfl⟩, ⟨X2, m2, rfl⟩, ⟨X3, m3, rfl⟩⟩ := Ox.shapes
      dsimp only at Ox ⊢
      go_upto_region 11 with fail
      have hK0 : Below w8.heap.size w8 w8 := Below.refl _ _
      have XX := Own.box2 K (stC X0 X1 X2 X3 xps.length m0 xms.length m1 xds.length m2 xls.length m3 xph true xck xbo xba xlb xgd xpr) 34
      have hK1 := hK0.alloc hK0.size (.cells (stC X0 X1 X2 X3 xps.length m0 xms.length m1 xds.length m2 xls.length m3 xph true xck xbo xba xlb xgd xpr) 34)
      have hb := hK1
      replace K := K.trans (hb.mono K.size)
      replace L := L.below hb
      replace Os := Os.below hb
      replace XP := XP.step hb
      replace XS := XS.step hb
      replace O1 := O1.below hb
      replace Ox := Ox.below hb
      clear hb hK0 hK1
      generalize (w8.alloc (.cells (stC X0 X1 X2 X3 xps.length m0 xms.length m1 xds.length m2 xls.length m3 xph true xck xbo xba xlb xgd xpr) 34)) = w9 at K L Os XP XS O1 Ox XX ⊢
      generalize hw8 : w8.heap.size = b8 at XX ⊢
      have h1 := XX.C
      go_wp2_with fail
      refine (specDown_any _ _ w9 Ox.st HFX.out.f0 HLV.out HHD.out).mono ?_
      rintro e wd ⟨rfl, hb⟩
      clear h1
      replace K := K.trans (hb.mono K.size)
      replace L := L.below hb
      replace Os := Os.below hb
      replace XP := XP.step hb
      replace XS := XS.step hb
      replace O1 := O1.below hb
      replace Ox := Ox.below hb
      replace XX := XX.step hb
      clear hb
      have HK := Lib.hid K
      have HL := Lib.hid L
      have HOs := Lib.hid Os
      have HOx := Lib.hid Ox
      have HXP := Lib.hid XP
      have HXS := Lib.hid XS
      have HXX := Lib.hid XX
      have h1 := XS.C
      have h2 := XX.C
      have n1 : (xbo != id) = false := by simp [HX5.out]
      have n2 : (((xls.length : Nat) : Int) != 0) = false := by simp [HX7.out]
      have n3 : (xgd != 0) = false := by simp [HX8.out]
      clear K Os Ox XS XX XP L O1 hd hs hf
      go_wp2_with fail
      clear n1 n2 n3
      go_loopw [12] (fun i wr => ∃ (k : Nat), k ≤ s.pods.length ∧ i = .int .i64 k ∧ Below wd.heap.size wd wr) (fun i _ => s.pods.length - (intOf i).toNat)
      case atStart => exact ⟨0, Nat.zero_le _, rfl, Below.refl _ _⟩
      case round =>
        clear h1 h2
        obtain ⟨k, hk, rfl, KB⟩ := hrel
        have h1 := (HXS.out.step KB).C
        have h2 := (HXX.out.step KB).C
        by_cases hlt : k < s.pods.length
        · have hltx : k < xps.length := by rw [HLX.out]; exact hlt
          obtain ⟨gs, hY, -, hgs, -, HRs⟩ := HOs.out.podRow (i := k) hlt
          obtain ⟨gx, hZ, -, hgx, -, HRx⟩ := HOx.out.podRow (i := k) hltx
          dsimp only at HRx
          subst hY hZ
          have p0 := (KB.cell (p := ⟨gs, k * 2, none⟩) hgs).trans ((HRs (k * 2) (by rw [podCs_len]; omega)).1.trans (podCs_at s.pods (i := k) hlt).1)
          have p1 := (KB.cell (p := ⟨gs, k * 2 + 1, none⟩) hgs).trans ((HRs (k * 2 + 1) (by rw [podCs_len]; omega)).1.trans (podCs_at s.pods (i := k) hlt).2)
          have q0 := (KB.cell (p := ⟨gx, k * 2, none⟩) hgx).trans ((HRx (k * 2) (by rw [podCs_len]; omega)).1.trans (podCs_at xps (i := k) hltx).1)
          have q1 := (KB.cell (p := ⟨gx, k * 2 + 1, none⟩) hgx).trans ((HRx (k * 2 + 1) (by rw [podCs_len]; omega)).1.trans (podCs_at xps (i := k) hltx).2)
          clear HRs HRx
          have HPK := Lib.hid (HPX.out k hlt)
          have hxl : xps.length ≤ 12 := by rw [HLX.out]; exact hsl
          generalize podA s.pods k = a at p0 p1 HPK
          generalize podA xps k = b at q0 q1 HPK
          obtain ⟨a0, a1⟩ := a
          obtain ⟨y0, y1⟩ := b
          dsimp only at p0 p1 q0 q1 HPK
          cases ha : aliveB a0
          · have hsame := HPK.out.2 ha
            have e0 : y0 = a0 := congrArg Prod.fst hsame
            have e1 : y1 = a1 := congrArg Prod.snd hsame
            subst e0 e1
            have HA := Lib.hid ha
            clear ha hsame HPK
            have HAL : Hid (∀ W : World, Calls Tryz.prog 11 #[.int .i64 y0] W (fun e W' => e = .returned (.bool false) ∧ W' = W)) := Lib.hid fun W => by
              have := alive_any y0 W
              rw [HA.out] at this
              exact this.mono fun e w' h => ⟨h.1, h.2.symm⟩
            go_wp2_with fail
            go_quiet (first | (go_at_call 11; exact Calls.quiet_of_same (HAL.out _)))
            have KB2 := below_drewN KB nq
            clear HAL
            skip
            clear HA
            go_wp2_with fail
            exact ⟨⟨k + 1, by omega, by go_num, KB2⟩, by simp [intOf]; omega⟩
          · obtain ⟨h5, hne⟩ := HPK.out.1 ha
            subst h5
            have h9 : ¬ (5 : Int) = a0 := by rintro rfl; cases ha
            have HA := Lib.hid ha
            clear ha hne HPK
            have HAL : Hid (∀ W : World, Calls Tryz.prog 11 #[.int .i64 a0] W (fun e W' => e = .returned (.bool true) ∧ W' = W)) := Lib.hid fun W => by
              have := alive_any a0 W
              rw [HA.out] at this
              exact this.mono fun e w' h => ⟨h.1, h.2.symm⟩
            go_wp2_with fail
            go_quiet (first | (go_at_call 11; exact Calls.quiet_of_same (HAL.out _)))
            have KB2 := below_drewN KB nq
            clear HAL
            skip
            clear HA
            go_wp2_with fail
            exact ⟨⟨k + 1, by omega, by go_num, KB2⟩, by simp [intOf]; omega⟩
        · have h3 := (HXP.out.step KB).C
          go_wp2_with fail
          have hall := implBootRecs_any _ _ d ⟨xph, true, xck, xbo, xba, xlb, xps, xms, xds, xls, xgd, xpr⟩ id wr (HL.out.below KB).plan (HOx.out.below KB).st
          rw [HSM.out] at hall
          refine hall.mono ?_
          rintro e we ⟨v9, rfl, -, hb9⟩
          dsimp only
          clear hall h1 h2 h3
          have KE := KB.trans (hb9.mono KB.size)
          have h1 := (HXS.out.step KE).C
          have h2 := (HXX.out.step KE).C
          rcases HPH.out with c6 | c8
          · have g6 : (xph == 6) = true := by simp [c6]
            clear c6
            go_wp2
            all_goals (go_ret; exact ⟨ret_bool (by simp), HK.out.trans (KE.mono HK.out.size)⟩)
          · have g8 : (s.ph == 8) = true := by simp [c8]
            clear c8
            cases g6 : (xph == 6)
            · go_wp2
              all_goals (go_ret; exact ⟨ret_bool (by simp), HK.out.trans (KE.mono HK.out.size)⟩)
            · go_wp2
              all_goals (go_ret; exact ⟨ret_bool (by simp), HK.out.trans (KE.mono HK.out.size)⟩)
end Go.Proofs.YtmgckdmglnmnnaaGreatDoor
