/-
  FnTicks' walk.
-/
import Derived.Test.YtbcaginjibnngaaGreatDoorMZxIg
import Derived.Test.YtbcaginjibnngaaGreatDoorMZxId
import Derived.Test.YtbcaginjibnngaaGreatDoorMZxXj
import Derived.Test.YtbcaginjibnngaaGreatDoorMZ2
import Derived.Test.YtbcaginjibnngaaGreatDoorMZ0
import Derived.Test.YtbcaginjibnngaaGreatDoorMZ14
/- Ih -/
set_option linter.unusedVariables false
namespace Go.Proofs.YtbcaginjibnngaaGreatDoor
open Go.RowKit

theorem tickS_ck {d : PlanD} {s : StD} : (tickS d s).ck = s.ck + 1 := by
  unfold tickS
  repeat' split
  all_goals rfl
/-- What a tick answers is applied: one more of the clock, the phase not less, no pod less far, and but in the shutting all pods as they were; or nothing, with a code. -/
theorem tick_good {d : PlanD} {s : StD} {l : List RecD} {cd : Int} (h : (if stOkB d s then tickD d s else noR 1) = (l, cd)) :
    (cd = 0 ∧ ∃ x, appliedL d s l = (x, true) ∧ x.ck = s.ck + 1 ∧ s.ph ≤ x.ph ∧ x.pods.length = s.pods.length ∧ (∀ i, i < s.pods.length → (podA s.pods i).1 ≤ (podA x.pods i).1 ∧ (s.ph ≠ 3 → podA x.pods i = podA s.pods i)) ∧ StFits x 1048576 ∧ (0 ≤ s.ck ∧ s.ck ≤ 1000000)) ∨ (cd ≠ 0 ∧ l = []) := by
  by_cases hs : stOkB d s = true
  · rw [if_pos hs] at h
    have hok := stOkB_iff.1 hs
    have hck := hok.ck
    unfold tickD at h
    split at h
    · right
      cases h
      exact ⟨by decide, rfl⟩
    · left
      have hlt : s.ck < 1000000 := by omega
      injection h with h1 h2
      subst h1 h2
      refine ⟨rfl, tickS d s, by rw [appliedL, if_pos hs, tick_run hok hlt], tickS_ck, tick_ph, tick_len hok hlt, fun i hi => tick_pods hok (by rw [← hok.np]; exact hi), fits_ok (tick_ok hok hlt), by omega⟩
  · rw [if_neg hs] at h
    right
    cases h
    exact ⟨by decide, rfl⟩

set_option maxRecDepth 100000 in
set_option maxHeartbeats 16000000 in
theorem lawTicks (A : Option Addr) (n c : Nat) (w : World) (hN : Names w) (hB : Bytes w w.heap.size A n) (hn : n ≤ maxLen) : Calls Tryz.prog 3 #[.slice A n c] w fun e w' => e = .returned (.bool true) ∧ Below w.heap.size w w' := by
  have HB := Lib.hid hB
  have HN := Lib.hid hN
  clear hB hN
  go_enter Tryz.func3, Tryz.ntmps3
  go_wp2_with fail
  refine (big_any A n c _ hn).mono ?_
  rintro e w2 ⟨rfl, rfl⟩
  by_cases hbig : 4096 < (n : Int)
  · go_wp2_with fail
    go_ret
    exact ⟨rfl, Below.refl _ _⟩
  · have hn4 : n ≤ 4096 := by omega
    clear hbig
    go_wp2_with fail
    refine (drawTickRecs_any A n c _ HB.out hn4).mono ?_
    rintro e w3 ⟨v0, v1, v2, v3, d, vs, s, rfl, L, Os, hd, hs, K⟩
    obtain ⟨V0, C0, rfl, -, -⟩ := L.o0.formR
    obtain ⟨V1, C1, rfl, -, -⟩ := L.o1.formR
    obtain ⟨V2, C2, rfl, -, -⟩ := L.o2.formR
    obtain ⟨V3, C3, rfl, -, -⟩ := L.o3.formR
    obtain ⟨y0, y1, y2, y3, rfl, -⟩ := Os.it
    obtain ⟨⟨E0, k0, rfl⟩, ⟨E1, k1, rfl⟩, ⟨E2, k2, rfl⟩, ⟨E3, k3, rfl⟩⟩ := Os.shapes
    have hf : StFits s 1048576 := ⟨by have := hs.s0; omega, by have := hs.s1; omega, by have := hs.s2; omega, by have := hs.s3; omega⟩
    go_upto_region 4 with fail
    have hK0 : Below w3.heap.size w3 w3 := Below.refl _ _
    have XP := Own.box2 K (planC V0 V1 V2 V3 d.n0 C0 d.n1 C1 d.n2 C2 d.n3 C3 d.l d.p d.t) 29
    have hK1 := hK0.alloc hK0.size (.cells (planC V0 V1 V2 V3 d.n0 C0 d.n1 C1 d.n2 C2 d.n3 C3 d.l d.p d.t) 29)
    have XS := Own.box2 (K.trans (hK1.mono K.size)) (stC E0 E1 E2 E3 s.pods.length k0 s.mnts.length k1 s.devs.length k2 s.lks.length k3 s.ph s.co s.ck s.bo s.ba s.lb s.gd s.pr) 34
    have hK2 := hK1.alloc hK1.size (.cells (stC E0 E1 E2 E3 s.pods.length k0 s.mnts.length k1 s.devs.length k2 s.lks.length k3 s.ph s.co s.ck s.bo s.ba s.lb s.gd s.pr) 34)
    replace XP := XP.alloc (.cells (stC E0 E1 E2 E3 s.pods.length k0 s.mnts.length k1 s.devs.length k2 s.lks.length k3 s.ph s.co s.ck s.bo s.ba s.lb s.gd s.pr) 34)
    have hb := hK2
    replace K := K.trans (hb.mono K.size)
    replace L := L.below hb
    replace Os := Os.below hb
    clear hb hK0 hK1 hK2
    try rw [heap_size_alloc_] at XS
    generalize ((w3.alloc (.cells (planC V0 V1 V2 V3 d.n0 C0 d.n1 C1 d.n2 C2 d.n3 C3 d.l d.p d.t) 29)).alloc (.cells (stC E0 E1 E2 E3 s.pods.length k0 s.mnts.length k1 s.devs.length k2 s.lks.length k3 s.ph s.co s.ck s.bo s.ba s.lb s.gd s.pr) 34)) = w4 at K L Os XP XS ⊢
    generalize hw3 : w3.heap.size = b3 at XP XS ⊢
    obtain ⟨l, cd, hx⟩ : ∃ l cd, (if stOkB d s then tickD d s else noR 1) = (l, cd) := by
      generalize (if stOkB d s then tickD d s else noR 1) = q
      exact ⟨q.1, q.2, rfl⟩
    have HX := Lib.hid hx
    have HG := Lib.hid (tick_good (d := d) (s := s) hx)
    clear hx
    have h1 := XP.C
    have h2 := XS.C
    go_wp2_with fail
    have hall := implTickRecs_any _ _ d s w4 L.plan Os.st
    rw [HX.out] at hall
    refine hall.mono ?_
    rintro e w5 ⟨v, rfl, O1, hb⟩
    dsimp only at O1 ⊢
    clear hall h1 h2
    replace K := K.trans (hb.mono K.size)
    replace L := L.below hb
    replace Os := Os.below hb
    replace XP := XP.step hb
    replace XS := XS.step hb
    clear hb
    have h1 := XP.C
    have h2 := XS.C
    go_wp2_with fail
    have hall := tickRecs_any _ _ d s w5 L.plan Os.st
    rw [HX.out] at hall
    refine hall.mono ?_
    rintro e w6 ⟨v', rfl, O2, hb⟩
    dsimp only at O2 ⊢
    clear hall h1 h2
    replace K := K.trans (hb.mono K.size)
    replace L := L.below hb
    replace Os := Os.below hb
    replace XP := XP.step hb
    replace XS := XS.step hb
    replace O1 := O1.below hb
    clear hb
    go_wp2_with fail
    refine (likeRecs_same _ _ l _ O1.rt O2.rt).mono ?_
    rintro e w7 ⟨rfl, hb⟩
    replace K := K.trans (hb.mono K.size)
    replace L := L.below hb
    replace Os := Os.below hb
    replace XP := XP.step hb
    replace XS := XS.step hb
    replace O1 := O1.below hb
    replace O2 := O2.below hb
    clear hb O2
    obtain ⟨AL, CL, sl, rfl, -⟩ := O1.open_
    have hlb : l.length ≤ 2 ^ 63 - 1 := by have := O1.len; unfold maxLen at this; omega
    rcases HG.out with ⟨h0, x, hx1, hx2, hx3, hx4, hx5, hx6, hx7⟩ | ⟨h0, hl⟩
    case inr =>
      have HL : Hid (l.length = 0) := Lib.hid (by rw [hl]; rfl)
      have hc1 : (cd != 0) = true := by simpa using h0
      have hl0 : (l.length : Int) = 0 := by have := HL.out; omega
      clear h0 hl
      go_wp2
      all_goals (go_ret; exact ⟨ret_bool (by simp), K⟩)
    case inl =>
      subst h0
      obtain ⟨xph, xco, xck, xbo, xba, xlb, xps, xms, xds, xls, xgd, xpr⟩ := x
      dsimp only at hx2 hx3 hx4 hx5 hx6
      subst hx2
      have HX1 := Lib.hid hx1
      have HPH := Lib.hid hx3
      have HLX := Lib.hid hx4
      have HPX := Lib.hid hx5
      have HFX := Lib.hid hx6
      have hsl := hs.s0
      clear hx1 hx3 hx4 hx5 hx6
      have h1 := XP.C
      have h2 := XS.C
      go_wp2_with fail
      have hall := implAll_any _ _ _ d s l w7 L.plan (Os.isR hf) O1.rt (HN.out.go K)
      rw [HX1.out] at hall
      refine hall.mono ?_
      rintro e w8 ⟨vx, rfl, Ox, hb⟩
      dsimp only at Ox ⊢
      clear hall h1 h2
      replace K := K.trans (hb.mono K.size)
      replace L := L.below hb
      replace Os := Os.below hb
      replace XP := XP.step hb
      replace XS := XS.step hb
      replace O1 := O1.below hb
      clear hb
      obtain ⟨y0, y1, y2, y3, rfl, -⟩ := Ox.it
      obtain ⟨⟨X0, m0, rfl⟩, ⟨X1, m1, rfl⟩, ⟨X2, m2, rfl⟩, ⟨X3, m3, rfl⟩⟩ := Ox.shapes
      dsimp only at Ox ⊢
      go_upto_region 11 with fail
      have hK0 : Below w8.heap.size w8 w8 := Below.refl _ _
      have XX := Own.box2 K (stC X0 X1 X2 X3 xps.length m0 xms.length m1 xds.length m2 xls.length m3 xph xco (s.ck + 1) xbo xba xlb xgd xpr) 34
      have hK1 := hK0.alloc hK0.size (.cells (stC X0 X1 X2 X3 xps.length m0 xms.length m1 xds.length m2 xls.length m3 xph xco (s.ck + 1) xbo xba xlb xgd xpr) 34)
      have hb := hK1
      replace K := K.trans (hb.mono K.size)
      replace L := L.below hb
      replace Os := Os.below hb
      replace XP := XP.step hb
      replace XS := XS.step hb
      replace O1 := O1.below hb
      replace Ox := Ox.below hb
      clear hb hK0 hK1
      generalize (w8.alloc (.cells (stC X0 X1 X2 X3 xps.length m0 xms.length m1 xds.length m2 xls.length m3 xph xco (s.ck + 1) xbo xba xlb xgd xpr) 34)) = w9 at K L Os XP XS O1 Ox XX ⊢
      generalize hw8 : w8.heap.size = b8 at XX ⊢
      have HK := Lib.hid K
      have HOs := Lib.hid Os
      have HOx := Lib.hid Ox
      have HXS := Lib.hid XS
      have HXX := Lib.hid XX
      have h1 := XS.C
      have h2 := XX.C
      have hph1 : ¬ xph < s.ph := by have := HPH.out; omega
      clear K Os Ox XS XX L XP O1 hd hs hf
      obtain ⟨c0, c1⟩ := hx7
      go_wp2_with fail
      clear hph1
      go_loopw [11, 12] (fun m i wr => ∃ (k c : Nat), k ≤ s.pods.length ∧ c ≤ k ∧ i = .int .i64 k ∧ m = .int .i64 c ∧ Hid (s.ph = 3 ∨ c = 0) ∧ Below w9.heap.size w9 wr) (fun _ i _ => s.pods.length - (intOf i).toNat)
      case atStart => exact ⟨0, 0, Nat.zero_le _, Nat.le_refl _, rfl, rfl, Lib.hid (.inr rfl), Below.refl _ _⟩
      case round =>
        clear h1 h2
        obtain ⟨k, c, hk, hck, rfl, rfl, HC, KB⟩ := hrel
        have h1 := (HXS.out.step KB).C
        have h2 := (HXX.out.step KB).C
        by_cases hlt : k < s.pods.length
        · have hltx : k < xps.length := by rw [HLX.out]; exact hlt
          obtain ⟨gs, hY, -, hgs, -, HRs⟩ := HOs.out.podRow (i := k) hlt
          obtain ⟨gx, hZ, -, hgx, -, HRx⟩ := HOx.out.podRow (i := k) hltx
          dsimp only at HRx
          subst hY hZ
          have p0 := (KB.cell (p := ⟨gs, k * 2, none⟩) hgs).trans ((HRs (k * 2) (by rw [podCs_len]; omega)).1.trans (podCs_at s.pods (i := k) hlt).1)
          have p1 := (KB.cell (p := ⟨gs, k * 2 + 1, none⟩) hgs).trans ((HRs (k * 2 + 1) (by rw [podCs_len]; omega)).1.trans (podCs_at s.pods (i := k) hlt).2)
          have q0 := (KB.cell (p := ⟨gx, k * 2, none⟩) hgx).trans ((HRx (k * 2) (by rw [podCs_len]; omega)).1.trans (podCs_at xps (i := k) hltx).1)
          have q1 := (KB.cell (p := ⟨gx, k * 2 + 1, none⟩) hgx).trans ((HRx (k * 2 + 1) (by rw [podCs_len]; omega)).1.trans (podCs_at xps (i := k) hltx).2)
          clear HRs HRx
          have hle := (HPX.out k hlt).1
          have HEQ := Lib.hid (HPX.out k hlt).2
          have hxl : xps.length ≤ 12 := by rw [HLX.out]; exact hsl
          generalize podA s.pods k = a at p0 p1 hle HEQ
          generalize podA xps k = b at q0 q1 hle HEQ
          obtain ⟨a0, a1⟩ := a
          obtain ⟨y0, y1⟩ := b
          dsimp only at p0 p1 q0 q1 hle
          have hlt1 : ¬ y0 < a0 := by omega
          clear hle
          by_cases hsame : y0 = a0 ∧ y1 = a1
          · obtain ⟨rfl, rfl⟩ := hsame
            clear HEQ
            go_wp2_with fail
            go_quiet (fail)
            go_wp2_with fail
            go_quiet (fail)
            go_wp2
            exact ⟨⟨k + 1, c, by omega, by omega, by go_num, rfl, HC, below_drewN KB _⟩, by simp [intOf]; omega⟩
          · have H3 : Hid (s.ph = 3) := Lib.hid (by
              by_cases e : s.ph = 3
              · exact e
              · have := HEQ.out e
                injection this with e1 e2
                exact absurd ⟨e1, e2⟩ hsame)
            clear HEQ
            by_cases h0 : y0 = a0
            · subst h0
              have h9 : ¬ y1 = a1 := fun e => hsame ⟨rfl, e⟩
              clear hsame
              go_wp2_with fail
              go_quiet (fail)
              go_wp2_with fail
              go_quiet (fail)
              go_wp2
              exact ⟨⟨k + 1, c + 1, by omega, by omega, by go_num, by go_num, Lib.hid (.inl H3.out), below_drewN KB _⟩, by simp [intOf]; omega⟩
            · clear hsame
              go_wp2_with fail
              go_quiet (fail)
              go_wp2_with fail
              go_quiet (fail)
              go_wp2
              exact ⟨⟨k + 1, c + 1, by omega, by omega, by go_num, by go_num, Lib.hid (.inl H3.out), below_drewN KB _⟩, by simp [intOf]; omega⟩
        · rcases HC.out with h3 | h3
          · have h4 : (s.ph == 3) = true := by simp [h3]
            have H3 := Lib.hid h3
            clear h3
            by_cases hc0 : c = 0
            · subst hc0
              go_wp2
              all_goals (go_ret; exact ⟨ret_bool (by simp), HK.out.trans (KB.mono HK.out.size)⟩)
            · have hc1 : ¬ (c : Int) = 0 := by omega
              go_wp2
              all_goals (go_ret; exact ⟨ret_bool (by first | rfl | simp [H3.out]), HK.out.trans (KB.mono HK.out.size)⟩)
          · subst h3
            go_wp2
            all_goals (go_ret; exact ⟨ret_bool (by simp), HK.out.trans (KB.mono HK.out.size)⟩)
end Go.Proofs.YtbcaginjibnngaaGreatDoor
