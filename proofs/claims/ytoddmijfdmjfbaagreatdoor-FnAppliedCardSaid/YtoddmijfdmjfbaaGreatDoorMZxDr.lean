/-
  FnApplied's walk.
-/
import Derived.Test.YtoddmijfdmjfbaaGreatDoorMZxDp
import Derived.Test.YtoddmijfdmjfbaaGreatDoorMZxDq
import Derived.Test.YtoddmijfdmjfbaaGreatDoorMZ12
import Derived.Test.YtoddmijfdmjfbaaGreatDoorMZxXm
import Derived.Test.YtoddmijfdmjfbaaGreatDoorMZ0
import Derived.Test.YtoddmijfdmjfbaaGreatDoorMZxUi
/- Dr -/
set_option linter.unusedVariables false
namespace Go.Proofs.YtoddmijfdmjfbaaGreatDoor
open Go.RowKit

theorem appliedL_fits {d : PlanD} {s : StD} {l : List RecD} (hf : StFits s 1048576) : StFits (appliedL d s l).1 1048576 := by
  by_cases hok : stOkB d s = true
  · rw [appliedL_all hok]
    unfold allS
    split
    · rename_i x h
      exact fits_ok (runR_ok (stOkB_iff.1 hok) h)
    · exact hf
  · rw [appliedL_no (by simpa using hok)]
    exact ⟨by simp [zeroS], by simp [zeroS], by simp [zeroS], by simp [zeroS]⟩
theorem run_stop2 {d : PlanD} {s z : StD} {l : List RecD} {k : Nat} (hk : k < l.length) (h : runR d s (l.take k) = some z) (hg : goodR d z (recAt l k) = false) : runR d s l = none := by
  have e : l = l.take k ++ recAt l k :: l.drop (k + 1) := by
    have h1 := List.take_append_drop k l
    rw [List.drop_eq_getElem_cons hk] at h1
    have h2 : recAt l k = l[k] := by simp [recAt, List.getD, hk]
    rw [h2]
    exact h1.symm
  rw [e, runR_append, h]
  simp [runR, hg]
theorem applied_next {d : PlanD} {s z z2 : StD} {l : List RecD} {k : Nat} {r : RecD} {b : Bool} (hs : stOkB d s = true) (hz : stOkB d z = true) (h : runR d s (l.take k) = some z) (hk : k < l.length) (hr : recAt l k = r) (ha : appliedS d z r = (z2, b)) :
    stOkB d z2 = true ∧ (b = true → runR d s (l.take (k + 1)) = some z2) ∧ (b = false → runR d s l = none) ∧ StFits z2 1048576 := by
  subst hr
  unfold appliedS at ha
  rw [hz] at ha
  simp only [if_true] at ha
  cases hg : goodR d z (recAt l k)
  · rw [hg] at ha
    simp at ha
    obtain ⟨rfl, rfl⟩ := ha
    exact ⟨hz, fun e => (by cases e), fun _ => run_stop2 hk h hg, fits_ok (stOkB_iff.1 hz)⟩
  · rw [hg] at ha
    simp at ha
    obtain ⟨rfl, rfl⟩ := ha
    have h2 := run_next hk h hg
    simp only [goodR, Bool.and_eq_true] at hg
    exact ⟨hg.2, fun _ => h2, fun e => (by cases e), fits_ok (stOkB_iff.1 hg.2)⟩

set_option maxRecDepth 100000 in
set_option maxHeartbeats 16000000 in
theorem lawApplied (A : Option Addr) (n c : Nat) (w : World) (hN : Names w) (hB : Bytes w w.heap.size A n) (hn : n ≤ maxLen) : Calls Tryz.prog 3 #[.slice A n c] w fun e w' => e = .returned (.bool true) ∧ Below w.heap.size w w' := by
  have HB := Lib.hid hB
  have HN := Lib.hid hN
  clear hB hN
  go_enter Tryz.func3, Tryz.ntmps3
  go_wp2_with fail
  refine (big_any A n c _ hn).mono ?_
  rintro e w2 ⟨rfl, rfl⟩
  by_cases hbig : 4096 < (n : Int)
  · go_wp2_with fail
    go_ret
    exact ⟨rfl, Below.refl _ _⟩
  · have hn4 : n ≤ 4096 := by omega
    clear hbig
    go_wp2_with fail
    refine (drawAppliedAll_any A n c _ HB.out hn4).mono ?_
    rintro e w3 ⟨v0, v1, v2, v3, d, vs, s, v, l, rfl, L, Os, hd, hs, O, hl, K⟩
    obtain ⟨V0, C0, rfl, -, -⟩ := L.o0.formR
    obtain ⟨V1, C1, rfl, -, -⟩ := L.o1.formR
    obtain ⟨V2, C2, rfl, -, -⟩ := L.o2.formR
    obtain ⟨V3, C3, rfl, -, -⟩ := L.o3.formR
    obtain ⟨y0, y1, y2, y3, rfl, -⟩ := Os.it
    obtain ⟨⟨E0, k0, rfl⟩, ⟨E1, k1, rfl⟩, ⟨E2, k2, rfl⟩, ⟨E3, k3, rfl⟩⟩ := Os.shapes
    obtain ⟨AL, CL, rfl⟩ := O.form_
    have hf : StFits s 1048576 := ⟨by have := hs.s0; omega, by have := hs.s1; omega, by have := hs.s2; omega, by have := hs.s3; omega⟩
    go_upto_region 4 with fail
    have hK0 : Below w3.heap.size w3 w3 := Below.refl _ _
    have XP := Own.box2 K (planC V0 V1 V2 V3 d.n0 C0 d.n1 C1 d.n2 C2 d.n3 C3 d.l d.p d.t) 29
    have hK1 := hK0.alloc hK0.size (.cells (planC V0 V1 V2 V3 d.n0 C0 d.n1 C1 d.n2 C2 d.n3 C3 d.l d.p d.t) 29)
    have XS := Own.box2 (K.trans (hK1.mono K.size)) (stC E0 E1 E2 E3 s.pods.length k0 s.mnts.length k1 s.devs.length k2 s.lks.length k3 s.ph s.co s.ck s.bo s.ba s.lb s.gd s.pr) 34
    have hK2 := hK1.alloc hK1.size (.cells (stC E0 E1 E2 E3 s.pods.length k0 s.mnts.length k1 s.devs.length k2 s.lks.length k3 s.ph s.co s.ck s.bo s.ba s.lb s.gd s.pr) 34)
    replace XP := XP.alloc (.cells (stC E0 E1 E2 E3 s.pods.length k0 s.mnts.length k1 s.devs.length k2 s.lks.length k3 s.ph s.co s.ck s.bo s.ba s.lb s.gd s.pr) 34)
    have hb := hK2
    replace K := K.trans (hb.mono K.size)
    replace L := L.below hb
    replace Os := Os.below hb
    replace O := O.below hb
    clear hb hK0 hK1 hK2
    try rw [heap_size_alloc_] at XS
    generalize ((w3.alloc (.cells (planC V0 V1 V2 V3 d.n0 C0 d.n1 C1 d.n2 C2 d.n3 C3 d.l d.p d.t) 29)).alloc (.cells (stC E0 E1 E2 E3 s.pods.length k0 s.mnts.length k1 s.devs.length k2 s.lks.length k3 s.ph s.co s.ck s.bo s.ba s.lb s.gd s.pr) 34)) = w4 at K L Os O XP XS ⊢
    generalize hw3 : w3.heap.size = b3 at XP XS ⊢
    obtain ⟨x, is_, hx⟩ : ∃ x b, appliedL d s l = (x, b) := by
      generalize appliedL d s l = q
      exact ⟨q.1, q.2, rfl⟩
    have HX := Lib.hid hx
    have hfx : StFits x 1048576 := by have := appliedL_fits (l := l) (d := d) hf; rw [hx] at this; exact this
    clear hx
    have h1 := XP.C
    have h2 := XS.C
    go_wp2_with fail
    have hall := implAll_any _ _ _ d s l w4 L.plan (Os.isR hf) O.rt (HN.out.go K)
    rw [HX.out] at hall
    refine hall.mono ?_
    rintro e w5 ⟨vx, rfl, Ox, hb⟩
    clear hall h1 h2
    replace K := K.trans (hb.mono K.size)
    replace L := L.below hb
    replace Os := Os.below hb
    replace O := O.below hb
    replace XP := XP.step hb
    replace XS := XS.step hb
    clear hb
    obtain ⟨y0, y1, y2, y3, rfl, -⟩ := Ox.it
    obtain ⟨⟨X0, m0, rfl⟩, ⟨X1, m1, rfl⟩, ⟨X2, m2, rfl⟩, ⟨X3, m3, rfl⟩⟩ := Ox.shapes
    go_upto_region 5 with fail
    have hK0 : Below w5.heap.size w5 w5 := Below.refl _ _
    have XX := Own.box2 K (stC X0 X1 X2 X3 x.pods.length m0 x.mnts.length m1 x.devs.length m2 x.lks.length m3 x.ph x.co x.ck x.bo x.ba x.lb x.gd x.pr) 34
    have hK1 := hK0.alloc hK0.size (.cells (stC X0 X1 X2 X3 x.pods.length m0 x.mnts.length m1 x.devs.length m2 x.lks.length m3 x.ph x.co x.ck x.bo x.ba x.lb x.gd x.pr) 34)
    have hb := hK1
    replace K := K.trans (hb.mono K.size)
    replace L := L.below hb
    replace Os := Os.below hb
    replace O := O.below hb
    replace XP := XP.step hb
    replace XS := XS.step hb
    replace Ox := Ox.below hb
    clear hb hK0 hK1
    generalize (w5.alloc (.cells (stC X0 X1 X2 X3 x.pods.length m0 x.mnts.length m1 x.devs.length m2 x.lks.length m3 x.ph x.co x.ck x.bo x.ba x.lb x.gd x.pr) 34)) = w6 at K L Os O XP XS Ox XX ⊢
    generalize hw5 : w5.heap.size = b5 at XX ⊢
    have h1 := XP.C
    have h2 := XS.C
    go_wp2_with fail
    have hall := specAll_any _ _ _ d s l w6 L.plan (Os.isR hf) O.rt
    rw [HX.out] at hall
    refine hall.mono ?_
    rintro e w7 ⟨vy, rfl, Oy, hb⟩
    clear hall h1 h2
    replace K := K.trans (hb.mono K.size)
    replace L := L.below hb
    replace Os := Os.below hb
    replace O := O.below hb
    replace XP := XP.step hb
    replace XS := XS.step hb
    replace Ox := Ox.below hb
    replace XX := XX.step hb
    clear hb
    obtain ⟨y0, y1, y2, y3, rfl, -⟩ := Oy.it
    obtain ⟨⟨Y0, o0, rfl⟩, ⟨Y1, o1, rfl⟩, ⟨Y2, o2, rfl⟩, ⟨Y3, o3, rfl⟩⟩ := Oy.shapes
    go_upto_region 6 with fail
    have hK0 : Below w7.heap.size w7 w7 := Below.refl _ _
    have XY := Own.box2 K (stC Y0 Y1 Y2 Y3 x.pods.length o0 x.mnts.length o1 x.devs.length o2 x.lks.length o3 x.ph x.co x.ck x.bo x.ba x.lb x.gd x.pr) 34
    have hK1 := hK0.alloc hK0.size (.cells (stC Y0 Y1 Y2 Y3 x.pods.length o0 x.mnts.length o1 x.devs.length o2 x.lks.length o3 x.ph x.co x.ck x.bo x.ba x.lb x.gd x.pr) 34)
    have hb := hK1
    replace K := K.trans (hb.mono K.size)
    replace L := L.below hb
    replace Os := Os.below hb
    replace O := O.below hb
    replace XP := XP.step hb
    replace XS := XS.step hb
    replace Ox := Ox.below hb
    replace XX := XX.step hb
    replace Oy := Oy.below hb
    clear hb hK0 hK1
    generalize (w7.alloc (.cells (stC Y0 Y1 Y2 Y3 x.pods.length o0 x.mnts.length o1 x.devs.length o2 x.lks.length o3 x.ph x.co x.ck x.bo x.ba x.lb x.gd x.pr) 34)) = w8 at K L Os O XP XS Ox XX Oy XY ⊢
    generalize hw7 : w7.heap.size = b7 at XY ⊢
    go_wp2_with fail
    refine (drawAppliedRec_any A n c w8 ((HB.out.below K (Nat.le_refl _)).more K.size) hn4).mono ?_
    rintro e w9 ⟨u0, u1, u2, u3, q, us, t, ⟨rk, ra, rb⟩, rfl, L2, Ot, hqd, hts, hb⟩
    replace K := K.trans (hb.mono K.size)
    replace L := L.below hb
    replace Os := Os.below hb
    replace O := O.below hb
    replace XP := XP.step hb
    replace XS := XS.step hb
    replace Ox := Ox.below hb
    replace XX := XX.step hb
    replace Oy := Oy.below hb
    replace XY := XY.step hb
    clear hb
    unfold recV
    dsimp only
    obtain ⟨U0, G0, rfl, -, -⟩ := L2.o0.formR
    obtain ⟨U1, G1, rfl, -, -⟩ := L2.o1.formR
    obtain ⟨U2, G2, rfl, -, -⟩ := L2.o2.formR
    obtain ⟨U3, G3, rfl, -, -⟩ := L2.o3.formR
    obtain ⟨y0, y1, y2, y3, rfl, -⟩ := Ot.it
    obtain ⟨⟨F0, j0, rfl⟩, ⟨F1, j1, rfl⟩, ⟨F2, j2, rfl⟩, ⟨F3, j3, rfl⟩⟩ := Ot.shapes
    have hft : StFits t 1048576 := ⟨by have := hts.s0; omega, by have := hts.s1; omega, by have := hts.s2; omega, by have := hts.s3; omega⟩
    go_upto_region 7 with fail
    have hK0 : Below w9.heap.size w9 w9 := Below.refl _ _
    have XQ := Own.box2 K (planC U0 U1 U2 U3 q.n0 G0 q.n1 G1 q.n2 G2 q.n3 G3 q.l q.p q.t) 29
    have hK1 := hK0.alloc hK0.size (.cells (planC U0 U1 U2 U3 q.n0 G0 q.n1 G1 q.n2 G2 q.n3 G3 q.l q.p q.t) 29)
    have XT := Own.box2 (K.trans (hK1.mono K.size)) (stC F0 F1 F2 F3 t.pods.length j0 t.mnts.length j1 t.devs.length j2 t.lks.length j3 t.ph t.co t.ck t.bo t.ba t.lb t.gd t.pr) 34
    have hK2 := hK1.alloc hK1.size (.cells (stC F0 F1 F2 F3 t.pods.length j0 t.mnts.length j1 t.devs.length j2 t.lks.length j3 t.ph t.co t.ck t.bo t.ba t.lb t.gd t.pr) 34)
    replace XQ := XQ.alloc (.cells (stC F0 F1 F2 F3 t.pods.length j0 t.mnts.length j1 t.devs.length j2 t.lks.length j3 t.ph t.co t.ck t.bo t.ba t.lb t.gd t.pr) 34)
    have XR := Own.box2 (K.trans (hK2.mono K.size)) (#[.int .i64 rk, .int .i64 ra, .int .i64 rb]) 41
    have hK3 := hK2.alloc hK2.size (.cells (#[.int .i64 rk, .int .i64 ra, .int .i64 rb]) 41)
    replace XQ := XQ.alloc (.cells (#[.int .i64 rk, .int .i64 ra, .int .i64 rb]) 41)
    replace XT := XT.alloc (.cells (#[.int .i64 rk, .int .i64 ra, .int .i64 rb]) 41)
    have hb := hK3
    replace K := K.trans (hb.mono K.size)
    replace L := L.below hb
    replace Os := Os.below hb
    replace O := O.below hb
    replace XP := XP.step hb
    replace XS := XS.step hb
    replace Ox := Ox.below hb
    replace XX := XX.step hb
    replace Oy := Oy.below hb
    replace XY := XY.step hb
    replace L2 := L2.below hb
    replace Ot := Ot.below hb
    clear hb hK0 hK1 hK2 hK3
    try rw [heap_size_alloc_] at XT
    try rw [heap_size_alloc_ , heap_size_alloc_] at XR
    generalize (((w9.alloc (.cells (planC U0 U1 U2 U3 q.n0 G0 q.n1 G1 q.n2 G2 q.n3 G3 q.l q.p q.t) 29)).alloc (.cells (stC F0 F1 F2 F3 t.pods.length j0 t.mnts.length j1 t.devs.length j2 t.lks.length j3 t.ph t.co t.ck t.bo t.ba t.lb t.gd t.pr) 34)).alloc (.cells (#[.int .i64 rk, .int .i64 ra, .int .i64 rb]) 41)) = w10 at K L Os O XP XS Ox XX Oy XY L2 Ot XQ XT XR ⊢
    generalize hw9 : w9.heap.size = b9 at XQ XT XR ⊢
    obtain ⟨u, one, hu⟩ : ∃ x b, appliedS q t ⟨rk, ra, rb⟩ = (x, b) := by
      generalize appliedS q t ⟨rk, ra, rb⟩ = q
      exact ⟨q.1, q.2, rfl⟩
    have HU := Lib.hid hu
    clear hu
    have h1 := XQ.C
    have h2 := XT.C
    have h3 := XR.C
    go_wp2_with fail
    have hall := implRec_any _ _ q t ⟨rk, ra, rb⟩ w10 L2.plan (Ot.isR hft) (HN.out.go K)
    rw [HU.out] at hall
    refine hall.mono ?_
    rintro e w11 ⟨vu, rfl, Ou, hb⟩
    clear hall h1 h2 h3
    replace K := K.trans (hb.mono K.size)
    replace L := L.below hb
    replace Os := Os.below hb
    replace O := O.below hb
    replace XP := XP.step hb
    replace XS := XS.step hb
    replace Ox := Ox.below hb
    replace XX := XX.step hb
    replace Oy := Oy.below hb
    replace XY := XY.step hb
    replace L2 := L2.below hb
    replace Ot := Ot.below hb
    replace XQ := XQ.step hb
    replace XT := XT.step hb
    replace XR := XR.step hb
    clear hb
    obtain ⟨y0, y1, y2, y3, rfl, -⟩ := Ou.it
    obtain ⟨⟨M0, h0, rfl⟩, ⟨M1, h1, rfl⟩, ⟨M2, h2, rfl⟩, ⟨M3, h3, rfl⟩⟩ := Ou.shapes
    go_upto_region 8 with fail
    have hK0 : Below w11.heap.size w11 w11 := Below.refl _ _
    have XU := Own.box2 K (stC M0 M1 M2 M3 u.pods.length h0 u.mnts.length h1 u.devs.length h2 u.lks.length h3 u.ph u.co u.ck u.bo u.ba u.lb u.gd u.pr) 34
    have hK1 := hK0.alloc hK0.size (.cells (stC M0 M1 M2 M3 u.pods.length h0 u.mnts.length h1 u.devs.length h2 u.lks.length h3 u.ph u.co u.ck u.bo u.ba u.lb u.gd u.pr) 34)
    have hb := hK1
    replace K := K.trans (hb.mono K.size)
    replace L := L.below hb
    replace Os := Os.below hb
    replace O := O.below hb
    replace XP := XP.step hb
    replace XS := XS.step hb
    replace Ox := Ox.below hb
    replace XX := XX.step hb
    replace Oy := Oy.below hb
    replace XY := XY.step hb
    replace L2 := L2.below hb
    replace Ot := Ot.below hb
    replace XQ := XQ.step hb
    replace XT := XT.step hb
    replace XR := XR.step hb
    replace Ou := Ou.below hb
    clear hb hK0 hK1
    generalize (w11.alloc (.cells (stC M0 M1 M2 M3 u.pods.length h0 u.mnts.length h1 u.devs.length h2 u.lks.length h3 u.ph u.co u.ck u.bo u.ba u.lb u.gd u.pr) 34)) = w12 at K L Os O XP XS Ox XX Oy XY L2 Ot XQ XT XR Ou XU ⊢
    generalize hw11 : w11.heap.size = b11 at XU ⊢
    have h1 := XQ.C
    have h2 := XT.C
    have h3 := XR.C
    go_wp2_with fail
    have hall := specRec_any _ _ q t ⟨rk, ra, rb⟩ w12 L2.plan (Ot.isR hft)
    rw [HU.out] at hall
    refine hall.mono ?_
    rintro e w13 ⟨vw, rfl, Ow, hb⟩
    clear hall h1 h2 h3
    replace K := K.trans (hb.mono K.size)
    replace L := L.below hb
    replace Os := Os.below hb
    replace O := O.below hb
    replace XP := XP.step hb
    replace XS := XS.step hb
    replace Ox := Ox.below hb
    replace XX := XX.step hb
    replace Oy := Oy.below hb
    replace XY := XY.step hb
    replace L2 := L2.below hb
    replace Ot := Ot.below hb
    replace XQ := XQ.step hb
    replace XT := XT.step hb
    replace XR := XR.step hb
    replace Ou := Ou.below hb
    replace XU := XU.step hb
    clear hb
    obtain ⟨y0, y1, y2, y3, rfl, -⟩ := Ow.it
    obtain ⟨⟨N0, i0, rfl⟩, ⟨N1, i1, rfl⟩, ⟨N2, i2, rfl⟩, ⟨N3, i3, rfl⟩⟩ := Ow.shapes
    go_upto_region 9 with fail
    have hK0 : Below w13.heap.size w13 w13 := Below.refl _ _
    have XW := Own.box2 K (stC N0 N1 N2 N3 u.pods.length i0 u.mnts.length i1 u.devs.length i2 u.lks.length i3 u.ph u.co u.ck u.bo u.ba u.lb u.gd u.pr) 34
    have hK1 := hK0.alloc hK0.size (.cells (stC N0 N1 N2 N3 u.pods.length i0 u.mnts.length i1 u.devs.length i2 u.lks.length i3 u.ph u.co u.ck u.bo u.ba u.lb u.gd u.pr) 34)
    have hb := hK1
    replace K := K.trans (hb.mono K.size)
    replace L := L.below hb
    replace Os := Os.below hb
    replace O := O.below hb
    replace XP := XP.step hb
    replace XS := XS.step hb
    replace Ox := Ox.below hb
    replace XX := XX.step hb
    replace Oy := Oy.below hb
    replace XY := XY.step hb
    replace L2 := L2.below hb
    replace Ot := Ot.below hb
    replace XQ := XQ.step hb
    replace XT := XT.step hb
    replace XR := XR.step hb
    replace Ou := Ou.below hb
    replace XU := XU.step hb
    replace Ow := Ow.below hb
    clear hb hK0 hK1
    generalize (w13.alloc (.cells (stC N0 N1 N2 N3 u.pods.length i0 u.mnts.length i1 u.devs.length i2 u.lks.length i3 u.ph u.co u.ck u.bo u.ba u.lb u.gd u.pr) 34)) = w14 at K L Os O XP XS Ox XX Oy XY L2 Ot XQ XT XR Ou XU Ow XW ⊢
    generalize hw13 : w13.heap.size = b13 at XW ⊢
    have h1 := XX.C
    have h2 := XY.C
    have h3 := XU.C
    have h4 := XW.C
    go_wp2_with fail
    refine (likeState_same _ _ x _ Ox.st Oy.st).mono ?_
    rintro e w15 ⟨rfl, hb⟩
    clear h1 h2 h3 h4
    replace K := K.trans (hb.mono K.size)
    replace L := L.below hb
    replace Os := Os.below hb
    replace O := O.below hb
    replace XP := XP.step hb
    replace XS := XS.step hb
    replace Ox := Ox.below hb
    replace XX := XX.step hb
    replace Oy := Oy.below hb
    replace XY := XY.step hb
    replace L2 := L2.below hb
    replace Ot := Ot.below hb
    replace XQ := XQ.step hb
    replace XT := XT.step hb
    replace XR := XR.step hb
    replace Ou := Ou.below hb
    replace XU := XU.step hb
    replace Ow := Ow.below hb
    replace XW := XW.step hb
    clear hb
    have h1 := XX.C
    have h2 := XY.C
    have h3 := XU.C
    have h4 := XW.C
    go_wp2_with fail
    refine (likeState_same _ _ u _ Ou.st Ow.st).mono ?_
    rintro e w16 ⟨rfl, hb⟩
    clear h1 h2 h3 h4
    replace K := K.trans (hb.mono K.size)
    replace L := L.below hb
    replace Os := Os.below hb
    replace O := O.below hb
    replace XP := XP.step hb
    replace XS := XS.step hb
    replace Ox := Ox.below hb
    replace XX := XX.step hb
    replace Oy := Oy.below hb
    replace XY := XY.step hb
    replace L2 := L2.below hb
    replace Ot := Ot.below hb
    replace XQ := XQ.step hb
    replace XT := XT.step hb
    replace XR := XR.step hb
    replace Ou := Ou.below hb
    replace XU := XU.step hb
    replace Ow := Ow.below hb
    replace XW := XW.step hb
    clear hb
    clear XQ XT XR XU XW XY Oy L2 Ot Ou Ow HU hft hqd hts
    have h1 := XP.C
    have h2 := XS.C
    have h3 := XX.C
    go_wp2_with fail
    refine (specStateOk_any _ _ d s _ L.plan Os.st).mono ?_
    rintro e w17 ⟨rfl, hb⟩
    clear h1 h2 h3
    replace K := K.trans (hb.mono K.size)
    replace L := L.below hb
    replace Os := Os.below hb
    replace O := O.below hb
    replace XP := XP.step hb
    replace XS := XS.step hb
    replace Ox := Ox.below hb
    replace XX := XX.step hb
    clear hb
    obtain ⟨bo_, hbo⟩ : ∃ b, stOkB d s = b := ⟨_, rfl⟩
    rw [hbo]
    cases bo_
    · have hx0 : x.pods.length = 0 := by
        have := HX.out
        rw [appliedL_no hbo] at this
        injection this with this _
        rw [← this]
        rfl
      have h3 := XX.C
      go_wp2_with fail
      go_ret
      exact ⟨ret_bool (by simp), K⟩
    · have HOK := Lib.hid hbo
      clear hbo
      have h2 := XS.C
      go_upto_region 14 with fail
      have R17 := Lib.hid O.rt
      have hb17 := XP.z
      have hw17 := K.size
      have HZ := heap_alloc_new w17 (.cells (stC E0 E1 E2 E3 s.pods.length k0 s.mnts.length k1 s.devs.length k2 s.lks.length k3 s.ph s.co s.ck s.bo s.ba s.lb s.gd s.pr) 34)
      have hb : Below w17.heap.size w17 (w17.alloc (.cells (stC E0 E1 E2 E3 s.pods.length k0 s.mnts.length k1 s.devs.length k2 s.lks.length k3 s.ph s.co s.ck s.bo s.ba s.lb s.gd s.pr) 34)) := (Below.refl _ _).alloc (Nat.le_refl _) _
      have IZ := (Os.below hb).isR hf
      have HIS : Hid ((Tryz.prog.info? 34).map (·.size) = some 12) := Lib.hid (by kernel_rfl)
      clear h2
      generalize w17.alloc (.cells (stC E0 E1 E2 E3 s.pods.length k0 s.mnts.length k1 s.devs.length k2 s.lks.length k3 s.ph s.co s.ck s.bo s.ba s.lb s.gd s.pr) 34) = w18 at HZ hb IZ ⊢
      go_wp2_with fail
      go_loopw [18, 19] (fun g18 i19 wr => ∃ (k : Nat) (b : Bool) (z : StD) (Z0 Z1 Z2 Z3 : Option Addr) (n0 n1 n2 n3 : Nat), i19 = .int .i64 k ∧ g18 = .bool b ∧ k ≤ l.length ∧ stOkB d z = true ∧ (b = true → runR d s (l.take k) = some z) ∧ (b = false → runR d s l = none) ∧ wr.heap[w17.heap.size]? = some (.cells (stC Z0 Z1 Z2 Z3 z.pods.length n0 z.mnts.length n1 z.devs.length n2 z.lks.length n3 z.ph z.co z.ck z.bo z.ba z.lb z.gd z.pr) 34) ∧ IsStR wr wr.heap.size (.agg (stC Z0 Z1 Z2 Z3 z.pods.length n0 z.mnts.length n1 z.devs.length n2 z.lks.length n3 z.ph z.co z.ck z.bo z.ba z.lb z.gd z.pr)) z ∧ Below w17.heap.size w17 wr) (fun _ i19 _ => l.length - (intOf i19).toNat)
      case atStart => exact ⟨0, true, s, E0, E1, E2, E3, k0, k1, k2, k3, rfl, rfl, Nat.zero_le _, HOK.out, fun _ => rfl, (by intro h; cases h), HZ, IZ, hb⟩
      case round =>
        clear HZ hb IZ
        obtain ⟨k, b, z, Z0, Z1, Z2, Z3, n0, n1, n2, n3, rfl, rfl, hk, hzk, hrt, hrf, HZ, IZ, hb⟩ := hrel
        replace K := K.trans (hb.mono K.size)
        replace L := L.below hb
        replace Os := Os.below hb
        replace O := O.below hb
        replace XP := XP.step hb
        replace XS := XS.step hb
        replace Ox := Ox.below hb
        replace XX := XX.step hb
        have hzlt := (Array.getElem?_eq_some_iff.1 HZ).1
        have HRF := Lib.hid hrf
        have HRT := Lib.hid hrt
        have HZK := Lib.hid hzk
        clear hrf hrt hzk
        have hlm : l.length ≤ 4 := hl
        cases b
        · have hnone := HRF.out rfl
          have hxs : x = s ∧ is_ = false := by
            have := HX.out
            unfold appliedL at this
            rw [HOK.out, hnone] at this
            simp at this
            exact ⟨this.1.symm, this.2⟩
          obtain ⟨rfl, rfl⟩ := hxs
          have h1 := XP.C
          have h2 := XS.C
          have h3 := XX.C
          by_cases hlt : k < l.length
          all_goals
            go_wp2_with fail
            refine (likeState_same _ _ _ _ Ox.st Os.st).mono ?_
            rintro e wa ⟨rfl, hb2⟩
            replace XP := XP.step hb2
            replace XX := XX.step hb2
            have g1 := XP.C
            have g3 := XX.C
            clear h1 h2 h3
            go_wp2_with fail
            refine (implStateOk_any _ _ d _ _ (L.below hb2).plan (Ox.below hb2).st).mono ?_
            rintro e wb ⟨rfl, hb3⟩
            have KE := (K.trans (hb2.mono K.size)).trans (hb3.mono (K.trans (hb2.mono K.size)).size)
            rw [HOK.out]
            go_wp2_with fail
            go_ret
            exact ⟨rfl, KE⟩
        · by_cases hlt : k < l.length
          · have hrun := HRT.out rfl
            have HRUN := Lib.hid hrun
            clear hrun
            obtain ⟨rb0, roff, hAL, hrb17, hR0, hR1, hR2⟩ := (R17.out.below hb (Nat.le_refl _)).cell hlt
            subst hAL
            generalize hrr : recAt l k = r at hR0 hR1 hR2
            obtain ⟨pk, pa, pb⟩ := r
            dsimp only at hR0 hR1 hR2
            have HRR := Lib.hid hrr
            clear hrr
            have hrl : rb0 < wr.heap.size := Nat.lt_trans hrb17 hzlt
            go_upto_region 18 with fail
            refine wp_region_noPanic ?_
            refine wp_region_held_drew (S := fun W => (∀ o, W.cell? ⟨b3, o, none⟩ = (planC V0 V1 V2 V3 d.n0 C0 d.n1 C1 d.n2 C2 d.n3 C3 d.l d.p d.t)[o]?) ∧ W.cell? ⟨rb0, roff + k * 3, none⟩ = some (.int .i64 pk) ∧ W.cell? ⟨rb0, roff + k * 3 + 1, none⟩ = some (.int .i64 pa) ∧ W.cell? ⟨rb0, roff + k * 3 + 2, none⟩ = some (.int .i64 pb)) (by kernel_rfl) ⟨XP.drew.C, hR0, hR1, hR2⟩ (fun _ => ?_)
            have hD : Below wr.heap.size wr wr.drew := (Below.refl _ _).drew
            replace hR0 : wr.drew.cell? ⟨rb0, roff + k * 3, none⟩ = some (.int .i64 pk) := hR0
            replace hR1 : wr.drew.cell? ⟨rb0, roff + k * 3 + 1, none⟩ = some (.int .i64 pa) := hR1
            replace hR2 : wr.drew.cell? ⟨rb0, roff + k * 3 + 2, none⟩ = some (.int .i64 pb) := hR2
            replace hrl : rb0 < wr.drew.heap.size := hrl
            replace hzlt : w17.heap.size < wr.drew.heap.size := hzlt
            rw [← heap_drew wr] at HZ
            replace IZ := IZ.go hD
            replace hb := hb.drew
            replace L := L.below hD
            replace XP := XP.drew
            replace K := K.drew
            clear hD
            clear Os O XS Ox XX
            generalize wr.drew = wd at XP HZ hR0 hR1 hR2 IZ hb L K hrl hzlt ⊢
            refine wpAnyH_take (i := 0) (v := ?_) rfl (by kernel_rfl) (by kernel_rfl) (by kernel_rfl) (fun _ _ _ h => h) (Or.inl ⟨by rfl, ?_⟩) ⟨XP.C, hR0, hR1, hR2⟩ ?_
            rotate_left 1
            · intro w hSw
              obtain ⟨hs1, hs2, hs3, hs4⟩ := hSw
              go_simp
              try with_reducible rfl
            change wpAnyH _ _ _ _ _ _ _ (Act.put _ (some 101) _) _
            dsimp only [Act.put]
            refine wpAnyH_take (i := 2) (v := ?_) rfl (by kernel_rfl) (by kernel_rfl) (by kernel_rfl) (fun _ _ _ h => h) (Or.inl ⟨by rfl, ?_⟩) ⟨XP.C, hR0, hR1, hR2⟩ ?_
            rotate_left 1
            · intro w hSw
              obtain ⟨hs1, hs2, hs3, hs4⟩ := hSw
              go_simp
              try with_reducible rfl
            change wpAnyH _ _ _ _ _ _ _ (Act.put _ (some 103) _) _
            dsimp only [Act.put]
            refine wpAnyH_take (i := 3) (v := ?_) rfl (by kernel_rfl) (by kernel_rfl) (by kernel_rfl) (fun _ _ _ h => h) (Or.inl ⟨by rfl, ?_⟩) ⟨XP.C, hR0, hR1, hR2⟩ ?_
            rotate_left 1
            · intro w hSw
              obtain ⟨hs1, hs2, hs3, hs4⟩ := hSw
              go_simp
              try with_reducible rfl
            change wpAnyH _ _ _ _ _ _ _ (Act.put _ (some 104) _) _
            dsimp only [Act.put]
            refine wpAnyH_take (i := 4) (v := ?_) rfl (by kernel_rfl) (by kernel_rfl) (by kernel_rfl) (fun _ _ _ h => h) (Or.inl ⟨by rfl, ?_⟩) ⟨XP.C, hR0, hR1, hR2⟩ ?_
            rotate_left 1
            · intro w hSw
              obtain ⟨hs1, hs2, hs3, hs4⟩ := hSw
              go_simp
              try with_reducible rfl
            change wpAnyH _ _ _ _ _ _ _ (Act.put _ (some 105) _) _
            dsimp only [Act.put]
            refine wpAnyH_take (i := 5) (v := ?_) rfl (by kernel_rfl) (by kernel_rfl) (by kernel_rfl) (fun _ _ _ h => h) (Or.inl ⟨by rfl, ?_⟩) ⟨XP.C, hR0, hR1, hR2⟩ ?_
            rotate_left 1
            · intro w hSw
              obtain ⟨hs1, hs2, hs3, hs4⟩ := hSw
              go_simp
              try with_reducible rfl
            change wpAnyH _ _ _ _ _ _ _ (Act.put _ (some 106) _) _
            dsimp only [Act.put]
            refine wpAnyH_ready (rs := [1]) (by kernel_rfl) (by simp) ?_
            refine AllReadyH.cons rfl (fun K' hK => ?_) AllReadyH.nil
            rw [if_pos (by rfl)]
            refine wp_load_row 34 (.tmp 17) rfl w17.heap.size rfl _ (stC Z0 Z1 Z2 Z3 z.pods.length n0 z.mnts.length n1 z.devs.length n2 z.lks.length n3 z.ph z.co z.ck z.bo z.ba z.lb z.gd z.pr) _ _ HZ Tryz.underlying34 rfl HIS.out ?_
            refine hK.out _ _ ⟨XP.C, hR0, hR1, hR2⟩ (fun _ => ?_)
            clear hK K'
            change wpAnyH _ _ _ _ _ _ _ (Act.put _ (some 102) _) _
            dsimp only [Act.put]
            refine wpAnyH_ready (rs := [6]) (by kernel_rfl) (by simp) ?_
            refine AllReadyH.cons rfl (fun K' hK => ?_) AllReadyH.nil
            go_simp
            go_at_call 9
            obtain ⟨z2, b2, hz2⟩ : ∃ x b, appliedS d z ⟨pk, pa, pb⟩ = (x, b) := by
              generalize appliedS d z ⟨pk, pa, pb⟩ = q
              exact ⟨q.1, q.2, rfl⟩
            have hall := implRec_any _ _ d z ⟨pk, pa, pb⟩ wd L.plan IZ (HN.out.go K)
            rw [hz2] at hall
            obtain ⟨y1, y2, y3, y4⟩ := applied_next HOK.out HZK.out (HRUN.out) hlt HRR.out hz2
            refine hall.mono ?_
            rintro e we ⟨vz, rfl, Oz, hbz⟩
            clear hall
            obtain ⟨w0_, w1_, w2_, w3_, rfl, -⟩ := Oz.it
            obtain ⟨⟨D0, p0, rfl⟩, ⟨D1, p1, rfl⟩, ⟨D2, p2, rfl⟩, ⟨D3, p3, rfl⟩⟩ := Oz.shapes
            replace XP := XP.step hbz
            replace HZ := (hbz.block _ (Array.getElem?_eq_some_iff.1 HZ).1).trans HZ
            replace hR0 := (hbz.cell (p := ⟨rb0, roff + k * 3, none⟩) hrl).trans hR0
            replace hR1 := (hbz.cell (p := ⟨rb0, roff + k * 3 + 1, none⟩) hrl).trans hR1
            replace hR2 := (hbz.cell (p := ⟨rb0, roff + k * 3 + 2, none⟩) hrl).trans hR2
            replace hb := hb.trans (hbz.mono hb.size)
            clear hbz IZ
            go_wp2_with fail
            refine hK.out _ _ ⟨XP.C, hR0, hR1, hR2⟩ (fun _ => ?_)
            clear hK K'
            try (change wpAnyH _ _ _ _ _ _ _ (Act.put _ (some 107) _) _; dsimp only [Act.put])
            refine wpAnyH_take (i := 7) (v := ?_) rfl (by kernel_rfl) (by kernel_rfl) (by kernel_rfl) (fun _ _ _ h => h) (Or.inl ⟨by rfl, ?_⟩) ⟨XP.C, hR0, hR1, hR2⟩ ?_
            rotate_left 1
            · intro w hSw
              obtain ⟨hs1, hs2, hs3, hs4⟩ := hSw
              go_simp
              try with_reducible rfl
            change wpAnyH _ _ _ _ _ _ _ (Act.put _ (some 100) _) _
            dsimp only [Act.put]
            refine wpAnyH_take (i := 8) (v := ?_) rfl (by kernel_rfl) (by kernel_rfl) (by kernel_rfl) (fun _ _ _ h => h) (Or.inl ⟨by rfl, ?_⟩) ⟨XP.C, hR0, hR1, hR2⟩ ?_
            rotate_left 1
            · intro w hSw
              obtain ⟨hs1, hs2, hs3, hs4⟩ := hSw
              go_simp
              try with_reducible rfl
            change wpAnyH _ _ _ _ _ _ _ (Act.put _ (some 108) _) _
            dsimp only [Act.put]
            refine wpAnyH_take (i := 9) (v := ?_) rfl (by kernel_rfl) (by kernel_rfl) (by kernel_rfl) (fun _ _ _ h => h) (Or.inl ⟨by rfl, ?_⟩) ⟨XP.C, hR0, hR1, hR2⟩ ?_
            rotate_left 1
            · intro w hSw
              obtain ⟨hs1, hs2, hs3, hs4⟩ := hSw
              go_simp
              try with_reducible rfl
            change wpAnyH _ _ _ _ _ _ _ (Act.put _ (some 109) _) _
            dsimp only [Act.put]
            refine wpAnyH_ready (rs := [10]) (by kernel_rfl) (by simp) ?_
            refine AllReadyH.cons rfl (fun K' hK => ?_) AllReadyH.nil
            rw [if_pos (by rfl)]
            refine wp_store_row 34 (.tmp 17) (.tmp 108) rfl w17.heap.size (stC D0 D1 D2 D3 z2.pods.length p0 z2.mnts.length p1 z2.devs.length p2 z2.lks.length p3 z2.ph z2.co z2.ck z2.bo z2.ba z2.lb z2.gd z2.pr) rfl rfl 34 _ HZ HIS.out rfl (by simp [Value.oneCell']) ?_
            have kk := keepsRow_ we w17.heap.size (stC D0 D1 D2 D3 z2.pods.length p0 z2.mnts.length p1 z2.devs.length p2 z2.lks.length p3 z2.ph z2.co z2.ck z2.bo z2.ba z2.lb z2.gd z2.pr)
            replace XP := XP.keeps kk (by rintro b rfl; exact hw17) (by show ¬ b3 = w17.heap.size; omega)
            replace hR0 := (kk.cell (p := ⟨rb0, roff + k * 3, none⟩) (Nat.lt_of_lt_of_le hrb17 hb.size) (by show ¬ rb0 = w17.heap.size; omega)).trans hR0
            replace hR1 := (kk.cell (p := ⟨rb0, roff + k * 3 + 1, none⟩) (Nat.lt_of_lt_of_le hrb17 hb.size) (by show ¬ rb0 = w17.heap.size; omega)).trans hR1
            replace hR2 := (kk.cell (p := ⟨rb0, roff + k * 3 + 2, none⟩) (Nat.lt_of_lt_of_le hrb17 hb.size) (by show ¬ rb0 = w17.heap.size; omega)).trans hR2
            have IZ := (Oz.keepsT kk HZ (by decide)).isR y4
            replace HZ := setRow_heap _ _ _ (stC D0 D1 D2 D3 z2.pods.length p0 z2.mnts.length p1 z2.devs.length p2 z2.lks.length p3 z2.ph z2.co z2.ck z2.bo z2.ba z2.lb z2.gd z2.pr) _ _ HZ
            replace hb := belowRow_ hb (Nat.le_refl _) (stC D0 D1 D2 D3 z2.pods.length p0 z2.mnts.length p1 z2.devs.length p2 z2.lks.length p3 z2.ph z2.co z2.ck z2.bo z2.ba z2.lb z2.gd z2.pr)
            clear kk Oz
            refine hK.out _ _ ⟨XP.C, hR0, hR1, hR2⟩ (fun _ => ?_)
            clear hK K'
            try (change wpAnyH _ _ _ _ _ _ _ (Act.put _ none _) _; dsimp only [Act.put])
            refine wpAnyH_take (i := 11) (v := ?_) rfl (by kernel_rfl) (by kernel_rfl) (by kernel_rfl) (fun _ _ _ h => h) (Or.inl ⟨by rfl, ?_⟩) ⟨XP.C, hR0, hR1, hR2⟩ ?_
            rotate_left 1
            · intro w hSw
              obtain ⟨hs1, hs2, hs3, hs4⟩ := hSw
              go_simp
              try with_reducible rfl
            change wpAnyH _ _ _ _ _ _ _ (Act.put _ (some 18) _) _
            dsimp only [Act.put]
            refine wpAnyH_done (by kernel_rfl) ?_ _
            refine NoPanic.normal ?_
            clear hR0 hR1 hR2 L
            go_wp2_with fail
            exact ⟨⟨k + 1, b2, z2, D0, D1, D2, D3, p0, p1, p2, p3, by go_num, rfl, by omega, y1, y2, y3, HZ, IZ, hb⟩, by simp [intOf]; omega⟩
          · have hkl : l.length = k := by omega
            have hsome : runR d s l = some z := by
              have := HRT.out rfl
              rwa [← hkl, List.take_length] at this
            have hxs : x = z ∧ is_ = true := by
              have := HX.out
              unfold appliedL at this
              rw [HOK.out, hsome] at this
              simp at this
              exact ⟨this.1.symm, this.2⟩
            obtain ⟨rfl, rfl⟩ := hxs
            have h1 := XP.C
            have h3 := XX.C
            have h4 : ∀ o, wr.cell? ⟨w17.heap.size, o, none⟩ = (stC Z0 Z1 Z2 Z3 x.pods.length n0 x.mnts.length n1 x.devs.length n2 x.lks.length n3 x.ph x.co x.ck x.bo x.ba x.lb x.gd x.pr)[o]? := fun o => cell_of_row _ _ o _ _ _ HZ
            clear hk
            go_wp2_with fail
            refine (likeState_same _ _ _ _ Ox.st IZ.is).mono ?_
            rintro e wa ⟨rfl, hb2⟩
            replace XP := XP.step hb2
            replace XX := XX.step hb2
            have g1 := XP.C
            have g3 := XX.C
            clear h1 h3 h4
            go_wp2_with fail
            refine (implStateOk_any _ _ d _ _ (L.below hb2).plan (Ox.below hb2).st).mono ?_
            rintro e wb ⟨rfl, hb3⟩
            have KE := (K.trans (hb2.mono K.size)).trans (hb3.mono (K.trans (hb2.mono K.size)).size)
            rw [HZK.out]
            go_wp2_with fail
            go_ret
            exact ⟨rfl, KE⟩
end Go.Proofs.YtoddmijfdmjfbaaGreatDoor
