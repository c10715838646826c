/-
  FnBudgets' walk.
-/
import Derived.Test.YtfibgpikjfopgaaGreatMZ11
import Derived.Test.YtfibgpikjfopgaaGreatMZ8
import Derived.Test.YtfibgpikjfopgaaGreatMZxPt
import Derived.Test.YtfibgpikjfopgaaGreatMZxXm
import Derived.Test.YtfibgpikjfopgaaGreatMZ0
/- Nd -/
set_option linter.unusedVariables false
namespace Go.Proofs.YtfibgpikjfopgaaGreat
open Go.RowKit

set_option maxRecDepth 100000 in
set_option maxHeartbeats 16000000 in
theorem lawBudgets (A : Option Addr) (n c : Nat) (w : World) (hB : Bytes w w.heap.size A n) (hn : n ≤ maxLen) : Calls Tryz.prog 3 #[.slice A n c] w fun e w' => e = .returned (.bool true) ∧ Below w.heap.size w w' := by
  have HB := Lib.hid hB
  clear hB
  go_enter Tryz.func3, Tryz.ntmps3
  go_wp2_with fail
  refine (big_any A n c _ hn).mono ?_
  rintro e w2 ⟨rfl, rfl⟩
  by_cases hbig : 4096 < (n : Int)
  · go_wp2_with fail
    go_ret
    exact ⟨rfl, Below.refl _ _⟩
  · have hn4 : n ≤ 4096 := by omega
    clear hbig
    have HIA : Hid ((Tryz.prog.info? 40).map (·.size) = some 20) := Lib.hid (by kernel_rfl)
    have HIS : Hid ((Tryz.prog.info? 38).map (·.size) = some 12) := Lib.hid (by kernel_rfl)
    go_wp2_with fail
    refine (roll_any A n c 8 _ HB.out hn4).mono ?_
    rintro e w1 ⟨g, rfl, hg, CU, K⟩
    go_wp2_with fail
    refine (scheme2_any g w1 CU).mono ?_
    rintro e w2 ⟨v0, v1, v2, v3, d, rfl, o0, o1, o2, o3, CU2, hk, ⟨hok, hn6, -, -, -⟩, hn0, hn1⟩
    have Lp : Lists w2 w1.heap.size v0 v1 v2 v3 d := ⟨o0, o1, o2, o3⟩
    replace Lp := Lp.base K.size
    have hgl := CU.lt
    replace K := K.trans (hk.below (B := w.heap.size) K.size (by rintro b hb rfl; omega))
    replace CU := CU2
    clear o0 o1 o2 o3 CU2 hk
    have HOK := Lib.hid hok
    obtain ⟨V0, C0, rfl, -, -⟩ := Lp.o0.formR
    obtain ⟨V1, C1, rfl, -, -⟩ := Lp.o1.formR
    obtain ⟨V2, C2, rfl, -, -⟩ := Lp.o2.formR
    obtain ⟨V3, C3, rfl, -, -⟩ := Lp.o3.formR
    have hg2 : g < w2.heap.size := CU.lt
    have hw2 : w.heap.size ≤ w2.heap.size := K.size
    go_upto_region 5 with fail
    have hK0 : Below w2.heap.size w2 w2 := Below.refl _ _
    have XP := Own.box2 K (planC V0 V1 V2 V3 d.n0 C0 d.n1 C1 d.n2 C2 d.n3 C3 d.l d.p d.t) 32
    have hK1 := hK0.alloc hK0.size (.cells (planC V0 V1 V2 V3 d.n0 C0 d.n1 C1 d.n2 C2 d.n3 C3 d.l d.p d.t) 32)
    have hb := hK1
    replace K := K.trans (hb.mono K.size)
    replace CU := CU.below hb
    replace Lp := Lp.below hb
    clear hb hK0 hK1
    generalize (w2.alloc (.cells (planC V0 V1 V2 V3 d.n0 C0 d.n1 C1 d.n2 C2 d.n3 C3 d.l d.p d.t) 32)) = w3 at K CU Lp XP ⊢
    have h34 := XP.z
    generalize w2.heap.size = R4 at XP hg2 hw2 h34 ⊢
    have h1 := XP.C
    go_wp2_with fail
    refine (newAgent_any _ d w3 (Lp.plR (PlFits.of_ok hok)) hok).mono ?_
    rintro e w4 ⟨v', rfl, OA, hb⟩
    have AG : Hid (AgD d (newS d) []) := Lib.hid (ag_new hok)
    obtain ⟨s1, hs1⟩ : ∃ s, newS d = s := ⟨_, rfl⟩
    rw [hs1] at OA AG
    clear hs1
    replace OA := OA.base K.size
    clear h1
    replace K := K.trans (hb.mono K.size)
    replace CU := CU.below hb
    replace Lp := Lp.below hb
    replace XP := XP.step hb
    clear hb
    obtain ⟨cs, rfl, hsz, hone⟩ := OA.flat
    have h45 : R4 < w4.heap.size := XP.z
    have HB5 := heap_alloc_new w4 (.cells (agC (.slice none 0 0) (.slice none 0 0) (.slice none 0 0) (.slice none 0 0) 0 0 0 0 false 0 0 0 0 (.slice none 0 0) (.slice none 0 0) (.slice none 0 0) (.slice none 0 0) 0 0 (.slice none 0 0)) 40)
    go_upto_region 6 with (
      ((with_reducible refine store_agent (x := 5) (y := 27) (g := w4.heap.size) (cs := cs) ?_ ?_ HB5 ?_ ?_ ?_ ?_)
       · rfl
       · rfl
       · rw [hsz]; exact HIA.out
       · rw [hsz]; rfl
       · exact hone))
    have hb : Below w4.heap.size w4 ((w4.alloc (.cells (agC (.slice none 0 0) (.slice none 0 0) (.slice none 0 0) (.slice none 0 0) 0 0 0 0 false 0 0 0 0 (.slice none 0 0) (.slice none 0 0) (.slice none 0 0) (.slice none 0 0) 0 0 (.slice none 0 0)) 40)).setRow w4.heap.size cs) := below_setRow ((Below.refl _ _).alloc (Nat.le_refl _) _) (Nat.le_refl _) _
    replace K := K.trans (hb.mono K.size)
    replace CU := CU.below hb
    replace Lp := Lp.below hb
    replace XP := XP.step hb
    replace OA := OA.below hb
    clear hb
    replace HB5 : ((w4.alloc (.cells (agC (.slice none 0 0) (.slice none 0 0) (.slice none 0 0) (.slice none 0 0) 0 0 0 0 false 0 0 0 0 (.slice none 0 0) (.slice none 0 0) (.slice none 0 0) (.slice none 0 0) 0 0 (.slice none 0 0)) 40)).setRow w4.heap.size cs).heap[w4.heap.size]? = some (.cells cs 40) := setRow_heap _ _ _ _ _ _ HB5
    generalize ((w4.alloc (.cells (agC (.slice none 0 0) (.slice none 0 0) (.slice none 0 0) (.slice none 0 0) 0 0 0 0 false 0 0 0 0 (.slice none 0 0) (.slice none 0 0) (.slice none 0 0) (.slice none 0 0) 0 0 (.slice none 0 0)) 40)).setRow w4.heap.size cs) = w5 at K CU Lp XP OA HB5 ⊢
    generalize w4.heap.size = R5 at HB5 h45 ⊢
    have HSZ := Lib.hid hsz
    have hsd6 := AG.out.len
    obtain ⟨ob6, hob6⟩ : ∃ o, obeyD d s1 [] 1 0 0 = o := ⟨_, rfl⟩
    have AG6 : Hid (AgD d ob6.1.1 ob6.1.2) := Lib.hid (by rw [← hob6]; exact ag_obey AG.out)
    go_upto_region 7 with (first
      | (have hq := HX6
         clear hq
         ((with_reducible refine store_agent (x := 5) (y := 33) (g := R5) (cs := cs6) ?_ ?_ HX6 ?_ ?_ ?_ ?_)
          · rfl
          · rfl
          · rw [hsz6]; exact HIA.out
          · rw [hsz6, HSZ.out]
          · exact hone6))
      | (go_at_call 8
         refine (obeyed_any _ d s1 [] 1 0 0 _ (OA.is (PlFits.of_ok HOK.out) (fits_ok AG.out.ok)) AG.out).mono ?_
         rw [hob6]
         rintro e wx ⟨vx, rfl, OX, hb⟩
         replace OX := OX.base K.size
         have HX6 := (hb.block _ (Array.getElem?_eq_some_iff.1 HB5).1).trans HB5
         obtain ⟨cs6, rfl, hsz6, hone6⟩ := OX.flat)
      | ((with_reducible refine load_agent (x := 5) (g := R5) (cs := cs) ?_ HB5 ?_ ?_)
         · rfl
         · rw [HSZ.out]; exact HIA.out))
    replace K := K.trans (hb.mono K.size)
    replace CU := CU.below hb
    replace Lp := Lp.below hb
    replace XP := XP.step hb
    clear hb
    have OA := OX
    have HB5 := HX6
    clear HX6
    have kk := keepsRow_ wx R5 cs6
    replace OA := OA.keepsT kk HB5 (by decide)
    replace Lp := Lp.keeps kk HB5 (by decide)
    replace XP := XP.keeps kk (by rintro b rfl; omega) (by show ¬ R4 = R5; omega)
    replace CU := CU.keeps kk (fun b hb e => by omega)
    replace K := belowRow_ K (B := R5) (by omega) cs6
    replace HB5 := setRow_heap _ _ _ cs6 _ _ HB5
    clear kk OX
    generalize wx.setRow R5 cs6 = w6 at K CU Lp XP OA HB5 ⊢
    obtain ⟨⟨s6, st6⟩, cd6⟩ := ob6
    dsimp only at OA AG6
    replace AG := AG6
    replace HSZ := Lib.hid hsz6
    obtain ⟨csA, hcsA⟩ : ∃ c, cs6 = c := ⟨_, rfl⟩
    rw [hcsA] at OA HB5 hsz6
    replace HSZ : Hid (csA.size = 20) := Lib.hid hsz6
    have hsd7 := AG.out.len
    obtain ⟨ob7, hob7⟩ : ∃ o, obeyD d s6 st6 2 0 0 = o := ⟨_, rfl⟩
    have AG7 : Hid (AgD d ob7.1.1 ob7.1.2) := Lib.hid (by rw [← hob7]; exact ag_obey AG.out)
    go_upto_region 8 with (first
      | (have hq := HX7
         clear hq
         ((with_reducible refine store_agent (x := 5) (y := 39) (g := R5) (cs := cs7) ?_ ?_ HX7 ?_ ?_ ?_ ?_)
          · rfl
          · rfl
          · rw [hsz7]; exact HIA.out
          · rw [hsz7, HSZ.out]
          · exact hone7))
      | (go_at_call 8
         refine (obeyed_any _ d s6 st6 2 0 0 _ (OA.is (PlFits.of_ok HOK.out) (fits_ok AG.out.ok)) AG.out).mono ?_
         rw [hob7]
         rintro e wx ⟨vx, rfl, OX, hb⟩
         replace OX := OX.base K.size
         have HX7 := (hb.block _ (Array.getElem?_eq_some_iff.1 HB5).1).trans HB5
         obtain ⟨cs7, rfl, hsz7, hone7⟩ := OX.flat)
      | ((with_reducible refine load_agent (x := 5) (g := R5) (cs := csA) ?_ HB5 ?_ ?_)
         · rfl
         · rw [HSZ.out]; exact HIA.out))
    replace K := K.trans (hb.mono K.size)
    replace CU := CU.below hb
    replace Lp := Lp.below hb
    replace XP := XP.step hb
    clear hb
    have OA := OX
    have HB5 := HX7
    clear HX7
    have kk := keepsRow_ wx R5 cs7
    replace OA := OA.keepsT kk HB5 (by decide)
    replace Lp := Lp.keeps kk HB5 (by decide)
    replace XP := XP.keeps kk (by rintro b rfl; omega) (by show ¬ R4 = R5; omega)
    replace CU := CU.keeps kk (fun b hb e => by omega)
    replace K := belowRow_ K (B := R5) (by omega) cs7
    replace HB5 := setRow_heap _ _ _ cs7 _ _ HB5
    clear kk OX
    generalize wx.setRow R5 cs7 = w7 at K CU Lp XP OA HB5 ⊢
    obtain ⟨⟨s7, st7⟩, cd7⟩ := ob7
    dsimp only at OA AG7
    replace AG := AG7
    obtain ⟨p0, p1, p2, p3, u0, u1, u2, u3, bb, hv, -, Os, -, -⟩ := OA.it
    injection hv with hv
    subst hv
    clear OA
    obtain ⟨⟨E0, k0, rfl⟩, ⟨E1, k1, rfl⟩, ⟨E2, k2, rfl⟩, ⟨E3, k3, rfl⟩⟩ := Os.shapes
    have h5 : ∀ o, w7.cell? ⟨R5, o, none⟩ = (agC p0 p1 p2 p3 d.l d.p d.t s7.ph s7.co s7.ck s7.bo s7.ba s7.lb (.slice E0 s7.pods.length k0) (.slice E1 s7.mnts.length k1) (.slice E2 s7.devs.length k2) (.slice E3 s7.lks.length k3) s7.gd s7.pr bb)[o]? := fun o => cell_of_row _ _ o _ _ _ HB5
    have h57 := (Array.getElem?_eq_some_iff.1 HB5).1
    clear HB5
    go_upto_region 9 with fail
    have HS7 := heap_alloc_new w7 (.cells (stC E0 E1 E2 E3 s7.pods.length k0 s7.mnts.length k1 s7.devs.length k2 s7.lks.length k3 s7.ph s7.co s7.ck s7.bo s7.ba s7.lb s7.gd s7.pr) 38)
    have hb : Below w7.heap.size w7 (w7.alloc (.cells (stC E0 E1 E2 E3 s7.pods.length k0 s7.mnts.length k1 s7.devs.length k2 s7.lks.length k3 s7.ph s7.co s7.ck s7.bo s7.ba s7.lb s7.gd s7.pr) 38)) := (Below.refl _ _).alloc (Nat.le_refl _) _
    replace K := K.trans (hb.mono K.size)
    replace CU := CU.below hb
    replace Lp := Lp.below hb
    replace XP := XP.step hb
    replace Os := Os.below hb
    clear hb h5
    generalize w7.alloc (.cells (stC E0 E1 E2 E3 s7.pods.length k0 s7.mnts.length k1 s7.devs.length k2 s7.lks.length k3 s7.ph s7.co s7.ck s7.bo s7.ba s7.lb s7.gd s7.pr) 38) = w8 at K CU Lp XP Os HS7 ⊢
    generalize w7.heap.size = R7 at HS7 h57 ⊢
    have SO := Lib.hid AG.out.ok
    go_wp2_with fail
    go_loopw [8] (fun i wr => ∃ (k : Nat) (t : StD) (X0 X1 X2 X3 : Option Addr) (m0 m1 m2 m3 : Nat), k ≤ 15 ∧ i = .int .i64 k ∧ StOk d t ∧ Below w.heap.size w wr ∧ Cur 58 .u64 wr g ∧ Lists wr w.heap.size (.slice V0 d.n0 C0) (.slice V1 d.n1 C1) (.slice V2 d.n2 C2) (.slice V3 d.n3 C3) d ∧ Own w wr R4 (planC V0 V1 V2 V3 d.n0 C0 d.n1 C1 d.n2 C2 d.n3 C3 d.l d.p d.t) ∧ OwnSt wr w.heap.size (.agg (stC X0 X1 X2 X3 t.pods.length m0 t.mnts.length m1 t.devs.length m2 t.lks.length m3 t.ph t.co t.ck t.bo t.ba t.lb t.gd t.pr)) t ∧ wr.heap[R7]? = some (.cells (stC X0 X1 X2 X3 t.pods.length m0 t.mnts.length m1 t.devs.length m2 t.lks.length m3 t.ph t.co t.ck t.bo t.ba t.lb t.gd t.pr) 38)) (fun i _ => 15 - (intOf i).toNat)
    case atStart => exact ⟨0, s7, E0, E1, E2, E3, k0, k1, k2, k3, by omega, rfl, SO.out, K, CU, Lp, XP, Os, HS7⟩
    case round =>
      clear K CU Lp XP Os HS7 SO
      obtain ⟨k, t, X0, X1, X2, X3, m0, m1, m2, m3, hk, rfl, so, K, CU, Lp, XP, Os, HS7⟩ := hrel
      have SO := Lib.hid so
      clear so
      by_cases hlt : k < 15
      · have h4 := XP.C
        go_wp2_with fail
        refine (below_any g d.n0 _ CU (by omega) (by omega)).mono ?_
        rintro e w9 ⟨a, rfl, a0, a1, CU9, hk9⟩
        obtain ⟨gcs, hgc⟩ := CU.cells
        replace Lp := Lp.keeps hk9 hgc (by decide)
        replace Os := Os.keepsT hk9 hgc (by decide)
        replace XP := XP.keeps hk9 (by rintro b rfl; omega) (by show ¬ R4 = g; omega)
        replace HS7 := (hk9.block _ (Array.getElem?_eq_some_iff.1 HS7).1 (by show ¬ R7 = g; omega)).trans HS7
        replace K := K.trans (hk9.below (B := w.heap.size) K.size (by rintro b hb rfl; omega))
        replace CU := CU9
        clear CU9 hk9 hgc h4
        obtain ⟨i, rfl⟩ := Int.eq_ofNat_of_zero_le a0
        have hi : i < d.n0 := by omega
        have h4 := XP.C
        have h7 : ∀ o, w9.cell? ⟨R7, o, none⟩ = (stC X0 X1 X2 X3 t.pods.length m0 t.mnts.length m1 t.devs.length m2 t.lks.length m3 t.ph t.co t.ck t.bo t.ba t.lb t.gd t.pr)[o]? := fun o => cell_of_row _ R7 o _ _ _ HS7
        obtain ⟨ans, hans⟩ : ∃ b, (stOkB d t && mayEvictB d t i) = b := ⟨_, rfl⟩
        go_wp2_with fail
        refine (implMayEvict_any _ _ d t i w9 Lp.plan Os.st).mono ?_
        rw [hans]
        rintro e w10 ⟨rfl, hb⟩
        clear h4 h7
        replace K := K.trans (hb.mono K.size)
        replace CU := CU.below hb
        replace Lp := Lp.below hb
        replace XP := XP.step hb
        replace Os := Os.below hb
        replace HS7 := (hb.block _ (Array.getElem?_eq_some_iff.1 HS7).1).trans HS7
        clear hb
        have h4 := XP.C
        have h7 : ∀ o, w10.cell? ⟨R7, o, none⟩ = (stC X0 X1 X2 X3 t.pods.length m0 t.mnts.length m1 t.devs.length m2 t.lks.length m3 t.ph t.co t.ck t.bo t.ba t.lb t.gd t.pr)[o]? := fun o => cell_of_row _ R7 o _ _ _ HS7
        go_wp2_with fail
        refine (mayEvict_any _ _ d t i w10 Lp.plan Os.st).mono ?_
        rw [hans]
        rintro e w11 ⟨rfl, hb⟩
        clear h4 h7
        replace K := K.trans (hb.mono K.size)
        replace CU := CU.below hb
        replace Lp := Lp.below hb
        replace XP := XP.step hb
        replace Os := Os.below hb
        replace HS7 := (hb.block _ (Array.getElem?_eq_some_iff.1 HS7).1).trans HS7
        clear hb
        cases ans
        · go_wp2_with fail
          exact ⟨⟨k + 1, t, X0, X1, X2, X3, m0, m1, m2, m3, by omega, by go_num, SO.out, K, CU, Lp, XP, Os, HS7⟩, by simp [intOf]; omega⟩
        · have HE := Lib.hid hans
          clear hans
          have h4 := XP.C
          have h7 : ∀ o, w11.cell? ⟨R7, o, none⟩ = (stC X0 X1 X2 X3 t.pods.length m0 t.mnts.length m1 t.devs.length m2 t.lks.length m3 t.ph t.co t.ck t.bo t.ba t.lb t.gd t.pr)[o]? := fun o => cell_of_row _ R7 o _ _ _ HS7
          go_wp2_with fail
          obtain ⟨m, hm, hml⟩ := pod_group HOK.out hi
          obtain ⟨h0, hme⟩ : (podAt t i).1 = 0 ∧ d.x1 m < healthyN d t m := by
            have := HE.out
            rw [Bool.and_eq_true] at this
            have h2 := this.2
            simp only [mayEvictB, Bool.and_eq_true, decide_eq_true_eq, Int.toNat_natCast] at h2
            obtain ⟨⟨-, q1⟩, q2⟩ := h2
            rw [hm, Int.toNat_natCast] at q2
            exact ⟨q1, q2⟩
          obtain ⟨hgr, hsx, -, hle⟩ := evict_left SO.out hi h0 (by rw [hm, Int.toNat_natCast]; exact hme)
          rw [hm, Int.toNat_natCast] at hle
          have happ : appliedS d t ⟨2, i, 6⟩ = (applyR t ⟨2, i, 6⟩, true) := by
            unfold appliedS
            rw [stOkB_iff.2 SO.out, hgr]
            rfl
          obtain ⟨x, hx⟩ : ∃ x, applyR t ⟨2, i, 6⟩ = x := ⟨_, rfl⟩
          rw [hx] at happ hsx hle
          have HSX := Lib.hid hsx
          have HLE := Lib.hid hle
          have hrec := specRec_any _ _ d t ⟨2, i, 6⟩ w11 Lp.plan (Os.isR (fits_ok SO.out))
          rw [happ] at hrec
          refine hrec.mono ?_
          clear hrec
          rintro e w12 ⟨vx, rfl, Ox, hb⟩
          replace Ox := Ox.base K.size
          clear h4 h7
          replace K := K.trans (hb.mono K.size)
          replace CU := CU.below hb
          replace Lp := Lp.below hb
          replace XP := XP.step hb
          replace Os := Os.below hb
          replace HS7 := (hb.block _ (Array.getElem?_eq_some_iff.1 HS7).1).trans HS7
          clear hb hx happ hsx hle
          obtain ⟨y0, y1, y2, y3, rfl, -⟩ := Ox.it
          obtain ⟨⟨Y0, f0, rfl⟩, ⟨Y1, f1, rfl⟩, ⟨Y2, f2, rfl⟩, ⟨Y3, f3, rfl⟩⟩ := Ox.shapes
          go_upto_region 18 with (
            (with_reducible refine store_state (x := 7) (y := 69) (g := R7) (cs := stC Y0 Y1 Y2 Y3 x.pods.length f0 x.mnts.length f1 x.devs.length f2 x.lks.length f3 x.ph x.co x.ck x.bo x.ba x.lb x.gd x.pr) ?_ ?_ HS7 ?_ ?_ ?_ ?_)
            · rfl
            · rfl
            · exact HIS.out
            · rfl
            · simp [Value.oneCell'])
          have kk := keepsRow_ w12 (R7) (stC Y0 Y1 Y2 Y3 x.pods.length f0 x.mnts.length f1 x.devs.length f2 x.lks.length f3 x.ph x.co x.ck x.bo x.ba x.lb x.gd x.pr)
          replace K := belowRow_ K (B := R7) (by omega) (stC Y0 Y1 Y2 Y3 x.pods.length f0 x.mnts.length f1 x.devs.length f2 x.lks.length f3 x.ph x.co x.ck x.bo x.ba x.lb x.gd x.pr)
          replace CU := CU.keeps kk (fun b hb e => by omega)
          replace Lp := Lp.keeps kk HS7 (by decide)
          replace XP := XP.keeps kk (by rintro b rfl; omega) (by show ¬ R4 = R7; omega)
          replace Ox := Ox.keepsT kk HS7 (by decide)
          replace HS7 := setRow_heap _ _ _ (stC Y0 Y1 Y2 Y3 x.pods.length f0 x.mnts.length f1 x.devs.length f2 x.lks.length f3 x.ph x.co x.ck x.bo x.ba x.lb x.gd x.pr) _ _ HS7
          clear kk
          clear Os
          generalize w12.setRow R7 (stC Y0 Y1 Y2 Y3 x.pods.length f0 x.mnts.length f1 x.devs.length f2 x.lks.length f3 x.ph x.co x.ck x.bo x.ba x.lb x.gd x.pr) = w13 at K CU Lp XP HS7 Ox ⊢
          have h4 := XP.C
          obtain ⟨Aq, cq, hv0, -, sl0⟩ := Lp.o0.formR
          injection hv0 with e0 _ e0c
          subst e0 e0c
          obtain ⟨Am, cm, hv1, -, sl1⟩ := Lp.o1.formR
          injection hv1 with e1 _ e1c
          subst e1 e1c
          obtain ⟨bp, op, rfl, hbp, q0, -, -, -⟩ := sl0.cell4 hi
          obtain ⟨bm, om, rfl, hbm, r0⟩ := sl1.cell1 hml
          rw [hm] at q0
          clear sl0 sl1 hm
          go_upto_region 19 with fail
          clear h4 q0
          have hml1 : (m : Int) < (d.n1 : Int) := by omega
          refine wp_region_noPanic ?_
          refine wp_region_held_drew (S := fun W => (∀ o, W.cell? ⟨R4, o, none⟩ = (planC (some ⟨bp, op, none⟩) (some ⟨bm, om, none⟩) V2 V3 d.n0 C0 d.n1 C1 d.n2 C2 d.n3 C3 d.l d.p d.t)[o]?) ∧ (∀ o, W.cell? ⟨R7, o, none⟩ = (stC Y0 Y1 Y2 Y3 x.pods.length f0 x.mnts.length f1 x.devs.length f2 x.lks.length f3 x.ph x.co x.ck x.bo x.ba x.lb x.gd x.pr)[o]?) ∧ W.cell? ⟨bm, om + m, none⟩ = some (.int .i64 (d.x1 m))) (by kernel_rfl) (⟨XP.drew.C, fun o => cell_of_row _ _ o _ _ _ HS7, r0⟩) (fun _ => ?_)
          rw [← heap_drew w13] at HS7
          replace K := K.drew
          replace CU := CU.below (Below.refl _ _).drew
          replace Lp := Lp.below (Below.refl _ _).drew
          replace XP := XP.drew
          replace Ox := Ox.below (Below.refl _ _).drew
          replace r0 : w13.drew.cell? ⟨bm, om + m, none⟩ = some (.int .i64 (d.x1 m)) := r0
          replace hbm : bm < w13.drew.heap.size := hbm
          generalize w13.drew = v0 at r0 hbm K CU Lp XP HS7 Ox ⊢
          refine wpAnyH_take (i := 0) (v := ?_) rfl (by kernel_rfl) (by kernel_rfl) (by kernel_rfl) (fun _ _ _ h => h) (Or.inl ⟨by rfl, ?_⟩) ⟨XP.C, fun o => cell_of_row _ _ o _ _ _ HS7, r0⟩ ?_
          rotate_left 1
          · intro w hSw
            obtain ⟨hs1, hs2, hs3⟩ := hSw
            go_simp
            try with_reducible rfl
          change wpAnyH _ _ _ _ _ _ _ (Act.put _ (some 77) _) _
          dsimp only [Act.put]
          refine wpAnyH_take (i := 1) (v := ?_) rfl (by kernel_rfl) (by kernel_rfl) (by kernel_rfl) (fun _ _ _ h => h) (Or.inl ⟨by rfl, ?_⟩) ⟨XP.C, fun o => cell_of_row _ _ o _ _ _ HS7, r0⟩ ?_
          rotate_left 1
          · intro w hSw
            obtain ⟨hs1, hs2, hs3⟩ := hSw
            go_simp
            try with_reducible rfl
          change wpAnyH _ _ _ _ _ _ _ (Act.put _ (some 78) _) _
          dsimp only [Act.put]
          refine wpAnyH_take (i := 2) (v := ?_) rfl (by kernel_rfl) (by kernel_rfl) (by kernel_rfl) (fun _ _ _ h => h) (Or.inl ⟨by rfl, ?_⟩) ⟨XP.C, fun o => cell_of_row _ _ o _ _ _ HS7, r0⟩ ?_
          rotate_left 1
          · intro w hSw
            obtain ⟨hs1, hs2, hs3⟩ := hSw
            go_simp
            try with_reducible rfl
          change wpAnyH _ _ _ _ _ _ _ (Act.put _ (some 79) _) _
          dsimp only [Act.put]
          refine wpAnyH_take (i := 4) (v := ?_) rfl (by kernel_rfl) (by kernel_rfl) (by kernel_rfl) (fun _ _ _ h => h) (Or.inl ⟨by rfl, ?_⟩) ⟨XP.C, fun o => cell_of_row _ _ o _ _ _ HS7, r0⟩ ?_
          rotate_left 1
          · intro w hSw
            obtain ⟨hs1, hs2, hs3⟩ := hSw
            go_simp
            try with_reducible rfl
          change wpAnyH _ _ _ _ _ _ _ (Act.put _ (some 81) _) _
          dsimp only [Act.put]
          refine wpAnyH_take (i := 5) (v := ?_) rfl (by kernel_rfl) (by kernel_rfl) (by kernel_rfl) (fun _ _ _ h => h) (Or.inl ⟨by rfl, ?_⟩) ⟨XP.C, fun o => cell_of_row _ _ o _ _ _ HS7, r0⟩ ?_
          rotate_left 1
          · intro w hSw
            obtain ⟨hs1, hs2, hs3⟩ := hSw
            go_simp
            try with_reducible rfl
          change wpAnyH _ _ _ _ _ _ _ (Act.put _ (some 82) _) _
          dsimp only [Act.put]
          refine wpAnyH_take (i := 6) (v := ?_) rfl (by kernel_rfl) (by kernel_rfl) (by kernel_rfl) (fun _ _ _ h => h) (Or.inl ⟨by rfl, ?_⟩) ⟨XP.C, fun o => cell_of_row _ _ o _ _ _ HS7, r0⟩ ?_
          rotate_left 1
          · intro w hSw
            obtain ⟨hs1, hs2, hs3⟩ := hSw
            go_simp
            try with_reducible rfl
          change wpAnyH _ _ _ _ _ _ _ (Act.put _ (some 83) _) _
          dsimp only [Act.put]
          refine wpAnyH_take (i := 7) (v := ?_) rfl (by kernel_rfl) (by kernel_rfl) (by kernel_rfl) (fun _ _ _ h => h) (Or.inl ⟨by rfl, ?_⟩) ⟨XP.C, fun o => cell_of_row _ _ o _ _ _ HS7, r0⟩ ?_
          rotate_left 1
          · intro w hSw
            obtain ⟨hs1, hs2, hs3⟩ := hSw
            go_simp
            try with_reducible rfl
          change wpAnyH _ _ _ _ _ _ _ (Act.put _ (some 84) _) _
          dsimp only [Act.put]
          refine wpAnyH_take (i := 8) (v := ?_) rfl (by kernel_rfl) (by kernel_rfl) (by kernel_rfl) (fun _ _ _ h => h) (Or.inl ⟨by rfl, ?_⟩) ⟨XP.C, fun o => cell_of_row _ _ o _ _ _ HS7, r0⟩ ?_
          rotate_left 1
          · intro w hSw
            obtain ⟨hs1, hs2, hs3⟩ := hSw
            go_simp
            try with_reducible rfl
          change wpAnyH _ _ _ _ _ _ _ (Act.put _ (some 85) _) _
          dsimp only [Act.put]
          refine wpAnyH_ready (rs := [3]) (by kernel_rfl) (by simp) ?_
          refine AllReadyH.cons rfl (fun K' hK => ?_) AllReadyH.nil
          go_simp
          go_at_call 13
          refine (implHealthyIn_any _ _ d x m v0 Lp.plan Ox.st).mono ?_
          rw [show (if stOkB d x && inB (m : Int) 0 (d.n1 - 1) then healthyN d x m else -1) = healthyN d x m from by
            rw [stOkB_iff.2 HSX.out, show inB (m : Int) 0 (d.n1 - 1) = true from by rw [inB_true]; omega]; rfl]
          rintro e v1 ⟨rfl, hb⟩
          replace r0 := (hb.cell (p := ⟨bm, om + m, none⟩) hbm).trans r0
          replace hbm := Nat.lt_of_lt_of_le hbm hb.size
          replace K := K.trans (hb.mono K.size)
          replace CU := CU.below hb
          replace Lp := Lp.below hb
          replace XP := XP.step hb
          replace HS7 := (hb.block _ (Array.getElem?_eq_some_iff.1 HS7).1).trans HS7
          replace Ox := Ox.below hb
          clear hb
          go_wp2_with fail
          refine hK.out _ _ ⟨XP.C, fun o => cell_of_row _ _ o _ _ _ HS7, r0⟩ (fun _ => ?_)
          clear hK K'
          try (change wpAnyH _ _ _ _ _ _ _ (Act.put _ (some 80) _) _; dsimp only [Act.put])
          refine wpAnyH_ready (rs := [9]) (by kernel_rfl) (by simp) ?_
          refine AllReadyH.cons rfl (fun K' hK => ?_) AllReadyH.nil
          go_simp
          refine hK.out _ _ ⟨XP.C, fun o => cell_of_row _ _ o _ _ _ HS7, r0⟩ (fun _ => ?_)
          clear hK K'
          try (change wpAnyH _ _ _ _ _ _ _ (Act.put _ (some 86) _) _; dsimp only [Act.put])
          refine wpAnyH_done (by kernel_rfl) ?_ _
          refine NoPanic.normal ?_
          have hcmp : ¬ healthyN d x m < d.x1 m := by have := HLE.out; omega
          generalize healthyN d x m = hn_ at hcmp ⊢
          clear r0
          go_wp2_with fail
          exact ⟨⟨k + 1, x, Y0, Y1, Y2, Y3, f0, f1, f2, f3, by omega, by go_num, HSX.out, K, CU, Lp, XP, Ox, HS7⟩, by simp [intOf]; omega⟩
      · obtain rfl : k = 15 := by omega
        clear Lp XP Os HS7 CU SO
        go_wp2_with fail
        refine (drawMayEvict_any A n c wr ((HB.out.below K (Nat.le_refl _)).more K.size) hn4).mono ?_
        rintro e w20 ⟨v0, v1, v2, v3, q, us, u, kp, rfl, Lq, Ou, -, -, hb⟩
        replace Lq := Lq.base K.size
        replace Ou := Ou.base K.size
        replace K := K.trans (hb.mono K.size)
        clear hb
        obtain ⟨U0, G0, rfl, -, -⟩ := Lq.o0.formR
        obtain ⟨U1, G1, rfl, -, -⟩ := Lq.o1.formR
        obtain ⟨U2, G2, rfl, -, -⟩ := Lq.o2.formR
        obtain ⟨U3, G3, rfl, -, -⟩ := Lq.o3.formR
        obtain ⟨y0, y1, y2, y3, rfl, -⟩ := Ou.it
        obtain ⟨⟨I0, j0, rfl⟩, ⟨I1, j1, rfl⟩, ⟨I2, j2, rfl⟩, ⟨I3, j3, rfl⟩⟩ := Ou.shapes
        go_upto_region 22 with fail
        have hK0 : Below w20.heap.size w20 w20 := Below.refl _ _
        have XQ := Own.box2 K (planC U0 U1 U2 U3 q.n0 G0 q.n1 G1 q.n2 G2 q.n3 G3 q.l q.p q.t) 32
        have hK1 := hK0.alloc hK0.size (.cells (planC U0 U1 U2 U3 q.n0 G0 q.n1 G1 q.n2 G2 q.n3 G3 q.l q.p q.t) 32)
        have XU := Own.box2 (K.trans (hK1.mono K.size)) (stC I0 I1 I2 I3 u.pods.length j0 u.mnts.length j1 u.devs.length j2 u.lks.length j3 u.ph u.co u.ck u.bo u.ba u.lb u.gd u.pr) 38
        have hK2 := hK1.alloc hK1.size (.cells (stC I0 I1 I2 I3 u.pods.length j0 u.mnts.length j1 u.devs.length j2 u.lks.length j3 u.ph u.co u.ck u.bo u.ba u.lb u.gd u.pr) 38)
        replace XQ := XQ.alloc (.cells (stC I0 I1 I2 I3 u.pods.length j0 u.mnts.length j1 u.devs.length j2 u.lks.length j3 u.ph u.co u.ck u.bo u.ba u.lb u.gd u.pr) 38)
        have hb := hK2
        replace K := K.trans (hb.mono K.size)
        replace Lq := Lq.below hb
        replace Ou := Ou.below hb
        clear hb hK0 hK1 hK2
        try rw [heap_size_alloc_] at XU
        generalize ((w20.alloc (.cells (planC U0 U1 U2 U3 q.n0 G0 q.n1 G1 q.n2 G2 q.n3 G3 q.l q.p q.t) 32)).alloc (.cells (stC I0 I1 I2 I3 u.pods.length j0 u.mnts.length j1 u.devs.length j2 u.lks.length j3 u.ph u.co u.ck u.bo u.ba u.lb u.gd u.pr) 38)) = w21 at K Lq Ou XQ XU ⊢
        have hzw21 := XQ.z
        generalize hww21 : w20.heap.size = B1 at XQ XU hzw21 ⊢
        go_wp2_with fail
        refine (drawHealthyIn_any A n c w21 ((HB.out.below K (Nat.le_refl _)).more K.size) hn4).mono ?_
        rintro e w22 ⟨v0, v1, v2, v3, r, us, z, kg, rfl, Lr, Oz, -, -, hb⟩
        replace Lr := Lr.base K.size
        replace Oz := Oz.base K.size
        replace K := K.trans (hb.mono K.size)
        replace Lq := Lq.below hb
        replace Ou := Ou.below hb
        replace XQ := XQ.step hb
        replace XU := XU.step hb
        clear hb
        obtain ⟨M0, H0, rfl, -, -⟩ := Lr.o0.formR
        obtain ⟨M1, H1, rfl, -, -⟩ := Lr.o1.formR
        obtain ⟨M2, H2, rfl, -, -⟩ := Lr.o2.formR
        obtain ⟨M3, H3, rfl, -, -⟩ := Lr.o3.formR
        obtain ⟨y0, y1, y2, y3, rfl, -⟩ := Oz.it
        obtain ⟨⟨N0, l0, rfl⟩, ⟨N1, l1, rfl⟩, ⟨N2, l2, rfl⟩, ⟨N3, l3, rfl⟩⟩ := Oz.shapes
        go_upto_region 23 with fail
        have hK0 : Below w22.heap.size w22 w22 := Below.refl _ _
        have XR := Own.box2 K (planC M0 M1 M2 M3 r.n0 H0 r.n1 H1 r.n2 H2 r.n3 H3 r.l r.p r.t) 32
        have hK1 := hK0.alloc hK0.size (.cells (planC M0 M1 M2 M3 r.n0 H0 r.n1 H1 r.n2 H2 r.n3 H3 r.l r.p r.t) 32)
        have XZ := Own.box2 (K.trans (hK1.mono K.size)) (stC N0 N1 N2 N3 z.pods.length l0 z.mnts.length l1 z.devs.length l2 z.lks.length l3 z.ph z.co z.ck z.bo z.ba z.lb z.gd z.pr) 38
        have hK2 := hK1.alloc hK1.size (.cells (stC N0 N1 N2 N3 z.pods.length l0 z.mnts.length l1 z.devs.length l2 z.lks.length l3 z.ph z.co z.ck z.bo z.ba z.lb z.gd z.pr) 38)
        replace XR := XR.alloc (.cells (stC N0 N1 N2 N3 z.pods.length l0 z.mnts.length l1 z.devs.length l2 z.lks.length l3 z.ph z.co z.ck z.bo z.ba z.lb z.gd z.pr) 38)
        have hb := hK2
        replace K := K.trans (hb.mono K.size)
        replace Lq := Lq.below hb
        replace Ou := Ou.below hb
        replace XQ := XQ.step hb
        replace XU := XU.step hb
        replace Lr := Lr.below hb
        replace Oz := Oz.below hb
        clear hb hK0 hK1 hK2
        try rw [heap_size_alloc_] at XZ
        generalize ((w22.alloc (.cells (planC M0 M1 M2 M3 r.n0 H0 r.n1 H1 r.n2 H2 r.n3 H3 r.l r.p r.t) 32)).alloc (.cells (stC N0 N1 N2 N3 z.pods.length l0 z.mnts.length l1 z.devs.length l2 z.lks.length l3 z.ph z.co z.ck z.bo z.ba z.lb z.gd z.pr) 38)) = w23 at K Lq Ou XQ XU Lr Oz XR XZ ⊢
        have hzw23 := XR.z
        generalize hww23 : w22.heap.size = B2 at XR XZ hzw23 ⊢
        obtain ⟨ha, hha⟩ : ∃ v, (if stOkB r z && inB kg 0 (r.n1 - 1) then healthyN r z kg else -1) = v := ⟨_, rfl⟩
        have HHA := Lib.hid hha
        clear hha
        refine wp_region_noPanic ?_
        refine wp_region_held_drew (S := fun W => (∀ o, W.cell? ⟨B1, o, none⟩ = (planC U0 U1 U2 U3 q.n0 G0 q.n1 G1 q.n2 G2 q.n3 G3 q.l q.p q.t)[o]?) ∧ (∀ o, W.cell? ⟨B1 + 1, o, none⟩ = (stC I0 I1 I2 I3 u.pods.length j0 u.mnts.length j1 u.devs.length j2 u.lks.length j3 u.ph u.co u.ck u.bo u.ba u.lb u.gd u.pr)[o]?) ∧ (∀ o, W.cell? ⟨B2, o, none⟩ = (planC M0 M1 M2 M3 r.n0 H0 r.n1 H1 r.n2 H2 r.n3 H3 r.l r.p r.t)[o]?) ∧ (∀ o, W.cell? ⟨B2 + 1, o, none⟩ = (stC N0 N1 N2 N3 z.pods.length l0 z.mnts.length l1 z.devs.length l2 z.lks.length l3 z.ph z.co z.ck z.bo z.ba z.lb z.gd z.pr)[o]?)) (by kernel_rfl) (⟨XQ.drew.C, XU.drew.C, XR.drew.C, XZ.drew.C⟩) (fun _ => ?_)
        replace K := K.drew
        replace Lq := Lq.below (Below.refl _ _).drew
        replace Ou := Ou.below (Below.refl _ _).drew
        replace XQ := XQ.drew
        replace XU := XU.drew
        replace Lr := Lr.below (Below.refl _ _).drew
        replace Oz := Oz.below (Below.refl _ _).drew
        replace XR := XR.drew
        replace XZ := XZ.drew
        generalize w23.drew = v0 at K Lq Ou XQ XU Lr Oz XR XZ ⊢
        refine wpAnyH_take (i := 0) (v := ?_) rfl (by kernel_rfl) (by kernel_rfl) (by kernel_rfl) (fun _ _ _ h => h) (Or.inl ⟨by rfl, ?_⟩) ⟨XQ.C, XU.C, XR.C, XZ.C⟩ ?_
        rotate_left 1
        · intro w hSw
          obtain ⟨hs1, hs2, hs3, hs4⟩ := hSw
          go_simp
          try with_reducible rfl
        change wpAnyH _ _ _ _ _ _ _ (Act.put _ (some 99) _) _
        dsimp only [Act.put]
        refine wpAnyH_take (i := 1) (v := ?_) rfl (by kernel_rfl) (by kernel_rfl) (by kernel_rfl) (fun _ _ _ h => h) (Or.inl ⟨by rfl, ?_⟩) ⟨XQ.C, XU.C, XR.C, XZ.C⟩ ?_
        rotate_left 1
        · intro w hSw
          obtain ⟨hs1, hs2, hs3, hs4⟩ := hSw
          go_simp
          try with_reducible rfl
        change wpAnyH _ _ _ _ _ _ _ (Act.put _ (some 100) _) _
        dsimp only [Act.put]
        refine wpAnyH_take (i := 2) (v := ?_) rfl (by kernel_rfl) (by kernel_rfl) (by kernel_rfl) (fun _ _ _ h => h) (Or.inl ⟨by rfl, ?_⟩) ⟨XQ.C, XU.C, XR.C, XZ.C⟩ ?_
        rotate_left 1
        · intro w hSw
          obtain ⟨hs1, hs2, hs3, hs4⟩ := hSw
          go_simp
          try with_reducible rfl
        change wpAnyH _ _ _ _ _ _ _ (Act.put _ (some 101) _) _
        dsimp only [Act.put]
        refine wpAnyH_take (i := 4) (v := ?_) rfl (by kernel_rfl) (by kernel_rfl) (by kernel_rfl) (fun _ _ _ h => h) (Or.inl ⟨by rfl, ?_⟩) ⟨XQ.C, XU.C, XR.C, XZ.C⟩ ?_
        rotate_left 1
        · intro w hSw
          obtain ⟨hs1, hs2, hs3, hs4⟩ := hSw
          go_simp
          try with_reducible rfl
        change wpAnyH _ _ _ _ _ _ _ (Act.put _ (some 103) _) _
        dsimp only [Act.put]
        refine wpAnyH_take (i := 5) (v := ?_) rfl (by kernel_rfl) (by kernel_rfl) (by kernel_rfl) (fun _ _ _ h => h) (Or.inl ⟨by rfl, ?_⟩) ⟨XQ.C, XU.C, XR.C, XZ.C⟩ ?_
        rotate_left 1
        · intro w hSw
          obtain ⟨hs1, hs2, hs3, hs4⟩ := hSw
          go_simp
          try with_reducible rfl
        change wpAnyH _ _ _ _ _ _ _ (Act.put _ (some 104) _) _
        dsimp only [Act.put]
        refine wpAnyH_take (i := 6) (v := ?_) rfl (by kernel_rfl) (by kernel_rfl) (by kernel_rfl) (fun _ _ _ h => h) (Or.inl ⟨by rfl, ?_⟩) ⟨XQ.C, XU.C, XR.C, XZ.C⟩ ?_
        rotate_left 1
        · intro w hSw
          obtain ⟨hs1, hs2, hs3, hs4⟩ := hSw
          go_simp
          try with_reducible rfl
        change wpAnyH _ _ _ _ _ _ _ (Act.put _ (some 105) _) _
        dsimp only [Act.put]
        refine wpAnyH_ready (rs := [3]) (by kernel_rfl) (by simp) ?_
        refine AllReadyH.cons rfl (fun K' hK => ?_) AllReadyH.nil
        go_simp
        go_at_call 10
        refine (implMayEvict_any _ _ q u kp v0 Lq.plan Ou.st).mono ?_
        skip
        rintro e v1 ⟨rfl, hb⟩
        replace K := K.trans (hb.mono K.size)
        replace Lq := Lq.below hb
        replace Ou := Ou.below hb
        replace XQ := XQ.step hb
        replace XU := XU.step hb
        replace Lr := Lr.below hb
        replace Oz := Oz.below hb
        replace XR := XR.step hb
        replace XZ := XZ.step hb
        clear hb
        go_wp2_with fail
        refine hK.out _ _ ⟨XQ.C, XU.C, XR.C, XZ.C⟩ (fun _ => ?_)
        clear hK K'
        try (change wpAnyH _ _ _ _ _ _ _ (Act.put _ (some 102) _) _; dsimp only [Act.put])
        refine wpAnyH_ready (rs := [7]) (by kernel_rfl) (by simp) ?_
        refine AllReadyH.cons rfl (fun K' hK => ?_) AllReadyH.nil
        go_simp
        go_at_call 11
        refine (mayEvict_any _ _ q u kp v1 Lq.plan Ou.st).mono ?_
        skip
        rintro e v2 ⟨rfl, hb⟩
        replace K := K.trans (hb.mono K.size)
        replace Lq := Lq.below hb
        replace Ou := Ou.below hb
        replace XQ := XQ.step hb
        replace XU := XU.step hb
        replace Lr := Lr.below hb
        replace Oz := Oz.below hb
        replace XR := XR.step hb
        replace XZ := XZ.step hb
        clear hb
        go_wp2_with fail
        refine hK.out _ _ ⟨XQ.C, XU.C, XR.C, XZ.C⟩ (fun _ => ?_)
        clear hK K'
        try (change wpAnyH _ _ _ _ _ _ _ (Act.put _ (some 106) _) _; dsimp only [Act.put])
        refine wpAnyH_ready (rs := [8]) (by kernel_rfl) (by simp) ?_
        refine AllReadyH.cons rfl (fun K' hK => ?_) AllReadyH.nil
        go_simp
        refine hK.out _ _ ⟨XQ.C, XU.C, XR.C, XZ.C⟩ (fun _ => ?_)
        clear hK K'
        try (change wpAnyH _ _ _ _ _ _ _ (Act.put _ (some 107) _) _; dsimp only [Act.put])
        refine wpAnyH_ready (rs := [9]) (by kernel_rfl) (by simp) ?_
        refine AllReadyH.cons rfl (fun K' hK => ?_) AllReadyH.nil
        go_simp
        refine hK.out _ _ ⟨XQ.C, XU.C, XR.C, XZ.C⟩ (fun _ => ?_)
        clear hK K'
        try (change wpAnyH _ _ _ _ _ _ _ (Act.put _ (some 108) _) _; dsimp only [Act.put])
        refine wpAnyH_take (i := 10) (v := ?_) rfl (by kernel_rfl) (by kernel_rfl) (by kernel_rfl) (fun _ _ _ h => h) (Or.inl ⟨by rfl, ?_⟩) ⟨XQ.C, XU.C, XR.C, XZ.C⟩ ?_
        rotate_left 1
        · intro w hSw
          obtain ⟨hs1, hs2, hs3, hs4⟩ := hSw
          go_simp
          try with_reducible rfl
        change wpAnyH _ _ _ _ _ _ _ (Act.put _ (some 109) _) _
        dsimp only [Act.put]
        refine wpAnyH_take (i := 11) (v := ?_) rfl (by kernel_rfl) (by kernel_rfl) (by kernel_rfl) (fun _ _ _ h => h) (Or.inl ⟨by rfl, ?_⟩) ⟨XQ.C, XU.C, XR.C, XZ.C⟩ ?_
        rotate_left 1
        · intro w hSw
          obtain ⟨hs1, hs2, hs3, hs4⟩ := hSw
          go_simp
          try with_reducible rfl
        change wpAnyH _ _ _ _ _ _ _ (Act.put _ (some 110) _) _
        dsimp only [Act.put]
        refine wpAnyH_take (i := 12) (v := ?_) rfl (by kernel_rfl) (by kernel_rfl) (by kernel_rfl) (fun _ _ _ h => h) (Or.inl ⟨by rfl, ?_⟩) ⟨XQ.C, XU.C, XR.C, XZ.C⟩ ?_
        rotate_left 1
        · intro w hSw
          obtain ⟨hs1, hs2, hs3, hs4⟩ := hSw
          go_simp
          try with_reducible rfl
        change wpAnyH _ _ _ _ _ _ _ (Act.put _ (some 111) _) _
        dsimp only [Act.put]
        refine wpAnyH_take (i := 14) (v := ?_) rfl (by kernel_rfl) (by kernel_rfl) (by kernel_rfl) (fun _ _ _ h => h) (Or.inl ⟨by rfl, ?_⟩) ⟨XQ.C, XU.C, XR.C, XZ.C⟩ ?_
        rotate_left 1
        · intro w hSw
          obtain ⟨hs1, hs2, hs3, hs4⟩ := hSw
          go_simp
          try with_reducible rfl
        change wpAnyH _ _ _ _ _ _ _ (Act.put _ (some 113) _) _
        dsimp only [Act.put]
        refine wpAnyH_take (i := 15) (v := ?_) rfl (by kernel_rfl) (by kernel_rfl) (by kernel_rfl) (fun _ _ _ h => h) (Or.inl ⟨by rfl, ?_⟩) ⟨XQ.C, XU.C, XR.C, XZ.C⟩ ?_
        rotate_left 1
        · intro w hSw
          obtain ⟨hs1, hs2, hs3, hs4⟩ := hSw
          go_simp
          try with_reducible rfl
        change wpAnyH _ _ _ _ _ _ _ (Act.put _ (some 114) _) _
        dsimp only [Act.put]
        refine wpAnyH_take (i := 16) (v := ?_) rfl (by kernel_rfl) (by kernel_rfl) (by kernel_rfl) (fun _ _ _ h => h) (Or.inl ⟨by rfl, ?_⟩) ⟨XQ.C, XU.C, XR.C, XZ.C⟩ ?_
        rotate_left 1
        · intro w hSw
          obtain ⟨hs1, hs2, hs3, hs4⟩ := hSw
          go_simp
          try with_reducible rfl
        change wpAnyH _ _ _ _ _ _ _ (Act.put _ (some 115) _) _
        dsimp only [Act.put]
        refine wpAnyH_ready (rs := [13]) (by kernel_rfl) (by simp) ?_
        refine AllReadyH.cons rfl (fun K' hK => ?_) AllReadyH.nil
        rw [if_pos (by rfl)]
        go_simp
        go_at_call 13
        refine (implHealthyIn_any _ _ r z kg v2 Lr.plan Oz.st).mono ?_
        rw [HHA.out]
        rintro e v3 ⟨rfl, hb⟩
        replace K := K.trans (hb.mono K.size)
        replace Lq := Lq.below hb
        replace Ou := Ou.below hb
        replace XQ := XQ.step hb
        replace XU := XU.step hb
        replace Lr := Lr.below hb
        replace Oz := Oz.below hb
        replace XR := XR.step hb
        replace XZ := XZ.step hb
        clear hb
        go_wp2_with fail
        refine hK.out _ _ ⟨XQ.C, XU.C, XR.C, XZ.C⟩ (fun _ => ?_)
        clear hK K'
        try (change wpAnyH _ _ _ _ _ _ _ (Act.put _ (some 112) _) _; dsimp only [Act.put])
        refine wpAnyH_ready (rs := [17]) (by kernel_rfl) (by simp) ?_
        refine AllReadyH.cons rfl (fun K' hK => ?_) AllReadyH.nil
        rw [if_pos (by rfl)]
        go_simp
        go_at_call 16
        refine (healthyIn_any _ _ r z kg v3 Lr.plan Oz.st).mono ?_
        rw [HHA.out]
        rintro e v4 ⟨rfl, hb⟩
        replace K := K.trans (hb.mono K.size)
        replace Lq := Lq.below hb
        replace Ou := Ou.below hb
        replace XQ := XQ.step hb
        replace XU := XU.step hb
        replace Lr := Lr.below hb
        replace Oz := Oz.below hb
        replace XR := XR.step hb
        replace XZ := XZ.step hb
        clear hb
        go_wp2_with fail
        refine hK.out _ _ ⟨XQ.C, XU.C, XR.C, XZ.C⟩ (fun _ => ?_)
        clear hK K'
        try (change wpAnyH _ _ _ _ _ _ _ (Act.put _ (some 116) _) _; dsimp only [Act.put])
        refine wpAnyH_ready (rs := [18]) (by kernel_rfl) (by simp) ?_
        refine AllReadyH.cons rfl (fun K' hK => ?_) AllReadyH.nil
        rw [if_pos (by rfl)]
        go_simp
        refine hK.out _ _ ⟨XQ.C, XU.C, XR.C, XZ.C⟩ (fun _ => ?_)
        clear hK K'
        try (change wpAnyH _ _ _ _ _ _ _ (Act.put _ (some 117) _) _; dsimp only [Act.put])
        refine wpAnyH_ready (rs := [19]) (by kernel_rfl) (by simp) ?_
        refine AllReadyH.cons rfl (fun K' hK => ?_) AllReadyH.nil
        go_simp
        refine hK.out _ _ ⟨XQ.C, XU.C, XR.C, XZ.C⟩ (fun _ => ?_)
        clear hK K'
        try (change wpAnyH _ _ _ _ _ _ _ (Act.put _ (some 118) _) _; dsimp only [Act.put])
        refine wpAnyH_ready (rs := [20]) (by kernel_rfl) (by simp) ?_
        refine AllReadyH.cons rfl (fun K' hK => ?_) AllReadyH.nil
        go_simp
        refine hK.out _ _ ⟨XQ.C, XU.C, XR.C, XZ.C⟩ (fun _ => ?_)
        clear hK K'
        try (change wpAnyH _ _ _ _ _ _ _ (Act.put _ (some 2) _) _; dsimp only [Act.put])
        refine wpAnyH_done (by kernel_rfl) ?_ _
        refine NoPanic.normal ?_
        go_wp2_with fail
        go_ret
        exact ⟨ret_bool (by simp), K⟩
end Go.Proofs.YtfibgpikjfopgaaGreat
