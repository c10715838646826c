/-
  PROVED: FnProbesSaid: at every input that can be read the law answers true: at a drawn plan, a drawn state, found well or not, ProbeRecs answers as its model; and on a drawn plan a new machine that boots is let in when it was found well so many times, one after the other, and not sooner, and has failed when it was found ill till the last try. Conditions: none beside the form's own.
-/
import Derived.Test.YtdkmhaghnfhajaaGreatMZ22
import Derived.Test.YtdkmhaghnfhajaaGreatMZxOc
import Derived.Test.YtdkmhaghnfhajaaGreatMZ23
import Derived.Test.YtdkmhaghnfhajaaGreatMZ12
import Derived.Test.YtdkmhaghnfhajaaGreatMZ0
import Derived.Test.YtdkmhaghnfhajaaGreatMZ2
import Derived.Test.YtdkmhaghnfhajaaGreatMZxPt
import Derived.Test.YtdkmhaghnfhajaaGreatMZxUo
import Derived.Test.YtdkmhaghnfhajaaGreatMZ18
/- Oj -/
set_option linter.unusedVariables false
namespace Go.Proofs.YtdkmhaghnfhajaaGreat
open Go.RowKit

theorem load_stateO {ops : Array Oper} {rest : List Oper} {dst : Option Tmp} {ty : TypeId} {pos : String} {after : Array Edge} {a : Act} {w : World} {Q : Exit → Act → World → Prop} {g x : Nat} {cs : Array Value}
    (hx : a.eval (.tmp x) = .pointer (some ⟨g, 0, none⟩)) (hg : w.heap[g]? = some (.cells cs 38)) (hi : (Tryz.prog.info? 38).map (·.size) = some cs.size)
    (h : wpList Tryz.prog ops Q rest (a.put dst (.agg cs)) w) : wpList Tryz.prog ops Q (Oper.mk dst (.load 38 (.tmp x)) ty pos after none :: rest) a w :=
  wpList_load_row rfl 38 (.tmp x) rfl g hx _ cs _ _ hg Tryz.underlying38 rfl hi h

set_option maxRecDepth 100000 in
set_option maxHeartbeats 4000000 in
theorem lawProbes (A : Option Addr) (n c : Nat) (w : World) (hB : Bytes w w.heap.size A n) (hn : n ≤ maxLen) : Calls Tryz.prog 6 #[.slice A n c] w fun e w' => e = .returned (.bool true) ∧ Below w.heap.size w w' := by
  have HB := Lib.hid hB
  clear hB
  go_enter Tryz.func6, Tryz.ntmps6
  go_wp2_with fail
  refine (big_any A n c _ hn).mono ?_
  rintro e w2 ⟨rfl, rfl⟩
  by_cases hbig : 4096 < (n : Int)
  · go_wp2_with fail
    go_ret
    exact ⟨rfl, Below.refl _ _⟩
  · have hn4 : n ≤ 4096 := by omega
    clear hbig
    go_wp2_with fail
    refine (drawProbeRecs_any A n c _ HB.out hn4).mono ?_
    rintro e w3 ⟨v0, v1, v2, v3, d, vs, s, gb, rfl, Lp, Os, hd, hs, K⟩
    obtain ⟨V0, C0, rfl, -, -⟩ := Lp.o0.formR
    obtain ⟨V1, C1, rfl, -, -⟩ := Lp.o1.formR
    obtain ⟨V2, C2, rfl, -, -⟩ := Lp.o2.formR
    obtain ⟨V3, C3, rfl, -, -⟩ := Lp.o3.formR
    obtain ⟨y0, y1, y2, y3, rfl, -⟩ := Os.it
    obtain ⟨⟨E0, k0, rfl⟩, ⟨E1, k1, rfl⟩, ⟨E2, k2, rfl⟩, ⟨E3, k3, rfl⟩⟩ := Os.shapes
    go_upto_region 4 with fail
    have hK0 : Below w3.heap.size w3 w3 := Below.refl _ _
    have XP := Own.box2 K (planC V0 V1 V2 V3 d.n0 C0 d.n1 C1 d.n2 C2 d.n3 C3 d.l d.p d.t) 29
    have hK1 := hK0.alloc hK0.size (.cells (planC V0 V1 V2 V3 d.n0 C0 d.n1 C1 d.n2 C2 d.n3 C3 d.l d.p d.t) 29)
    have XS := Own.box2 (K.trans (hK1.mono K.size)) (stC E0 E1 E2 E3 s.pods.length k0 s.mnts.length k1 s.devs.length k2 s.lks.length k3 s.ph s.co s.ck s.bo s.ba s.lb s.gd s.pr) 38
    have hK2 := hK1.alloc hK1.size (.cells (stC E0 E1 E2 E3 s.pods.length k0 s.mnts.length k1 s.devs.length k2 s.lks.length k3 s.ph s.co s.ck s.bo s.ba s.lb s.gd s.pr) 38)
    replace XP := XP.alloc (.cells (stC E0 E1 E2 E3 s.pods.length k0 s.mnts.length k1 s.devs.length k2 s.lks.length k3 s.ph s.co s.ck s.bo s.ba s.lb s.gd s.pr) 38)
    have hb := hK2
    replace K := K.trans (hb.mono K.size)
    replace Lp := Lp.below hb
    replace Os := Os.below hb
    clear hb hK0 hK1 hK2
    try rw [heap_size_alloc_] at XS
    generalize ((w3.alloc (.cells (planC V0 V1 V2 V3 d.n0 C0 d.n1 C1 d.n2 C2 d.n3 C3 d.l d.p d.t) 29)).alloc (.cells (stC E0 E1 E2 E3 s.pods.length k0 s.mnts.length k1 s.devs.length k2 s.lks.length k3 s.ph s.co s.ck s.bo s.ba s.lb s.gd s.pr) 38)) = w4 at K Lp Os XP XS ⊢
    generalize hw3 : w3.heap.size = b3 at XP XS ⊢
    obtain ⟨l, cd, hx⟩ : ∃ l cd, (if stOkB d s then probeD d s gb else noR 1) = (l, cd) := by
      generalize (if stOkB d s then probeD d s gb else noR 1) = q
      exact ⟨q.1, q.2, rfl⟩
    have HX := Lib.hid hx
    clear hx
    have h1 := XP.C
    have h2 := XS.C
    go_wp2_with fail
    have hall := implProbeRecs_any _ _ d s gb w4 Lp.plan Os.st
    rw [HX.out] at hall
    refine hall.mono ?_
    rintro e w5 ⟨v, rfl, O1, hb⟩
    dsimp only at O1 ⊢
    clear hall h1 h2
    replace K := K.trans (hb.mono K.size)
    replace Lp := Lp.below hb
    replace Os := Os.below hb
    replace XP := XP.step hb
    replace XS := XS.step hb
    clear hb
    have h1 := XP.C
    have h2 := XS.C
    go_wp2_with fail
    have hall := probeRecs_any _ _ d s gb w5 Lp.plan Os.st
    rw [HX.out] at hall
    refine hall.mono ?_
    rintro e w6 ⟨v', rfl, O2, hb⟩
    dsimp only at O2 ⊢
    clear hall h1 h2
    replace K := K.trans (hb.mono K.size)
    replace Lp := Lp.below hb
    replace Os := Os.below hb
    replace XP := XP.step hb
    replace XS := XS.step hb
    replace O1 := O1.below hb
    clear hb
    go_wp2_with fail
    refine (likeRecs_same _ _ l _ O1.rt O2.rt).mono ?_
    rintro e w7 ⟨rfl, hb⟩
    replace K := K.trans (hb.mono K.size)
    clear hb O1 O2 HX Lp Os XP XS hd hs hw3
    have HIS : Hid ((Tryz.prog.info? 38).map (·.size) = some 12) := Lib.hid (by kernel_rfl)
    go_wp2_with fail
    refine (roll_any A n c 10 w7 ((HB.out.below K (Nat.le_refl _)).more K.size) hn4).mono ?_
    rintro e w8 ⟨g, rfl, hg, CU, hb⟩
    replace hg := Nat.le_trans K.size hg
    replace K := K.trans (hb.mono K.size)
    clear hb
    go_wp2_with fail
    refine (scheme2_any g w8 CU).mono ?_
    rintro e w9 ⟨v0, v1, v2, v3, q, rfl, o0, o1, o2, o3, CU2, hk, ⟨hok, -, -, -, -⟩, -, -⟩
    have Lp : Lists w9 w8.heap.size v0 v1 v2 v3 q := ⟨o0, o1, o2, o3⟩
    replace Lp := Lp.base K.size
    have hgl := CU.lt
    replace K := K.trans (hk.below (B := w.heap.size) K.size (by rintro b hb rfl; omega))
    replace CU := CU2
    clear o0 o1 o2 o3 CU2 hk
    have HOK := Lib.hid hok
    have hpq := planOk_tries hok
    obtain ⟨U0, G0, rfl, -, -⟩ := Lp.o0.formR
    obtain ⟨U1, G1, rfl, -, -⟩ := Lp.o1.formR
    obtain ⟨U2, G2, rfl, -, -⟩ := Lp.o2.formR
    obtain ⟨U3, G3, rfl, -, -⟩ := Lp.o3.formR
    have hg2 : g < w9.heap.size := CU.lt
    have hw2 : w.heap.size ≤ w9.heap.size := K.size
    go_upto_region 10 with fail
    have hK0 : Below w9.heap.size w9 w9 := Below.refl _ _
    have XP := Own.box2 K (planC U0 U1 U2 U3 q.n0 G0 q.n1 G1 q.n2 G2 q.n3 G3 q.l q.p q.t) 29
    have hK1 := hK0.alloc hK0.size (.cells (planC U0 U1 U2 U3 q.n0 G0 q.n1 G1 q.n2 G2 q.n3 G3 q.l q.p q.t) 29)
    have hb := hK1
    replace K := K.trans (hb.mono K.size)
    replace CU := CU.below hb
    replace Lp := Lp.below hb
    clear hb hK0 hK1
    generalize (w9.alloc (.cells (planC U0 U1 U2 U3 q.n0 G0 q.n1 G1 q.n2 G2 q.n3 G3 q.l q.p q.t) 29)) = w10 at K CU Lp XP ⊢
    have h34 := XP.z
    generalize w9.heap.size = R11 at XP hg2 hw2 h34 ⊢
    have h1 := XP.C
    go_wp2_with fail
    refine (specNewState_any _ q w10 Lp.plan).mono ?_
    rintro e w11 ⟨v', rfl, Os, hb⟩
    replace Os := Os.base K.size
    clear h1
    replace K := K.trans (hb.mono K.size)
    replace CU := CU.below hb
    replace Lp := Lp.below hb
    replace XP := XP.step hb
    clear hb
    obtain ⟨l0, x0, e1, e2, hok0, hph0, hgd0, hpr0⟩ := boot_new hok
    have hsn := newS_ok hok
    obtain ⟨s, hs1⟩ : ∃ s, newS q = s := ⟨_, rfl⟩
    rw [hs1] at Os e1 e2 hsn
    have HE1 := Lib.hid e1
    have HE2 := Lib.hid e2
    have HSN := Lib.hid hsn
    have HOK0 := Lib.hid hok0
    have HPH0 := Lib.hid hph0
    have HGD := Lib.hid hgd0
    have HPR := Lib.hid hpr0
    clear hs1 e1 e2 hsn hok0 hok hph0 hgd0 hpr0
    obtain ⟨y0, y1, y2, y3, rfl, -⟩ := Os.it
    obtain ⟨⟨E0, k0, rfl⟩, ⟨E1, k1, rfl⟩, ⟨E2, k2, rfl⟩, ⟨E3, k3, rfl⟩⟩ := Os.shapes
    go_upto_region 11 with fail
    have h4z : R11 < w11.heap.size := XP.z
    have HX := heap_alloc_new w11 (.cells (stC E0 E1 E2 E3 s.pods.length k0 s.mnts.length k1 s.devs.length k2 s.lks.length k3 s.ph s.co s.ck s.bo s.ba s.lb s.gd s.pr) 38)
    have hb : Below w11.heap.size w11 (w11.alloc (.cells (stC E0 E1 E2 E3 s.pods.length k0 s.mnts.length k1 s.devs.length k2 s.lks.length k3 s.ph s.co s.ck s.bo s.ba s.lb s.gd s.pr) 38)) := (Below.refl _ _).alloc (Nat.le_refl _) _
    replace K := K.trans (hb.mono K.size)
    replace CU := CU.below hb
    replace Lp := Lp.below hb
    replace XP := XP.step hb
    replace Os := Os.below hb
    clear hb
    generalize w11.alloc (.cells (stC E0 E1 E2 E3 s.pods.length k0 s.mnts.length k1 s.devs.length k2 s.lks.length k3 s.ph s.co s.ck s.bo s.ba s.lb s.gd s.pr) 38) = w12 at K CU Lp XP Os HX ⊢
    generalize w11.heap.size = R12 at HX h4z ⊢
    have h1 := XP.C
    have h2 : ∀ o, w12.cell? ⟨R12, o, none⟩ = (stC E0 E1 E2 E3 s.pods.length k0 s.mnts.length k1 s.devs.length k2 s.lks.length k3 s.ph s.co s.ck s.bo s.ba s.lb s.gd s.pr)[o]? := fun o => cell_of_row _ R12 o _ _ _ HX
    go_wp2_with fail
    have hall := implBootRecs_any _ _ q s 5 w12 Lp.plan Os.st
    rw [HE1.out] at hall
    refine hall.mono ?_
    rintro e w13 ⟨v, rfl, O1, hb⟩
    dsimp only at O1 ⊢
    clear hall h1 h2
    replace K := K.trans (hb.mono K.size)
    replace CU := CU.below hb
    replace Lp := Lp.below hb
    replace XP := XP.step hb
    replace Os := Os.below hb
    replace HX := (hb.block _ (Array.getElem?_eq_some_iff.1 HX).1).trans HX
    clear hb
    have h1 := XP.C
    have h2 : ∀ o, w13.cell? ⟨R12, o, none⟩ = (stC E0 E1 E2 E3 s.pods.length k0 s.mnts.length k1 s.devs.length k2 s.lks.length k3 s.ph s.co s.ck s.bo s.ba s.lb s.gd s.pr)[o]? := fun o => cell_of_row _ R12 o _ _ _ HX
    go_wp2_with fail
    have hall := specAll_any _ _ _ q s l0 w13 Lp.plan (Os.isR (fits_ok HSN.out)) O1.rt
    rw [HE2.out] at hall
    refine hall.mono ?_
    rintro e w14 ⟨vx, rfl, Ox, hb⟩
    dsimp only at Ox ⊢
    replace Ox := Ox.base K.size
    clear hall h1 h2
    replace K := K.trans (hb.mono K.size)
    replace CU := CU.below hb
    replace Lp := Lp.below hb
    replace XP := XP.step hb
    replace Os := Os.below hb
    replace HX := (hb.block _ (Array.getElem?_eq_some_iff.1 HX).1).trans HX
    replace O1 := O1.below hb
    clear hb O1 Os
    obtain ⟨y0, y1, y2, y3, rfl, -⟩ := Ox.it
    obtain ⟨⟨X0, m0, rfl⟩, ⟨X1, m1, rfl⟩, ⟨X2, m2, rfl⟩, ⟨X3, m3, rfl⟩⟩ := Ox.shapes
    go_upto_region 13 with (
      (with_reducible refine store_state (x := 12) (y := 71) (g := R12) (cs := stC X0 X1 X2 X3 x0.pods.length m0 x0.mnts.length m1 x0.devs.length m2 x0.lks.length m3 x0.ph x0.co x0.ck x0.bo x0.ba x0.lb x0.gd x0.pr) ?_ ?_ HX ?_ ?_ ?_ ?_)
      · rfl
      · rfl
      · exact HIS.out
      · rfl
      · simp [Value.oneCell'])
    have kk := keepsRow_ w14 (R12) (stC X0 X1 X2 X3 x0.pods.length m0 x0.mnts.length m1 x0.devs.length m2 x0.lks.length m3 x0.ph x0.co x0.ck x0.bo x0.ba x0.lb x0.gd x0.pr)
    replace K := belowRow_ K (B := R12) (by omega) (stC X0 X1 X2 X3 x0.pods.length m0 x0.mnts.length m1 x0.devs.length m2 x0.lks.length m3 x0.ph x0.co x0.ck x0.bo x0.ba x0.lb x0.gd x0.pr)
    replace CU := CU.keeps kk (fun b hb e => by omega)
    replace Lp := Lp.keeps kk HX (by decide)
    replace XP := XP.keeps kk (by rintro b rfl; omega) (by show ¬ R11 = R12; omega)
    replace Ox := Ox.keepsT kk HX (by decide)
    replace HX := setRow_heap _ _ _ (stC X0 X1 X2 X3 x0.pods.length m0 x0.mnts.length m1 x0.devs.length m2 x0.lks.length m3 x0.ph x0.co x0.ck x0.bo x0.ba x0.lb x0.gd x0.pr) _ _ HX
    clear kk
    generalize w14.setRow R12 (stC X0 X1 X2 X3 x0.pods.length m0 x0.mnts.length m1 x0.devs.length m2 x0.lks.length m3 x0.ph x0.co x0.ck x0.bo x0.ba x0.lb x0.gd x0.pr) = w15 at K CU Lp XP HX Ox ⊢
    have hp6 : (x0.ph != 6) = false := by simp [HPH0.out]
    have h2 : ∀ o, w15.cell? ⟨R12, o, none⟩ = (stC X0 X1 X2 X3 x0.pods.length m0 x0.mnts.length m1 x0.devs.length m2 x0.lks.length m3 x0.ph x0.co x0.ck x0.bo x0.ba x0.lb x0.gd x0.pr)[o]? := fun o => cell_of_row _ R12 o _ _ _ HX
    have h1 := XP.C
    have GO : Hid (x0.ph = 6 ∨ x0.ph = 7) := Lib.hid (.inl HPH0.out)
    go_wp2_with fail
    clear hp6 h1 h2
    go_loopw [16, 17] (fun r i wr => ∃ (n_ run : Nat) (t : StD) (X0 X1 X2 X3 : Option Addr) (m0 m1 m2 m3 : Nat), i = .int .i64 n_ ∧ r = .int .i64 run ∧ 1 ≤ n_ ∧ n_ ≤ 31 ∧ Hid (((n_ : Int) ≤ q.t ∧ StOk q t ∧ (t.ph = 6 ∨ t.ph = 7) ∧ t.pr + 1 = n_ ∧ t.gd = run ∧ (run : Int) < q.p) ∨ ((n_ : Int) = q.t + 1 ∧ t.ph = 8)) ∧ Below w.heap.size w wr ∧ Cur 81 .u64 wr g ∧ Lists wr w.heap.size (.slice U0 q.n0 G0) (.slice U1 q.n1 G1) (.slice U2 q.n2 G2) (.slice U3 q.n3 G3) q ∧ Own w wr R11 (planC U0 U1 U2 U3 q.n0 G0 q.n1 G1 q.n2 G2 q.n3 G3 q.l q.p q.t) ∧ OwnSt wr w.heap.size (.agg (stC X0 X1 X2 X3 t.pods.length m0 t.mnts.length m1 t.devs.length m2 t.lks.length m3 t.ph t.co t.ck t.bo t.ba t.lb t.gd t.pr)) t ∧ wr.heap[R12]? = some (.cells (stC X0 X1 X2 X3 t.pods.length m0 t.mnts.length m1 t.devs.length m2 t.lks.length m3 t.ph t.co t.ck t.bo t.ba t.lb t.gd t.pr) 38)) (fun _ i _ => 31 - (intOf i).toNat)
    case atStart => exact ⟨1, 0, x0, X0, X1, X2, X3, m0, m1, m2, m3, rfl, rfl, by omega, by omega, Lib.hid (.inl ⟨by omega, HOK0.out, GO.out, by rw [HPR.out]; rfl, by rw [HGD.out]; rfl, by omega⟩), K, CU, Lp, XP, Ox, HX⟩
    case round =>
      clear K CU Lp XP HX Ox HOK0 GO HGD HPR HPH0 HE1 HE2 HSN
      obtain ⟨n_, run, t, X0, X1, X2, X3, m0, m1, m2, m3, rfl, rfl, hn1, hn31, HST, K, CU, Lp, XP, Ox, HX⟩ := hrel
      have h1 := XP.C
      have h2 : ∀ o, wr.cell? ⟨R12, o, none⟩ = (stC X0 X1 X2 X3 t.pods.length m0 t.mnts.length m1 t.devs.length m2 t.lks.length m3 t.ph t.co t.ck t.bo t.ba t.lb t.gd t.pr)[o]? := fun o => cell_of_row _ R12 o _ _ _ HX
      rcases HST.out with ⟨c1, c2, c3, c4, c5, c6⟩ | ⟨c1, c2⟩
      case inr =>
        have hx : ¬ (n_ : Int) ≤ q.t := by omega
        have hy : (t.ph == 0) = false := by simp [c2]
        have hz : (t.ph == 8) = true := by simp [c2]
        clear c2 HST
        go_wp2_with fail
        go_ret
        exact ⟨ret_bool (by simp), K⟩
      case inl =>
        have HOKT := Lib.hid c2
        have HPH := Lib.hid c3
        have HPR := Lib.hid c4
        have HGD := Lib.hid c5
        clear c2 c3 c4 c5 HST
        go_wp2_with fail
        refine (below_any g 2 _ CU (by omega) (by omega)).mono ?_
        rintro e w20 ⟨a, rfl, a0, a1, CU9, hk9⟩
        obtain ⟨gcs, hgc⟩ := CU.cells
        replace Lp := Lp.keeps hk9 hgc (by decide)
        replace Ox := Ox.keepsT hk9 hgc (by decide)
        replace XP := XP.keeps hk9 (by rintro b rfl; omega) (by show ¬ R11 = g; omega)
        replace HX := (hk9.block _ (Array.getElem?_eq_some_iff.1 HX).1 (by show ¬ R12 = g; omega)).trans HX
        replace K := K.trans (hk9.below (B := w.heap.size) K.size (by rintro b hb rfl; omega))
        replace CU := CU9
        clear CU9 hk9 hgc h1 h2
        obtain rfl | rfl : a = 0 ∨ a = 1 := by omega
        · clear a0 a1
          obtain ⟨y, l, e1, e2, hoky, hc⟩ := probe_good (good := true) HOKT.out HPH.out HPR.out HGD.out c6 c1
          have HE1 := Lib.hid e1
          have HE2 := Lib.hid e2
          have HOKY := Lib.hid hoky
          have HC := Lib.hid hc
          clear e1 e2 hoky hc
          have h1 := XP.C
          have h2 : ∀ o, w20.cell? ⟨R12, o, none⟩ = (stC X0 X1 X2 X3 t.pods.length m0 t.mnts.length m1 t.devs.length m2 t.lks.length m3 t.ph t.co t.ck t.bo t.ba t.lb t.gd t.pr)[o]? := fun o => cell_of_row _ R12 o _ _ _ HX
          go_wp2_with fail
          have hall := implProbeRecs_any _ _ q t true w20 Lp.plan Ox.st
          rw [HE1.out] at hall
          refine hall.mono ?_
          rintro e w21 ⟨v, rfl, O1, hb⟩
          dsimp only at O1 ⊢
          clear hall h1 h2
          replace K := K.trans (hb.mono K.size)
          replace CU := CU.below hb
          replace Lp := Lp.below hb
          replace XP := XP.step hb
          replace HX := (hb.block _ (Array.getElem?_eq_some_iff.1 HX).1).trans HX
          replace Ox := Ox.below hb
          clear hb
          have h1 := XP.C
          have h2 : ∀ o, w21.cell? ⟨R12, o, none⟩ = (stC X0 X1 X2 X3 t.pods.length m0 t.mnts.length m1 t.devs.length m2 t.lks.length m3 t.ph t.co t.ck t.bo t.ba t.lb t.gd t.pr)[o]? := fun o => cell_of_row _ R12 o _ _ _ HX
          go_wp2_with fail
          have hall := specAll_any _ _ _ q t l w21 Lp.plan (Ox.isR (fits_ok HOKT.out)) O1.rt
          rw [HE2.out] at hall
          refine hall.mono ?_
          rintro e w22 ⟨vy, rfl, Oy, hb⟩
          dsimp only at Oy ⊢
          replace Oy := Oy.base K.size
          clear hall h1 h2
          replace K := K.trans (hb.mono K.size)
          replace CU := CU.below hb
          replace Lp := Lp.below hb
          replace XP := XP.step hb
          replace HX := (hb.block _ (Array.getElem?_eq_some_iff.1 HX).1).trans HX
          replace Ox := Ox.below hb
          replace O1 := O1.below hb
          clear hb O1
          have HFY := Lib.hid (fits_ok HOKY.out)
          obtain ⟨y0, y1, y2, y3, rfl, -⟩ := Oy.it
          obtain ⟨⟨Y0, f0, rfl⟩, ⟨Y1, f1, rfl⟩, ⟨Y2, f2, rfl⟩, ⟨Y3, f3, rfl⟩⟩ := Oy.shapes
          clear Ox
          have h12z : R12 < w22.heap.size := (Array.getElem?_eq_some_iff.1 HX).1
          go_upto_region 22 with fail
          have HY := heap_alloc_new w22 (.cells (stC Y0 Y1 Y2 Y3 y.pods.length f0 y.mnts.length f1 y.devs.length f2 y.lks.length f3 y.ph y.co y.ck y.bo y.ba y.lb y.gd y.pr) 38)
          have hb : Below w22.heap.size w22 (w22.alloc (.cells (stC Y0 Y1 Y2 Y3 y.pods.length f0 y.mnts.length f1 y.devs.length f2 y.lks.length f3 y.ph y.co y.ck y.bo y.ba y.lb y.gd y.pr) 38)) := (Below.refl _ _).alloc (Nat.le_refl _) _
          replace K := K.trans (hb.mono K.size)
          replace CU := CU.below hb
          replace Lp := Lp.below hb
          replace XP := XP.step hb
          replace HX := (hb.block _ (Array.getElem?_eq_some_iff.1 HX).1).trans HX
          replace Oy := Oy.below hb
          clear hb
          generalize w22.alloc (.cells (stC Y0 Y1 Y2 Y3 y.pods.length f0 y.mnts.length f1 y.devs.length f2 y.lks.length f3 y.ph y.co y.ck y.bo y.ba y.lb y.gd y.pr) 38) = w23 at K CU Lp XP HX Oy HY ⊢
          generalize w22.heap.size = R21 at HY h12z ⊢
          have h1 := XP.C
          have h3 : ∀ o, w23.cell? ⟨R21, o, none⟩ = (stC Y0 Y1 Y2 Y3 y.pods.length f0 y.mnts.length f1 y.devs.length f2 y.lks.length f3 y.ph y.co y.ck y.bo y.ba y.lb y.gd y.pr)[o]? := fun o => cell_of_row _ R21 o _ _ _ HY
          replace HC : Hid (((run : Int) + 1) = q.p ∧ y.ph = 0 ∧ y.co = false ∨ ((run : Int) + 1) < q.p ∧ (n_ : Int) = q.t ∧ y.ph = 8 ∧ y.co = true ∨ ((run : Int) + 1) < q.p ∧ (n_ : Int) < q.t ∧ y.ph = 7 ∧ y.co = true ∧ y.gd = ((run : Int) + 1) ∧ y.pr = n_) := Lib.hid (by simpa using HC.out)
          rcases HC.out with ⟨d1, d2, d3⟩ | ⟨d1, d2, d3, d4⟩ | ⟨d1, d2, d3, d4, d5, d6⟩
          · skip
            have g1 : (((run : Int) + 1) == q.p) = true := by simpa using d1
            have g2 : (y.ph == 0) = true := by simpa using d2
            have g3 : (y.ph == 8) = false := by simp [d2]
            have g4 : ¬ ((run : Int) + 1) < q.p := by omega
            have g5 : (((run : Int) + 1) != q.p) = false := by simpa using d1
            have g6 := d3
            have HD3 := Lib.hid d2
            clear d2 d3 HC
            skip
            go_upto_region 29 with fail
            clear g6
            go_upto_region 30 with (first
              | ((with_reducible refine store_state (x := 12) (y := 146) (g := R12) (cs := stC Y0 Y1 Y2 Y3 y.pods.length f0 y.mnts.length f1 y.devs.length f2 y.lks.length f3 y.ph y.co y.ck y.bo y.ba y.lb y.gd y.pr) ?_ ?_ HX ?_ ?_ ?_ ?_)
                 · rfl
                 · rfl
                 · exact HIS.out
                 · rfl
                 · simp [Value.oneCell'])
              | ((with_reducible refine load_stateO (x := 21) (g := R21) (cs := stC Y0 Y1 Y2 Y3 y.pods.length f0 y.mnts.length f1 y.devs.length f2 y.lks.length f3 y.ph y.co y.ck y.bo y.ba y.lb y.gd y.pr) ?_ HY ?_ ?_)
                 · rfl
                 · exact HIS.out))
            clear h1 h3
            have kk := keepsRow_ w23 (R12) (stC Y0 Y1 Y2 Y3 y.pods.length f0 y.mnts.length f1 y.devs.length f2 y.lks.length f3 y.ph y.co y.ck y.bo y.ba y.lb y.gd y.pr)
            replace K := belowRow_ K (B := R12) (by omega) (stC Y0 Y1 Y2 Y3 y.pods.length f0 y.mnts.length f1 y.devs.length f2 y.lks.length f3 y.ph y.co y.ck y.bo y.ba y.lb y.gd y.pr)
            replace CU := CU.keeps kk (fun b hb e => by omega)
            replace Lp := Lp.keeps kk HX (by decide)
            replace XP := XP.keeps kk (by rintro b rfl; omega) (by show ¬ R11 = R12; omega)
            replace Oy := Oy.keepsT kk HX (by decide)
            replace HY := (setRow_other _ (R12) (R21) (stC Y0 Y1 Y2 Y3 y.pods.length f0 y.mnts.length f1 y.devs.length f2 y.lks.length f3 y.ph y.co y.ck y.bo y.ba y.lb y.gd y.pr) (by omega)).trans HY
            replace HX := setRow_heap _ _ _ (stC Y0 Y1 Y2 Y3 y.pods.length f0 y.mnts.length f1 y.devs.length f2 y.lks.length f3 y.ph y.co y.ck y.bo y.ba y.lb y.gd y.pr) _ _ HX
            clear kk
            generalize w23.setRow R12 (stC Y0 Y1 Y2 Y3 y.pods.length f0 y.mnts.length f1 y.devs.length f2 y.lks.length f3 y.ph y.co y.ck y.bo y.ba y.lb y.gd y.pr) = w24 at K CU Lp XP HX Oy HY ⊢
            have h3 : ∀ o, w24.cell? ⟨R21, o, none⟩ = (stC Y0 Y1 Y2 Y3 y.pods.length f0 y.mnts.length f1 y.devs.length f2 y.lks.length f3 y.ph y.co y.ck y.bo y.ba y.lb y.gd y.pr)[o]? := fun o => cell_of_row _ R21 o _ _ _ HY
            have h2 : ∀ o, w24.cell? ⟨R12, o, none⟩ = (stC Y0 Y1 Y2 Y3 y.pods.length f0 y.mnts.length f1 y.devs.length f2 y.lks.length f3 y.ph y.co y.ck y.bo y.ba y.lb y.gd y.pr)[o]? := fun o => cell_of_row _ R12 o _ _ _ HX
            go_wp2_with fail
            go_ret
            exact ⟨ret_bool (by simp), K⟩
          · skip
            have g1 : (((run : Int) + 1) == q.p) = false := by simp; omega
            have g2 : (y.ph == 0) = false := by simp [d3]
            have g3 : (y.ph == 8) = true := by simp [d3]
            have g4 : ((run : Int) + 1) < q.p := d1
            have g5 : (((run : Int) + 1) != q.p) = true := by simp; omega
            have g7 : ((n_ : Int) == q.t) = true := by simp; omega
            have g6 := d4
            have HD3 := Lib.hid d3
            clear d3 d4 HC
            skip
            go_upto_region 29 with fail
            clear g6
            go_upto_region 30 with (first
              | ((with_reducible refine store_state (x := 12) (y := 146) (g := R12) (cs := stC Y0 Y1 Y2 Y3 y.pods.length f0 y.mnts.length f1 y.devs.length f2 y.lks.length f3 y.ph y.co y.ck y.bo y.ba y.lb y.gd y.pr) ?_ ?_ HX ?_ ?_ ?_ ?_)
                 · rfl
                 · rfl
                 · exact HIS.out
                 · rfl
                 · simp [Value.oneCell'])
              | ((with_reducible refine load_stateO (x := 21) (g := R21) (cs := stC Y0 Y1 Y2 Y3 y.pods.length f0 y.mnts.length f1 y.devs.length f2 y.lks.length f3 y.ph y.co y.ck y.bo y.ba y.lb y.gd y.pr) ?_ HY ?_ ?_)
                 · rfl
                 · exact HIS.out))
            clear h1 h3
            have kk := keepsRow_ w23 (R12) (stC Y0 Y1 Y2 Y3 y.pods.length f0 y.mnts.length f1 y.devs.length f2 y.lks.length f3 y.ph y.co y.ck y.bo y.ba y.lb y.gd y.pr)
            replace K := belowRow_ K (B := R12) (by omega) (stC Y0 Y1 Y2 Y3 y.pods.length f0 y.mnts.length f1 y.devs.length f2 y.lks.length f3 y.ph y.co y.ck y.bo y.ba y.lb y.gd y.pr)
            replace CU := CU.keeps kk (fun b hb e => by omega)
            replace Lp := Lp.keeps kk HX (by decide)
            replace XP := XP.keeps kk (by rintro b rfl; omega) (by show ¬ R11 = R12; omega)
            replace Oy := Oy.keepsT kk HX (by decide)
            replace HY := (setRow_other _ (R12) (R21) (stC Y0 Y1 Y2 Y3 y.pods.length f0 y.mnts.length f1 y.devs.length f2 y.lks.length f3 y.ph y.co y.ck y.bo y.ba y.lb y.gd y.pr) (by omega)).trans HY
            replace HX := setRow_heap _ _ _ (stC Y0 Y1 Y2 Y3 y.pods.length f0 y.mnts.length f1 y.devs.length f2 y.lks.length f3 y.ph y.co y.ck y.bo y.ba y.lb y.gd y.pr) _ _ HX
            clear kk
            generalize w23.setRow R12 (stC Y0 Y1 Y2 Y3 y.pods.length f0 y.mnts.length f1 y.devs.length f2 y.lks.length f3 y.ph y.co y.ck y.bo y.ba y.lb y.gd y.pr) = w24 at K CU Lp XP HX Oy HY ⊢
            have h3 : ∀ o, w24.cell? ⟨R21, o, none⟩ = (stC Y0 Y1 Y2 Y3 y.pods.length f0 y.mnts.length f1 y.devs.length f2 y.lks.length f3 y.ph y.co y.ck y.bo y.ba y.lb y.gd y.pr)[o]? := fun o => cell_of_row _ R21 o _ _ _ HY
            have h2 : ∀ o, w24.cell? ⟨R12, o, none⟩ = (stC Y0 Y1 Y2 Y3 y.pods.length f0 y.mnts.length f1 y.devs.length f2 y.lks.length f3 y.ph y.co y.ck y.bo y.ba y.lb y.gd y.pr)[o]? := fun o => cell_of_row _ R12 o _ _ _ HX
            go_wp2_with fail
            exact ⟨⟨n_ + 1, run + 1, y, Y0, Y1, Y2, Y3, f0, f1, f2, f3, by go_num, by first | rfl | go_num, by omega, by omega, Lib.hid (.inr ⟨by omega, HD3.out⟩), K, CU, Lp, XP, Oy, HX⟩, by simp [intOf]; omega⟩
          · skip
            have g1 : (((run : Int) + 1) == q.p) = false := by simp; omega
            have g2 : (y.ph == 0) = false := by simp [d3]
            have g3 : (y.ph == 8) = false := by simp [d3]
            have g4 : ((run : Int) + 1) < q.p := d1
            have g5 : (((run : Int) + 1) != q.p) = true := by simp; omega
            have g7 : ((n_ : Int) == q.t) = false := by simp; omega
            have g6 := d4
            have HD3 := Lib.hid d3
            have HD5 := Lib.hid d5
            have HD6 := Lib.hid d6
            clear d5 d6
            clear d3 d4 HC
            skip
            go_upto_region 29 with fail
            clear g6
            go_upto_region 30 with (first
              | ((with_reducible refine store_state (x := 12) (y := 146) (g := R12) (cs := stC Y0 Y1 Y2 Y3 y.pods.length f0 y.mnts.length f1 y.devs.length f2 y.lks.length f3 y.ph y.co y.ck y.bo y.ba y.lb y.gd y.pr) ?_ ?_ HX ?_ ?_ ?_ ?_)
                 · rfl
                 · rfl
                 · exact HIS.out
                 · rfl
                 · simp [Value.oneCell'])
              | ((with_reducible refine load_stateO (x := 21) (g := R21) (cs := stC Y0 Y1 Y2 Y3 y.pods.length f0 y.mnts.length f1 y.devs.length f2 y.lks.length f3 y.ph y.co y.ck y.bo y.ba y.lb y.gd y.pr) ?_ HY ?_ ?_)
                 · rfl
                 · exact HIS.out))
            clear h1 h3
            have kk := keepsRow_ w23 (R12) (stC Y0 Y1 Y2 Y3 y.pods.length f0 y.mnts.length f1 y.devs.length f2 y.lks.length f3 y.ph y.co y.ck y.bo y.ba y.lb y.gd y.pr)
            replace K := belowRow_ K (B := R12) (by omega) (stC Y0 Y1 Y2 Y3 y.pods.length f0 y.mnts.length f1 y.devs.length f2 y.lks.length f3 y.ph y.co y.ck y.bo y.ba y.lb y.gd y.pr)
            replace CU := CU.keeps kk (fun b hb e => by omega)
            replace Lp := Lp.keeps kk HX (by decide)
            replace XP := XP.keeps kk (by rintro b rfl; omega) (by show ¬ R11 = R12; omega)
            replace Oy := Oy.keepsT kk HX (by decide)
            replace HY := (setRow_other _ (R12) (R21) (stC Y0 Y1 Y2 Y3 y.pods.length f0 y.mnts.length f1 y.devs.length f2 y.lks.length f3 y.ph y.co y.ck y.bo y.ba y.lb y.gd y.pr) (by omega)).trans HY
            replace HX := setRow_heap _ _ _ (stC Y0 Y1 Y2 Y3 y.pods.length f0 y.mnts.length f1 y.devs.length f2 y.lks.length f3 y.ph y.co y.ck y.bo y.ba y.lb y.gd y.pr) _ _ HX
            clear kk
            generalize w23.setRow R12 (stC Y0 Y1 Y2 Y3 y.pods.length f0 y.mnts.length f1 y.devs.length f2 y.lks.length f3 y.ph y.co y.ck y.bo y.ba y.lb y.gd y.pr) = w24 at K CU Lp XP HX Oy HY ⊢
            have h3 : ∀ o, w24.cell? ⟨R21, o, none⟩ = (stC Y0 Y1 Y2 Y3 y.pods.length f0 y.mnts.length f1 y.devs.length f2 y.lks.length f3 y.ph y.co y.ck y.bo y.ba y.lb y.gd y.pr)[o]? := fun o => cell_of_row _ R21 o _ _ _ HY
            have h2 : ∀ o, w24.cell? ⟨R12, o, none⟩ = (stC Y0 Y1 Y2 Y3 y.pods.length f0 y.mnts.length f1 y.devs.length f2 y.lks.length f3 y.ph y.co y.ck y.bo y.ba y.lb y.gd y.pr)[o]? := fun o => cell_of_row _ R12 o _ _ _ HX
            go_wp2_with fail
            exact ⟨⟨n_ + 1, run + 1, y, Y0, Y1, Y2, Y3, f0, f1, f2, f3, by go_num, by first | rfl | go_num, by omega, by omega, Lib.hid (.inl ⟨by omega, HOKY.out, .inr HD3.out, by rw [HD6.out]; omega, by rw [HD5.out]; rfl, by omega⟩), K, CU, Lp, XP, Oy, HX⟩, by simp [intOf]; omega⟩
        · clear a0 a1
          obtain ⟨y, l, e1, e2, hoky, hc⟩ := probe_good (good := false) HOKT.out HPH.out HPR.out HGD.out c6 c1
          have HE1 := Lib.hid e1
          have HE2 := Lib.hid e2
          have HOKY := Lib.hid hoky
          have HC := Lib.hid hc
          clear e1 e2 hoky hc
          have h1 := XP.C
          have h2 : ∀ o, w20.cell? ⟨R12, o, none⟩ = (stC X0 X1 X2 X3 t.pods.length m0 t.mnts.length m1 t.devs.length m2 t.lks.length m3 t.ph t.co t.ck t.bo t.ba t.lb t.gd t.pr)[o]? := fun o => cell_of_row _ R12 o _ _ _ HX
          go_wp2_with fail
          have hall := implProbeRecs_any _ _ q t false w20 Lp.plan Ox.st
          rw [HE1.out] at hall
          refine hall.mono ?_
          rintro e w21 ⟨v, rfl, O1, hb⟩
          dsimp only at O1 ⊢
          clear hall h1 h2
          replace K := K.trans (hb.mono K.size)
          replace CU := CU.below hb
          replace Lp := Lp.below hb
          replace XP := XP.step hb
          replace HX := (hb.block _ (Array.getElem?_eq_some_iff.1 HX).1).trans HX
          replace Ox := Ox.below hb
          clear hb
          have h1 := XP.C
          have h2 : ∀ o, w21.cell? ⟨R12, o, none⟩ = (stC X0 X1 X2 X3 t.pods.length m0 t.mnts.length m1 t.devs.length m2 t.lks.length m3 t.ph t.co t.ck t.bo t.ba t.lb t.gd t.pr)[o]? := fun o => cell_of_row _ R12 o _ _ _ HX
          go_wp2_with fail
          have hall := specAll_any _ _ _ q t l w21 Lp.plan (Ox.isR (fits_ok HOKT.out)) O1.rt
          rw [HE2.out] at hall
          refine hall.mono ?_
          rintro e w22 ⟨vy, rfl, Oy, hb⟩
          dsimp only at Oy ⊢
          replace Oy := Oy.base K.size
          clear hall h1 h2
          replace K := K.trans (hb.mono K.size)
          replace CU := CU.below hb
          replace Lp := Lp.below hb
          replace XP := XP.step hb
          replace HX := (hb.block _ (Array.getElem?_eq_some_iff.1 HX).1).trans HX
          replace Ox := Ox.below hb
          replace O1 := O1.below hb
          clear hb O1
          have HFY := Lib.hid (fits_ok HOKY.out)
          obtain ⟨y0, y1, y2, y3, rfl, -⟩ := Oy.it
          obtain ⟨⟨Y0, f0, rfl⟩, ⟨Y1, f1, rfl⟩, ⟨Y2, f2, rfl⟩, ⟨Y3, f3, rfl⟩⟩ := Oy.shapes
          clear Ox
          have h12z : R12 < w22.heap.size := (Array.getElem?_eq_some_iff.1 HX).1
          go_upto_region 22 with fail
          have HY := heap_alloc_new w22 (.cells (stC Y0 Y1 Y2 Y3 y.pods.length f0 y.mnts.length f1 y.devs.length f2 y.lks.length f3 y.ph y.co y.ck y.bo y.ba y.lb y.gd y.pr) 38)
          have hb : Below w22.heap.size w22 (w22.alloc (.cells (stC Y0 Y1 Y2 Y3 y.pods.length f0 y.mnts.length f1 y.devs.length f2 y.lks.length f3 y.ph y.co y.ck y.bo y.ba y.lb y.gd y.pr) 38)) := (Below.refl _ _).alloc (Nat.le_refl _) _
          replace K := K.trans (hb.mono K.size)
          replace CU := CU.below hb
          replace Lp := Lp.below hb
          replace XP := XP.step hb
          replace HX := (hb.block _ (Array.getElem?_eq_some_iff.1 HX).1).trans HX
          replace Oy := Oy.below hb
          clear hb
          generalize w22.alloc (.cells (stC Y0 Y1 Y2 Y3 y.pods.length f0 y.mnts.length f1 y.devs.length f2 y.lks.length f3 y.ph y.co y.ck y.bo y.ba y.lb y.gd y.pr) 38) = w23 at K CU Lp XP HX Oy HY ⊢
          generalize w22.heap.size = R21 at HY h12z ⊢
          have h1 := XP.C
          have h3 : ∀ o, w23.cell? ⟨R21, o, none⟩ = (stC Y0 Y1 Y2 Y3 y.pods.length f0 y.mnts.length f1 y.devs.length f2 y.lks.length f3 y.ph y.co y.ck y.bo y.ba y.lb y.gd y.pr)[o]? := fun o => cell_of_row _ R21 o _ _ _ HY
          replace HC : Hid ((0 : Int) = q.p ∧ y.ph = 0 ∧ y.co = false ∨ (0 : Int) < q.p ∧ (n_ : Int) = q.t ∧ y.ph = 8 ∧ y.co = true ∨ (0 : Int) < q.p ∧ (n_ : Int) < q.t ∧ y.ph = 7 ∧ y.co = true ∧ y.gd = (0 : Int) ∧ y.pr = n_) := Lib.hid (by simpa using HC.out)
          rcases HC.out with ⟨d1, d2, d3⟩ | ⟨d1, d2, d3, d4⟩ | ⟨d1, d2, d3, d4, d5, d6⟩
          · exact absurd d1 (by omega)
          · skip
            have g1 : ((0 : Int) == q.p) = false := by simp; omega
            have g2 : (y.ph == 0) = false := by simp [d3]
            have g3 : (y.ph == 8) = true := by simp [d3]
            have g4 : (0 : Int) < q.p := d1
            have g5 : ((0 : Int) != q.p) = true := by simp; omega
            have g7 : ((n_ : Int) == q.t) = true := by simp; omega
            have g6 := d4
            have HD3 := Lib.hid d3
            clear d3 d4 HC
            skip
            go_upto_region 29 with fail
            clear g6
            go_upto_region 30 with (first
              | ((with_reducible refine store_state (x := 12) (y := 146) (g := R12) (cs := stC Y0 Y1 Y2 Y3 y.pods.length f0 y.mnts.length f1 y.devs.length f2 y.lks.length f3 y.ph y.co y.ck y.bo y.ba y.lb y.gd y.pr) ?_ ?_ HX ?_ ?_ ?_ ?_)
                 · rfl
                 · rfl
                 · exact HIS.out
                 · rfl
                 · simp [Value.oneCell'])
              | ((with_reducible refine load_stateO (x := 21) (g := R21) (cs := stC Y0 Y1 Y2 Y3 y.pods.length f0 y.mnts.length f1 y.devs.length f2 y.lks.length f3 y.ph y.co y.ck y.bo y.ba y.lb y.gd y.pr) ?_ HY ?_ ?_)
                 · rfl
                 · exact HIS.out))
            clear h1 h3
            have kk := keepsRow_ w23 (R12) (stC Y0 Y1 Y2 Y3 y.pods.length f0 y.mnts.length f1 y.devs.length f2 y.lks.length f3 y.ph y.co y.ck y.bo y.ba y.lb y.gd y.pr)
            replace K := belowRow_ K (B := R12) (by omega) (stC Y0 Y1 Y2 Y3 y.pods.length f0 y.mnts.length f1 y.devs.length f2 y.lks.length f3 y.ph y.co y.ck y.bo y.ba y.lb y.gd y.pr)
            replace CU := CU.keeps kk (fun b hb e => by omega)
            replace Lp := Lp.keeps kk HX (by decide)
            replace XP := XP.keeps kk (by rintro b rfl; omega) (by show ¬ R11 = R12; omega)
            replace Oy := Oy.keepsT kk HX (by decide)
            replace HY := (setRow_other _ (R12) (R21) (stC Y0 Y1 Y2 Y3 y.pods.length f0 y.mnts.length f1 y.devs.length f2 y.lks.length f3 y.ph y.co y.ck y.bo y.ba y.lb y.gd y.pr) (by omega)).trans HY
            replace HX := setRow_heap _ _ _ (stC Y0 Y1 Y2 Y3 y.pods.length f0 y.mnts.length f1 y.devs.length f2 y.lks.length f3 y.ph y.co y.ck y.bo y.ba y.lb y.gd y.pr) _ _ HX
            clear kk
            generalize w23.setRow R12 (stC Y0 Y1 Y2 Y3 y.pods.length f0 y.mnts.length f1 y.devs.length f2 y.lks.length f3 y.ph y.co y.ck y.bo y.ba y.lb y.gd y.pr) = w24 at K CU Lp XP HX Oy HY ⊢
            have h3 : ∀ o, w24.cell? ⟨R21, o, none⟩ = (stC Y0 Y1 Y2 Y3 y.pods.length f0 y.mnts.length f1 y.devs.length f2 y.lks.length f3 y.ph y.co y.ck y.bo y.ba y.lb y.gd y.pr)[o]? := fun o => cell_of_row _ R21 o _ _ _ HY
            have h2 : ∀ o, w24.cell? ⟨R12, o, none⟩ = (stC Y0 Y1 Y2 Y3 y.pods.length f0 y.mnts.length f1 y.devs.length f2 y.lks.length f3 y.ph y.co y.ck y.bo y.ba y.lb y.gd y.pr)[o]? := fun o => cell_of_row _ R12 o _ _ _ HX
            go_wp2_with fail
            exact ⟨⟨n_ + 1, 0, y, Y0, Y1, Y2, Y3, f0, f1, f2, f3, by go_num, by first | rfl | go_num, by omega, by omega, Lib.hid (.inr ⟨by omega, HD3.out⟩), K, CU, Lp, XP, Oy, HX⟩, by simp [intOf]; omega⟩
          · skip
            have g1 : ((0 : Int) == q.p) = false := by simp; omega
            have g2 : (y.ph == 0) = false := by simp [d3]
            have g3 : (y.ph == 8) = false := by simp [d3]
            have g4 : (0 : Int) < q.p := d1
            have g5 : ((0 : Int) != q.p) = true := by simp; omega
            have g7 : ((n_ : Int) == q.t) = false := by simp; omega
            have g6 := d4
            have HD3 := Lib.hid d3
            have HD5 := Lib.hid d5
            have HD6 := Lib.hid d6
            clear d5 d6
            clear d3 d4 HC
            skip
            go_upto_region 29 with fail
            clear g6
            go_upto_region 30 with (first
              | ((with_reducible refine store_state (x := 12) (y := 146) (g := R12) (cs := stC Y0 Y1 Y2 Y3 y.pods.length f0 y.mnts.length f1 y.devs.length f2 y.lks.length f3 y.ph y.co y.ck y.bo y.ba y.lb y.gd y.pr) ?_ ?_ HX ?_ ?_ ?_ ?_)
                 · rfl
                 · rfl
                 · exact HIS.out
                 · rfl
                 · simp [Value.oneCell'])
              | ((with_reducible refine load_stateO (x := 21) (g := R21) (cs := stC Y0 Y1 Y2 Y3 y.pods.length f0 y.mnts.length f1 y.devs.length f2 y.lks.length f3 y.ph y.co y.ck y.bo y.ba y.lb y.gd y.pr) ?_ HY ?_ ?_)
                 · rfl
                 · exact HIS.out))
            clear h1 h3
            have kk := keepsRow_ w23 (R12) (stC Y0 Y1 Y2 Y3 y.pods.length f0 y.mnts.length f1 y.devs.length f2 y.lks.length f3 y.ph y.co y.ck y.bo y.ba y.lb y.gd y.pr)
            replace K := belowRow_ K (B := R12) (by omega) (stC Y0 Y1 Y2 Y3 y.pods.length f0 y.mnts.length f1 y.devs.length f2 y.lks.length f3 y.ph y.co y.ck y.bo y.ba y.lb y.gd y.pr)
            replace CU := CU.keeps kk (fun b hb e => by omega)
            replace Lp := Lp.keeps kk HX (by decide)
            replace XP := XP.keeps kk (by rintro b rfl; omega) (by show ¬ R11 = R12; omega)
            replace Oy := Oy.keepsT kk HX (by decide)
            replace HY := (setRow_other _ (R12) (R21) (stC Y0 Y1 Y2 Y3 y.pods.length f0 y.mnts.length f1 y.devs.length f2 y.lks.length f3 y.ph y.co y.ck y.bo y.ba y.lb y.gd y.pr) (by omega)).trans HY
            replace HX := setRow_heap _ _ _ (stC Y0 Y1 Y2 Y3 y.pods.length f0 y.mnts.length f1 y.devs.length f2 y.lks.length f3 y.ph y.co y.ck y.bo y.ba y.lb y.gd y.pr) _ _ HX
            clear kk
            generalize w23.setRow R12 (stC Y0 Y1 Y2 Y3 y.pods.length f0 y.mnts.length f1 y.devs.length f2 y.lks.length f3 y.ph y.co y.ck y.bo y.ba y.lb y.gd y.pr) = w24 at K CU Lp XP HX Oy HY ⊢
            have h3 : ∀ o, w24.cell? ⟨R21, o, none⟩ = (stC Y0 Y1 Y2 Y3 y.pods.length f0 y.mnts.length f1 y.devs.length f2 y.lks.length f3 y.ph y.co y.ck y.bo y.ba y.lb y.gd y.pr)[o]? := fun o => cell_of_row _ R21 o _ _ _ HY
            have h2 : ∀ o, w24.cell? ⟨R12, o, none⟩ = (stC Y0 Y1 Y2 Y3 y.pods.length f0 y.mnts.length f1 y.devs.length f2 y.lks.length f3 y.ph y.co y.ck y.bo y.ba y.lb y.gd y.pr)[o]? := fun o => cell_of_row _ R12 o _ _ _ HX
            go_wp2_with fail
            exact ⟨⟨n_ + 1, 0, y, Y0, Y1, Y2, Y3, f0, f1, f2, f3, by go_num, by first | rfl | go_num, by omega, by omega, Lib.hid (.inl ⟨by omega, HOKY.out, .inr HD3.out, by rw [HD6.out]; omega, by rw [HD5.out]; rfl, by omega⟩), K, CU, Lp, XP, Oy, HX⟩, by simp [intOf]; omega⟩
end Go.Proofs.YtdkmhaghnfhajaaGreat
/- Ok -/
set_option linter.unusedVariables false
namespace Go.Proofs.YtdkmhaghnfhajaaGreat
open Go.ChangeShapes Go.WideShapes Go.ChangeAt Go.RowKit Go.Deep

namespace lawProbesRow
set_option maxRecDepth 100000 in
theorem contract (H : Type) (enc : TypeId × Value → H) (W : World) (base : Nat) (args : Array Value) (ds gs : List (DataW H)) (before : List MemPlace)
    (hval : ∀ (j : Nat) t v, Tryz.f6.params[j]? = some t → args[j]? = some v → Value.okWide Tryz.prog W .any base t v)
    (hW : DataW.Whole enc Tryz.prog Tryz.f6.params.toList Rows.fnProbesSpec.vars false W args.toList ds gs before) :
    Calls Tryz.prog 6 args W fun e W' => ∃ v, e = .returned v ∧ Rows.fnProbesSpec.post enc Tryz.prog Tryz.f6 false true false false W args v W' := by
  have hW' := hW
  obtain ⟨p, q, hA0, hV, rfl, hfz, hnd⟩ := hW
  have hA : DataW.TrodAll enc Tryz.prog W 0 (fun _ => true) true Tryz.f6.params.toList args.toList ds p := hA0
  rw [Tryz.params6] at hA hval
  obtain ⟨v0, d0, rfl, rfl, h0⟩ := trodAll_one hA
  obtain ⟨rfl, rfl⟩ := trodVars_none hV
  obtain ⟨A, n, c, rfl, hn, hB⟩ := open_bytes (hval 0 22 v0 rfl rfl) h0
  clear hA0
  simp only [List.append_nil] at hW'
  have hlt : ∀ x ∈ p, x.block < W.heap.size := fun x hx => by simpa using hW'.lt x hx
  refine (lawProbes A n c W hB hn).mono fun e W' ⟨he, K⟩ => ?_
  subst he
  refine ⟨_, rfl, ⟨_, _, _, [], p, [], hW', ?_, ?_, ?_, K.frame _, fun h => by cases h⟩⟩
  · exact trodAll_mk1 (shut_bool Tryz.underlying4 _)
  · exact trodAll_mk1 (Below.trod laid_ (by kernel_rfl) (of_decide_eq_true (by kernel_rfl)) h0 K hlt)
  · exact rfl

set_option maxRecDepth 100000 in
theorem lifted (os : Os) (started : os.Started) (H : Type) (enc : TypeId × Value → H) :
    ReturnsInHanded {} Tryz.checked os 6 .any (Rows.fnProbesSpec.pre6 enc Tryz.prog Tryz.f6 Rows.fnProbesRow.domain false) (Rows.fnProbesSpec.post enc Tryz.prog Tryz.f6 false true false false) := by
  refine returnsInHanded_of_change (C := Tryz.checked) (s := Rows.fnProbesSpec) own_ started (by kernel_rfl) Tryz.func6
    (ChangeSpec.witness6 (enc := enc) (C := Tryz.checked) (s := Rows.fnProbesSpec) false ⟨#[], #[.slice none 0 0], []⟩ 8 (by kernel_rfl) (by kernel_rfl) (by kernel_rfl) (by kernel_rfl)) ?_
  intro W base args ds gs before hval hW _ _
  exact contract H enc W base args ds gs before hval hW
end lawProbesRow

theorem fnProbes_holds : Rows.FnProbesSaid :=
  OpenClaim.holds_of_wide 6 Tryz.f6 rfl rfl rfl rfl rfl rfl rfl ⟨rfl, rfl, rfl, rfl, rfl⟩ rfl rfl rfl rfl rfl (by kernel_rfl) Tryz.func6 (by kernel_rfl)
    (of_decide_eq_true (by kernel_rfl)) (by unfold Func.isWrapper; first | (rw [if_pos (by decide +kernel)]; kernel_rfl) | (rw [if_neg (by decide +kernel)]; exact ⟨rfl, rfl⟩))
    (fun os started H enc _ => lawProbesRow.lifted os started H enc)
#print axioms fnProbes_holds
end Go.Proofs.YtdkmhaghnfhajaaGreat
