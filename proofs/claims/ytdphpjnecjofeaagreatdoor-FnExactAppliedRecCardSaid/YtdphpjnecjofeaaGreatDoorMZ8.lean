/-
  Records and bytes as they come in.
-/
import Derived.Test.YtdphpjnecjofeaaGreatDoorMZ7
import Derived.Test.YtdphpjnecjofeaaGreatDoorMZ6
import Derived.Test.YtdphpjnecjofeaaGreatDoorMZxWc
import Derived.Test.YtdphpjnecjofeaaGreatDoorMZ4
import Derived.Test.YtdphpjnecjofeaaGreatDoorMZ5
import Derived.Deep.DeepCutAuto
import Derived.Deep.RegionLaw
import Derived.Test.YtdphpjnecjofeaaGreatDoorMZ0
import Derived.ChangeVars
import Derived.LaidLaws
import Derived.OpenShut
import Derived.RowKitTokens
import Derived.WalkSmall
/- Xj -/
set_option linter.unusedVariables false
namespace Go.Proofs.YtdphpjnecjofeaaGreatDoor
open Go.RowKit

theorem appliedL_no {d : PlanD} {s : StD} {l : List RecD} (h : stOkB d s = false) : appliedL d s l = (zeroS, false) := by unfold appliedL; rw [h]; rfl
theorem appliedL_all {d : PlanD} {s : StD} {l : List RecD} (h : stOkB d s = true) : appliedL d s l = allS d s l := by unfold appliedL allS; rw [h]; rfl
/-- The table in a box of its own. -/
def BoxT (w : World) (B g : Nat) : Prop := w.ownsRow B 106 13 (.slice (some ⟨g, 0, none⟩) 1 1) 1 chgT.toList
theorem BoxT.new {W : World} {B g : Nat} (hg : W.heap.size = g) (hB : B ≤ W.heap.size) : BoxT (W.alloc (.cells chgT 106)) B g := by
  subst hg
  exact own_of_heap (cur := chgT) (heap_alloc_new W _) (by simp) (by simp) hB (by unfold maxLen; decide)
theorem BoxT.at_ {w : World} {B g : Nat} (h : BoxT w B g) (o : Nat) (ho : o < 13) : w.cell? ⟨g, o, none⟩ = chgT[o]? := by
  rw [World.ownsRow.cellAt h o (by omega), Array.getElem?_toList]
theorem BoxT.go {w w' : World} {B g : Nat} (h : BoxT w B g) (hb : Below w.heap.size w w') : BoxT w' B g := ownsRow_below h hb
theorem BoxT.lt {w : World} {B g : Nat} (h : BoxT w B g) : B ≤ g ∧ g < w.heap.size := World.ownsRow.lt h g rfl
theorem OwnSt.apartT {w : World} {B B' g : Nat} {v : Value} {s : StD} (h : OwnSt w B v s) (hb : BoxT w B' g) : ¬ rowsOf v g := by
  obtain ⟨v0, v1, v2, v3, rfl, h0, h1, h2, h3⟩ := h.it
  rintro ⟨cs, i, u, hv, hc, hu⟩
  injection hv with hv
  subst hv
  match i, hc with
  | 0, hc => cases hc; cases hu
  | 1, hc => cases hc; cases hu
  | 2, hc => cases hc; cases hu
  | 3, hc => cases hc; cases hu
  | 4, hc => cases hc; cases hu
  | 5, hc => cases hc; cases hu
  | 6, hc => cases hc; exact absurd (row_type h0 hb hu rfl) (by decide)
  | 7, hc => cases hc; exact absurd (row_type h1 hb hu rfl) (by decide)
  | 8, hc => cases hc; exact absurd (row_type h2 hb hu rfl) (by decide)
  | 9, hc => cases hc; exact absurd (row_type h3 hb hu rfl) (by decide)
  | 10, hc => cases hc; cases hu
  | 11, hc => cases hc; cases hu
  | k + 12, hc => simp at hc
theorem BoxT.chg {w w' : World} {B B' g γ : Nat} {v : Value} {s : StD} (h : BoxT w B γ) (O : OwnSt w B' v s) (hne : γ ≠ g) (kp : Keeps (fun b => b = g ∨ rowsOf v b) w w') : BoxT w' B γ := ownsRow_keeps h kp fun r hr hs => by
  obtain rfl : γ = r := by simpa [Value.ownBlock] using hr
  rcases hs with h1 | h1
  · exact hne h1
  · exact O.apartT h h1
theorem TP.chg {w w1 w2 : World} {g : Nat} {v : Value} {s : StD} {cs zs os : Array Value} (T : TP w w1 cs zs os) (O : OwnSt w1 (w.heap.size + 1 + 1 + 1) v s) (hg : w.heap.size + 1 + 1 + 1 ≤ g) (kp : Keeps (fun b => b = g ∨ rowsOf v b) w1 w2) : TP w w2 cs zs os := by
  have hb : ∀ b, b = g ∨ rowsOf v b → w.heap.size + 1 + 1 + 1 ≤ b := fun b hb => by
    rcases hb with rfl | hb
    · exact hg
    · exact (O.blocks hb).1
  exact ⟨T.A.keeps kp (fun b h => by have := hb b h; omega) (fun h => by have := hb _ h; omega), T.Z.keeps kp (fun b h => by have := hb b h; omega) (fun h => by have := hb _ h; omega), T.O.keeps kp (fun b h => by have := hb b h; omega) (fun h => by have := hb _ h; omega)⟩

set_option maxRecDepth 4000 in
set_option maxHeartbeats 16000000 in
theorem implAll_any (pv sv rv : Value) (d : PlanD) (s : StD) (l : List RecD) (w : World) (hp : IsPlan w w.heap.size pv d) (hs : IsStR w w.heap.size sv s) (hr : Rt w w.heap.size rv l) (N : Names w) :
    Calls Tryz.prog 22 #[pv, sv, rv] w (MadeSB w (appliedL d s l)) := by
  have HP := Lib.hid hp
  have HS := Lib.hid hs
  have HR := Lib.hid hr
  have HN := Lib.hid N
  obtain ⟨⟨P0, P1, P2, P3, k0, k1, k2, k3, rfl, -, -, -, -⟩, -, -, -, -⟩ := hp
  obtain ⟨⟨A0, A1, A2, A3, c0, c1, c2, c3, rfl, -, -⟩, -⟩ := hs
  obtain ⟨⟨L0, cl, rfl, -⟩, hlen⟩ := hr
  clear N
  unfold maxLen at hlen
  have T0 := TP.start w (planC P0 P1 P2 P3 d.n0 k0 d.n1 k1 d.n2 k2 d.n3 k3 d.l d.p d.t) (stC A0 A1 A2 A3 s.pods.length c0 s.mnts.length c1 s.devs.length c2 s.lks.length c3 s.ph s.co s.ck s.bo s.ba s.lb s.gd s.pr) (stC none none none none 0 0 0 0 0 0 0 0 0 false 0 0 0 0 0 0) 47 40 40
  go_enter Tryz.func22, Tryz.ntmps22
  go_wp2_with fail
  refine (implStateOk_any _ _ d s _ ((HP.out.below T0.A.K (Nat.le_refl _)).more T0.A.K.size) ((HS.out.below T0.A.K (Nat.le_refl _)).more T0.A.K.size).is).mono ?_
  rintro e w1 ⟨rfl, hb⟩
  have T1 := T0.step hb
  clear hb T0
  cases hok : stOkB d s
  · have HE := Lib.hid (appliedL_no (l := l) hok)
    clear hok
    have hD := T1.O.C
    have hG := T1.O.F
    go_wp2
    refine bodyPost_ret (v := .tuple #[.agg (stC none none none none 0 0 0 0 0 0 0 0 0 false 0 0 0 0 0 0), .bool false]) ?_ rfl ?_
    · simp [results, Tryz.results22, go_sem, hD]
    · rw [HE.out]
      refine ⟨_, rfl, OwnSt.zero _ _, ?_⟩
      iterate 12 (refine Below.setCell ?_ (by simp <;> omega) _)
      exact T1.A.K
  · have HA := Lib.hid (appliedL_all (l := l) hok)
    have HOK := Lib.hid (stOkB_iff.1 hok)
    clear hok
    have hS := T1.Z.C
    go_wp2_with fail
    refine (ownState_any _ s _ ((HS.out.below T1.A.K (Nat.le_refl _)).more T1.A.K.size)).mono ?_
    rintro e w2 ⟨v1, rfl, O1, hb⟩
    have T2 := T1.step hb
    have hβ : w.heap.size + 1 + 1 + 1 ≤ w1.heap.size := T1.O.z
    replace O1 := O1.base hβ
    obtain ⟨u0, u1, u2, u3, rfl, z0, z1, z2, z3⟩ := O1.it
    obtain ⟨B0, e0, rfl, -⟩ := open_rowR z0
    obtain ⟨B1, e1, rfl, -⟩ := open_rowR z1
    obtain ⟨B2, e2, rfl, -⟩ := open_rowR z2
    obtain ⟨B3, e3, rfl, -⟩ := open_rowR z3
    clear z0 z1 z2 z3 T1 hS hb hβ
    go_wp2_with fail
    refine (kindChanges_any _).mono ?_
    rintro e w3 ⟨rfl, hb⟩
    have T3 := T2.step hb
    have O3 := O1.below hb
    clear T2 O1 hb
    have hw3 : w.heap.size + 1 + 1 + 1 ≤ w3.heap.size := T3.O.z
    go_wp2_with fail
    have hb : Below w3.heap.size w3 (w3.alloc (.cells (stC B0 B1 B2 B3 s.pods.length e0 s.mnts.length e1 s.devs.length e2 s.lks.length e3 s.ph s.co s.ck s.bo s.ba s.lb s.gd s.pr) 40)) := (Below.refl _ _).alloc (Nat.le_refl _) _
    have T4 := T3.step hb
    have O4 := O3.below hb
    have X4 : BoxS (w3.alloc (.cells (stC B0 B1 B2 B3 s.pods.length e0 s.mnts.length e1 s.devs.length e2 s.lks.length e3 s.ph s.co s.ck s.bo s.ba s.lb s.gd s.pr) 40)) (w.heap.size + 1 + 1 + 1) w3.heap.size (stC B0 B1 B2 B3 s.pods.length e0 s.mnts.length e1 s.devs.length e2 s.lks.length e3 s.ph s.co s.ck s.bo s.ba s.lb s.gd s.pr).toList := BoxS.new rfl hw3 rfl
    clear T3 O3 hb
    have hb : Below (w3.alloc (.cells (stC B0 B1 B2 B3 s.pods.length e0 s.mnts.length e1 s.devs.length e2 s.lks.length e3 s.ph s.co s.ck s.bo s.ba s.lb s.gd s.pr) 40)).heap.size (w3.alloc (.cells (stC B0 B1 B2 B3 s.pods.length e0 s.mnts.length e1 s.devs.length e2 s.lks.length e3 s.ph s.co s.ck s.bo s.ba s.lb s.gd s.pr) 40)) ((w3.alloc (.cells (stC B0 B1 B2 B3 s.pods.length e0 s.mnts.length e1 s.devs.length e2 s.lks.length e3 s.ph s.co s.ck s.bo s.ba s.lb s.gd s.pr) 40)).alloc (.cells chgT 106)) := (Below.refl _ _).alloc (Nat.le_refl _) _
    have T5 := T4.step hb
    have O5 := O4.below hb
    have X5 := X4.go hb
    have Y5 : BoxT ((w3.alloc (.cells (stC B0 B1 B2 B3 s.pods.length e0 s.mnts.length e1 s.devs.length e2 s.lks.length e3 s.ph s.co s.ck s.bo s.ba s.lb s.gd s.pr) 40)).alloc (.cells chgT 106)) (w.heap.size + 1 + 1 + 1) (w3.heap.size + 1) := BoxT.new (by simp) (by simp; omega)
    clear T4 O4 X4 hb
    generalize (w3.alloc (.cells (stC B0 B1 B2 B3 s.pods.length e0 s.mnts.length e1 s.devs.length e2 s.lks.length e3 s.ph s.co s.ck s.bo s.ba s.lb s.gd s.pr) 40)).alloc (.cells chgT 106) = w5 at T5 O5 X5 Y5 ⊢
    obtain ⟨γ, hγ⟩ : ∃ γ, w3.heap.size + 1 = γ := ⟨_, rfl⟩
    rw [hγ] at Y5 ⊢
    have hne : γ ≠ w3.heap.size := by omega
    clear hγ
    generalize w3.heap.size = g at X5 hw3 hne ⊢
    go_loopw [22] (fun i wr => ∃ (k : Nat) (t : StD) (C0 C1 C2 C3 : Option Addr) (f0 f1 f2 f3 : Nat), k ≤ l.length ∧ i = .int .i64 k ∧ (runR d s (l.take k) = some t ∧ StOk d t) ∧ TP w wr (planC P0 P1 P2 P3 d.n0 k0 d.n1 k1 d.n2 k2 d.n3 k3 d.l d.p d.t) (stC A0 A1 A2 A3 s.pods.length c0 s.mnts.length c1 s.devs.length c2 s.lks.length c3 s.ph s.co s.ck s.bo s.ba s.lb s.gd s.pr) (stC none none none none 0 0 0 0 0 0 0 0 0 false 0 0 0 0 0 0) ∧
      BoxS wr (w.heap.size + 1 + 1 + 1) g (stC C0 C1 C2 C3 t.pods.length f0 t.mnts.length f1 t.devs.length f2 t.lks.length f3 t.ph t.co t.ck t.bo t.ba t.lb t.gd t.pr).toList ∧ OwnSt wr (w.heap.size + 1 + 1 + 1) (.agg (stC C0 C1 C2 C3 t.pods.length f0 t.mnts.length f1 t.devs.length f2 t.lks.length f3 t.ph t.co t.ck t.bo t.ba t.lb t.gd t.pr)) t ∧ BoxT wr (w.heap.size + 1 + 1 + 1) γ) (fun i _ => l.length - (intOf i).toNat)
    case atStart => exact ⟨0, s, _, _, _, _, _, _, _, _, Nat.zero_le _, rfl, ⟨rfl, HOK.out⟩, T5, X5, O5, Y5⟩
    case round =>
      clear T5 O5 X5 Y5
      obtain ⟨k, t, C0, C1, C2, C3, f0, f1, f2, f3, hk, rfl, ⟨hrun, hok⟩, T, X, O, Y⟩ := hrel
      have HRUN := Lib.hid hrun
      have HT := Lib.hid hok
      have HX := Lib.hid X
      have HO := Lib.hid O
      have HY := Lib.hid Y
      clear hrun hok X O Y
      by_cases hlt : k < l.length
      · obtain ⟨b, off, rfl, hbb, r0, r1, r2⟩ := (HR.out.below T.A.K (Nat.le_refl _)).cell hlt
        have HRS := Lib.hid (fun hg => run_stop hlt HRUN.out hg)
        have HRN := Lib.hid (fun hg => run_next hlt HRUN.out hg)
        generalize recAt l k = r at r0 r1 r2 HRS HRN
        obtain ⟨rk, ra, rb⟩ := r
        dsimp only at r0 r1 r2
        have HE := Lib.hid (rfl : True = True)
        have hbr : b < wr.heap.size := Nat.lt_of_lt_of_le hbb T.A.K.size
        go_wp2_with fail
        have hb : Below wr.heap.size wr (wr.alloc (.cells #[.int .i64 rk, .int .i64 ra, .int .i64 rb] 50)) := (Below.refl _ _).alloc (Nat.le_refl _) _
        have T1 := T.step hb
        have X1 := HX.out.go hb
        have O1 := HO.out.below hb
        have Y1 := HY.out.go hb
        have R1 := Own.box wr #[.int .i64 rk, .int .i64 ra, .int .i64 rb] 50
        clear hb r0 r1 r2 hbr T HX HO HY
        generalize wr.alloc (.cells #[.int .i64 rk, .int .i64 ra, .int .i64 rb] 50) = w6 at T1 X1 O1 Y1 R1 ⊢
        refine (recOk_any ⟨rk, ra, rb⟩ _ (HN.out.go T1.A.K)).mono ?_
        rintro e w7 ⟨rfl, hb⟩
        have T2 := T1.step hb
        have X2 := X1.go hb
        have O2 := O1.below hb
        have Y2 := Y1.go hb
        have R2 := R1.step hb
        clear hb T1 X1 O1 Y1 R1
        cases h1 : recOkB ⟨rk, ra, rb⟩
        · replace HE := Lib.hid (HA.out.trans (allS_none (HRS.out (by simp [goodR, h1]))))
          have hS := T2.Z.C
          go_wp2_with fail
          refine (ownState_any _ s _ ((HS.out.below T2.A.K (Nat.le_refl _)).more T2.A.K.size)).mono ?_
          rintro e wc ⟨vc, rfl, Oc, hb⟩
          have Tc := T2.step hb
          have hB2 := T2.O.z
          obtain ⟨u0, u1, u2, u3, rfl, z0, z1, z2, z3⟩ := Oc.it
          obtain ⟨D0, h0, rfl, -⟩ := open_rowR z0
          obtain ⟨D1, h1, rfl, -⟩ := open_rowR z1
          obtain ⟨D2, h2, rfl, -⟩ := open_rowR z2
          obtain ⟨D3, h3, rfl, -⟩ := open_rowR z3
          have HOc := Lib.hid Oc
          clear z0 z1 z2 z3 Oc hS
          have hD := Tc.O.C
          have hG := Tc.O.F
          go_wp2
          refine bodyPost_ret (v := .tuple #[.agg (stC D0 D1 D2 D3 s.pods.length h0 s.mnts.length h1 s.devs.length h2 s.lks.length h3 s.ph s.co s.ck s.bo s.ba s.lb s.gd s.pr), .bool false]) ?_ rfl ?_
          · simp [results, Tryz.results22, go_sem, hD]
          · rw [HE.out]
            refine ⟨_, rfl, (HOc.out.keeps (keeps_put12 ..) fun r hr e => by subst e; have := (HOc.out.blocks hr).1; omega).base (by omega), ?_⟩
            iterate 12 (refine Below.setCell ?_ (by simp <;> omega) _)
            exact Tc.A.K
        · have ha0 : 0 ≤ ra := (recOkB_true.1 h1).2.1.1
          have hX := X2.C
          have hR := R2.C
          go_wp2_with fail
          refine (isThere_any _ t ⟨rk, ra, rb⟩ _ O2.st ha0).mono ?_
          rintro e w8 ⟨rfl, hb⟩
          have T3 := T2.step hb
          have X3 := X2.go hb
          have O3 := O2.below hb
          have Y3 := Y2.go hb
          have R3 := R2.step hb
          clear hb T2 X2 O2 Y2 R2 hX hR
          cases h2 : thereB t ⟨rk, ra, rb⟩
          · replace HE := Lib.hid (HA.out.trans (allS_none (HRS.out (by simp [goodR, h1, h2]))))
            have hS := T3.Z.C
            go_wp2_with fail
            refine (ownState_any _ s _ ((HS.out.below T3.A.K (Nat.le_refl _)).more T3.A.K.size)).mono ?_
            rintro e wc ⟨vc, rfl, Oc, hb⟩
            have Tc := T3.step hb
            have hB2 := T3.O.z
            obtain ⟨u0, u1, u2, u3, rfl, z0, z1, z2, z3⟩ := Oc.it
            obtain ⟨D0, h0, rfl, -⟩ := open_rowR z0
            obtain ⟨D1, h1, rfl, -⟩ := open_rowR z1
            obtain ⟨D2, h2, rfl, -⟩ := open_rowR z2
            obtain ⟨D3, h3, rfl, -⟩ := open_rowR z3
            have HOc := Lib.hid Oc
            clear z0 z1 z2 z3 Oc hS
            have hD := Tc.O.C
            have hG := Tc.O.F
            go_wp2
            refine bodyPost_ret (v := .tuple #[.agg (stC D0 D1 D2 D3 s.pods.length h0 s.mnts.length h1 s.devs.length h2 s.lks.length h3 s.ph s.co s.ck s.bo s.ba s.lb s.gd s.pr), .bool false]) ?_ rfl ?_
            · simp [results, Tryz.results22, go_sem, hD]
            · rw [HE.out]
              refine ⟨_, rfl, (HOc.out.keeps (keeps_put12 ..) fun r hr e => by subst e; have := (HOc.out.blocks hr).1; omega).base (by omega), ?_⟩
              iterate 12 (refine Below.setCell ?_ (by simp <;> omega) _)
              exact Tc.A.K
          · have hkb := (recOkB_true.1 h1).1
            dsimp only at hkb
            obtain ⟨κ, rfl⟩ := Int.eq_ofNat_of_zero_le (show 0 ≤ rk by omega)
            obtain ⟨f, hfT, hent, hcall⟩ := change_at t ⟨κ, ra, rb⟩ h1 h2 HT.out.rise (fits_ok HT.out).f3
            have hk13 : κ < 13 := by omega
            have hkz : (κ : Int) < 13 := by omega
            have hft : w8.cell? ⟨γ, κ, none⟩ = some (.func (.func f) #[] #[]) := (Y3.at_ _ hk13).trans hfT
            have HC := Lib.hid hcall
            have hD : Below w8.heap.size w8 w8.drew := (Below.refl _ _).drew
            have hR := R3.C
            have T4 := T3.step hD
            have X4 := X3.go hD
            have O4 := O3.below hD
            have Y4 := Y3.go hD
            clear hfT hcall hkb
            go_wp2_with fail
            go_still_tail 8, (by kernel_rfl)
            change wpList _ _ _ _ _ w8.drew
            generalize w8.drew = w9 at T4 X4 O4 Y4 ⊢
            clear T3 X3 O3 Y3 R3 hR hft hD
            go_wp2_with fail
            refine (HC.out _ _ (w.heap.size + 1 + 1 + 1) g (by have := T4.O.z; omega) ⟨O4, _, rfl, X4⟩).mono ?_
            rintro e w10 ⟨rfl, ⟨v', O5, cs', hv', X5⟩, kp⟩
            have T5 := T4.chg O4 X4.lt.1 kp
            have Y5 := Y4.chg O4 hne kp
            clear T4 X4 O4 Y4 kp HC
            have HT2 : Hid (stOkB d (applyR t ⟨κ, ra, rb⟩) = true → StOk d (applyR t ⟨κ, ra, rb⟩)) := Lib.hid fun h => stOkB_iff.1 h
            have HGD : Hid (stOkB d (applyR t ⟨κ, ra, rb⟩) = goodR d t ⟨κ, ra, rb⟩) := Lib.hid (by simp [goodR, h1, h2])
            generalize applyR t ⟨κ, ra, rb⟩ = t2 at O5 HRN HT2 HGD
            obtain ⟨u0, u1, u2, u3, rfl, z0, z1, z2, z3⟩ := O5.it
            injection hv' with hv'
            subst hv'
            obtain ⟨G0, m0, rfl, -⟩ := open_rowR z0
            obtain ⟨G1, m1, rfl, -⟩ := open_rowR z1
            obtain ⟨G2, m2, rfl, -⟩ := open_rowR z2
            obtain ⟨G3, m3, rfl, -⟩ := open_rowR z3
            clear z0 z1 z2 z3
            have hC := T5.A.C
            have hX := X5.C
            go_wp2_with fail
            refine (implStateOk_any _ _ d t2 _ ((HP.out.below T5.A.K (Nat.le_refl _)).more T5.A.K.size) O5.st).mono ?_
            rintro e w11 ⟨rfl, hb⟩
            have T6 := T5.step hb
            have X6 := X5.go hb
            have O6 := O5.below hb
            have Y6 := Y5.go hb
            clear hb hC hX T5 X5 O5 Y5
            cases h3 : stOkB d t2
            · have HGF : Hid (goodR d t ⟨κ, ra, rb⟩ = false) := Lib.hid (by rw [← HGD.out]; exact h3)
              replace HE := Lib.hid (HA.out.trans (allS_none (HRS.out HGF.out)))
              have hS := T6.Z.C
              go_wp2_with fail
              refine (ownState_any _ s _ ((HS.out.below T6.A.K (Nat.le_refl _)).more T6.A.K.size)).mono ?_
              rintro e wc ⟨vc, rfl, Oc, hb⟩
              have Tc := T6.step hb
              have hB2 := T6.O.z
              obtain ⟨u0, u1, u2, u3, rfl, z0, z1, z2, z3⟩ := Oc.it
              obtain ⟨D0, h0, rfl, -⟩ := open_rowR z0
              obtain ⟨D1, h1, rfl, -⟩ := open_rowR z1
              obtain ⟨D2, h2, rfl, -⟩ := open_rowR z2
              obtain ⟨D3, h3, rfl, -⟩ := open_rowR z3
              have HOc := Lib.hid Oc
              clear z0 z1 z2 z3 Oc hS
              have hD := Tc.O.C
              have hG := Tc.O.F
              go_wp2
              refine bodyPost_ret (v := .tuple #[.agg (stC D0 D1 D2 D3 s.pods.length h0 s.mnts.length h1 s.devs.length h2 s.lks.length h3 s.ph s.co s.ck s.bo s.ba s.lb s.gd s.pr), .bool false]) ?_ rfl ?_
              · simp [results, Tryz.results22, go_sem, hD]
              · rw [HE.out]
                refine ⟨_, rfl, (HOc.out.keeps (keeps_put12 ..) fun r hr e => by subst e; have := (HOc.out.blocks hr).1; omega).base (by omega), ?_⟩
                iterate 12 (refine Below.setCell ?_ (by simp <;> omega) _)
                exact Tc.A.K
            · have HGF : Hid (goodR d t ⟨κ, ra, rb⟩ = true) := Lib.hid (by rw [← HGD.out]; exact h3)
              have HT3 := Lib.hid (HT2.out h3)
              clear h3
              go_wp2
              exact ⟨⟨k + 1, t2, _, _, _, _, _, _, _, _, by omega, by go_num, ⟨HRN.out HGF.out, HT3.out⟩, T6, X6, O6, Y6⟩, by simp [intOf]; omega⟩
      · obtain rfl : k = l.length := by omega
        have HE := Lib.hid (HA.out.trans (allS_some (d := d) (s := s) (x := t) (l := l) (by have := HRUN.out; rwa [List.take_length] at this)))
        have hX := HX.out.C
        have hD := T.O.C
        have hG := T.O.F
        go_wp2
        refine bodyPost_ret (v := .tuple #[.agg (stC C0 C1 C2 C3 t.pods.length f0 t.mnts.length f1 t.devs.length f2 t.lks.length f3 t.ph t.co t.ck t.bo t.ba t.lb t.gd t.pr), .bool true]) ?_ rfl ?_
        · simp [results, Tryz.results22, go_sem, hD]
        · rw [HE.out]
          refine ⟨_, rfl, (HO.out.keeps (keeps_put12 ..) fun r hr e => by subst e; have := (HO.out.blocks hr).1; omega).base (by omega), ?_⟩
          iterate 12 (refine Below.setCell ?_ (by simp <;> omega) _)
          exact T.A.K
end Go.Proofs.YtdphpjnecjofeaaGreatDoor
/- Uv -/
set_option linter.unusedVariables false
namespace Go.Proofs.YtdphpjnecjofeaaGreatDoor
open Go.RowKit

/-- Four blocks of the call's own. -/
structure Four (w w1 : World) (c0 c1 c2 c3 : Array Value) : Prop where
  P : Own w w1 w.heap.size c0
  S : Own w w1 (w.heap.size + 1) c1
  R : Own w w1 (w.heap.size + 2) c2
  O : Own w w1 (w.heap.size + 3) c3
theorem Four.start (w : World) (c0 c1 c2 c3 : Array Value) (t0 t1 t2 t3 : TypeId) : Four w ((((w.alloc (.cells c0 t0)).alloc (.cells c1 t1)).alloc (.cells c2 t2)).alloc (.cells c3 t3)) c0 c1 c2 c3 := by
  have h0 := Own.box w c0 t0
  have h1 := Own.box2 h0.K c1 t1
  have h2 := Own.box2 h1.K c2 t2
  have h3 := Own.box2 h2.K c3 t3
  simp only [heap_size_alloc_] at h1 h2 h3
  exact ⟨((h0.alloc _).alloc _).alloc _, (h1.alloc _).alloc _, h2.alloc _, h3⟩
theorem Four.step {w w1 w2 : World} {c0 c1 c2 c3 : Array Value} (h : Four w w1 c0 c1 c2 c3) (hb : Below w1.heap.size w1 w2) : Four w w2 c0 c1 c2 c3 := ⟨h.P.step hb, h.S.step hb, h.R.step hb, h.O.step hb⟩

/-- What AppliedRec answers. -/
def Appl2 (w : World) (t : StD × Bool) (e : Ending) (w' : World) : Prop := ∃ v', e = .returned (.tuple #[v', .bool t.2]) ∧ OwnSt w' w.heap.size v' t.1 ∧ Below w.heap.size w w'

end Go.Proofs.YtdphpjnecjofeaaGreatDoor
/- Xk -/
set_option linter.unusedVariables false
namespace Go.Proofs.YtdphpjnecjofeaaGreatDoor
open Go.RowKit

set_option maxRecDepth 4000 in
set_option maxHeartbeats 4000000 in
theorem specAll_any (pv sv rv : Value) (d : PlanD) (s : StD) (l : List RecD) (w : World) (hp : IsPlan w w.heap.size pv d) (hs : IsStR w w.heap.size sv s) (hr : Rt w w.heap.size rv l) :
    Calls Tryz.prog 20 #[pv, sv, rv] w (MadeSB w (appliedL d s l)) := by
  have HP := Lib.hid hp
  have HS := Lib.hid hs
  have HR := Lib.hid hr
  obtain ⟨⟨P0, P1, P2, P3, k0, k1, k2, k3, rfl, -, -, -, -⟩, -, -, -, -⟩ := hp
  obtain ⟨⟨A0, A1, A2, A3, c0, c1, c2, c3, rfl, -, -⟩, -⟩ := hs
  obtain ⟨⟨L0, cl, rfl, -⟩, hlen⟩ := hr
  unfold maxLen at hlen
  have T0 := TP.start w (planC P0 P1 P2 P3 d.n0 k0 d.n1 k1 d.n2 k2 d.n3 k3 d.l d.p d.t) (stC A0 A1 A2 A3 s.pods.length c0 s.mnts.length c1 s.devs.length c2 s.lks.length c3 s.ph s.co s.ck s.bo s.ba s.lb s.gd s.pr) (stC none none none none 0 0 0 0 0 0 0 0 0 false 0 0 0 0 0 0) 47 40 40
  go_enter Tryz.func20, Tryz.ntmps20
  go_wp2_with fail
  refine (specStateOk_any _ _ d s _ ((HP.out.below T0.A.K (Nat.le_refl _)).more T0.A.K.size) ((HS.out.below T0.A.K (Nat.le_refl _)).more T0.A.K.size).is).mono ?_
  rintro e w1 ⟨rfl, hb⟩
  have T1 := T0.step hb
  clear hb T0
  cases hok : stOkB d s
  · have HE := Lib.hid (appliedL_no (l := l) hok)
    clear hok
    have hD := T1.O.C
    have hG := T1.O.F
    go_wp2
    refine bodyPost_ret (v := .tuple #[.agg (stC none none none none 0 0 0 0 0 0 0 0 0 false 0 0 0 0 0 0), .bool false]) ?_ rfl ?_
    · simp [results, Tryz.results20, go_sem, hD]
    · rw [HE.out]
      refine ⟨_, rfl, OwnSt.zero _ _, ?_⟩
      iterate 12 (refine Below.setCell ?_ (by simp <;> omega) _)
      exact T1.A.K
  · have HE := Lib.hid (appliedL_all (l := l) hok)
    have HOK := Lib.hid (stOkB_iff.1 hok)
    clear hok
    have hC := T1.A.C
    have hS := T1.Z.C
    go_wp2_with fail
    obtain ⟨x, b, hxb⟩ : ∃ x b, appliedL d s l = (x, b) := by
      generalize appliedL d s l = q
      exact ⟨q.1, q.2, rfl⟩
    have hall := l6All_any _ _ _ d s l _ ((HP.out.below T1.A.K (Nat.le_refl _)).more T1.A.K.size) ((HS.out.below T1.A.K (Nat.le_refl _)).more T1.A.K.size) ((HR.out.below T1.A.K (Nat.le_refl _)).more T1.A.K.size) HOK.out
    rw [← HE.out, hxb] at hall
    have HXB := Lib.hid hxb
    clear hxb HE
    refine hall.mono ?_
    rintro e wc ⟨vc, h1, Oc, hb⟩
    dsimp only at h1 Oc
    subst h1
    have Tc := T1.step hb
    have hB2 := T1.O.z
    obtain ⟨u0, u1, u2, u3, rfl, z0, z1, z2, z3⟩ := Oc.it
    obtain ⟨D0, h0, rfl, -⟩ := open_rowR z0
    obtain ⟨D1, h1, rfl, -⟩ := open_rowR z1
    obtain ⟨D2, h2, rfl, -⟩ := open_rowR z2
    obtain ⟨D3, h3, rfl, -⟩ := open_rowR z3
    have HOc := Lib.hid Oc
    clear z0 z1 z2 z3 Oc hS hC
    have hD := Tc.O.C
    have hG := Tc.O.F
    go_wp2
    refine bodyPost_ret (v := .tuple #[.agg (stC D0 D1 D2 D3 x.pods.length h0 x.mnts.length h1 x.devs.length h2 x.lks.length h3 x.ph x.co x.ck x.bo x.ba x.lb x.gd x.pr), .bool b]) ?_ rfl ?_
    · simp [results, Tryz.results20, go_sem, hD]
    · rw [HXB.out]
      refine ⟨_, rfl, (HOc.out.keeps (keeps_put12 ..) fun r hr e => by subst e; have := (HOc.out.blocks hr).1; omega).base (by omega), ?_⟩
      iterate 12 (refine Below.setCell ?_ (by simp <;> omega) _)
      exact Tc.A.K

end Go.Proofs.YtdphpjnecjofeaaGreatDoor
/- Ca -/
set_option linter.unusedVariables false
namespace Go.Proofs.YtdphpjnecjofeaaGreatDoor
open Go.ChangeShapes Go.WideShapes Go.ChangeAt Go.RowKit Go.Deep

abbrev namesLaid {H : Type} : DataW H := Rows.laid_loop_example_g00767_impl_kindNames
theorem names_global : Tryz.prog.globalNamed "loop.example/g00767/impl.kindNames" = some 3 := by kernel_rfl
theorem names_type : (Tryz.prog.globals[3]?).map (·.type) = some 200 := by kernel_rfl

set_option maxRecDepth 100000 in
theorem names_of_head {W : World} {r : List (String × DataW Unit)} (h' : laidMet Tryz.prog (("loop.example/g00767/impl.kindNames", namesLaid) :: r) W) : Names W := by
  obtain ⟨ps, ⟨g, t, cs, fuel, p, q, h1, h2, h3, h4, _, _⟩, _, _⟩ := h'
  obtain rfl := Option.some.inj (names_global.symm.trans h1)
  obtain rfl := Option.some.inj (names_type.symm.trans h2)
  obtain ⟨xs, m, rfl, hx, hcl, hxl, hat⟩ := DataW.trod_array Tryz.underlying200 h4
  have hce : Tryz.prog.cellsOf 9 = 1 := by kernel_rfl
  have hc13 : Tryz.prog.cellsOf 200 = 13 := by kernel_rfl
  rw [hc13] at hcl
  have hcell := fun i => World.var?_cell names_global h3 i
  have hsz : cs.size = 13 := by simpa using hcl
  have hlt : 3 < W.heap.size := by
    have h0 := hcell 0
    rw [Array.getElem?_eq_getElem (by omega)] at h0
    exact block_lt_of_cell h0
  refine ⟨hlt, fun i hi => ?_⟩
  rw [hcell i]
  have hi' := hat i hi
  rw [hce, Nat.mul_one] at hi'
  have hone : (cs.toList.drop i).take 1 = [cs[i]'(by omega)] := by
    rw [List.drop_eq_getElem_cons (by simp; omega)]
    simp
  rw [hone] at hi'
  rw [Array.getElem?_eq_getElem (by omega)]
  cases hxi : xs[i]? with
  | none => rw [List.getElem?_eq_none_iff] at hxi; omega
  | some x =>
    rw [hxi] at hi'
    obtain ⟨s, hs, rfl, _⟩ := DataW.trod_string Tryz.underlying9 hi'
    injection hs with hs _
    have hd : (xs.map (·.1))[i]? = some (.lit (.string s.data.toList)) := by simp [hxi]
    have hx1 := congrArg Prod.fst hx
    have hx1 : (namesLaid : DataW Unit) = .agg (xs.map (·.1)) := hx1
    have hx2 : xs.map (·.1) = _ := (DataW.agg.inj hx1).symm
    rw [hx2] at hd
    rw [hs]
    congr 2
    rcases (by omega : i = 0 ∨ i = 1 ∨ i = 2 ∨ i = 3 ∨ i = 4 ∨ i = 5 ∨ i = 6 ∨ i = 7 ∨ i = 8 ∨ i = 9 ∨ i = 10 ∨ i = 11 ∨ i = 12) with rfl | rfl | rfl | rfl | rfl | rfl | rfl | rfl | rfl | rfl | rfl | rfl | rfl
    all_goals
      apply ByteArray.ext
      apply Array.toList_inj.1
      exact (Lit.string.inj (DataW.lit.inj (Option.some.inj hd))).symm

theorem names_of_laid {W : World} (h : laidMetH Tryz.prog [("loop.example/g00767/impl.kindNames", namesLaid)] W) : Names W := by
  have h' : laidMet Tryz.prog [("loop.example/g00767/impl.kindNames", namesLaid)] W := h
  exact names_of_head h'

/-- A world in which the variable lies as it is listed. -/
noncomputable def laidWorld (os : Os) : World :=
  let w0 := World.holding Tryz.prog os ⟨#[], #[], []⟩
  { w0 with heap := w0.heap.modify 3 fun
      | .cells _ t frozen => .cells #[.string (nameOf 0), .string (nameOf 1), .string (nameOf 2), .string (nameOf 3), .string (nameOf 4), .string (nameOf 5), .string (nameOf 6), .string (nameOf 7), .string (nameOf 8), .string (nameOf 9), .string (nameOf 10), .string (nameOf 11), .string (nameOf 12)] t frozen
      | o => o }
theorem laidWorld_met (os : Os) (args : Array Value) : laidMetH Tryz.prog [("loop.example/g00767/impl.kindNames", namesLaid)] ((laidWorld os).forCall (fun _ _ => 0) ⟨#[], args, []⟩).memory :=
  laidMet_of_run' 8 (by kernel_rfl) (by kernel_rfl)
end Go.Proofs.YtdphpjnecjofeaaGreatDoor
/- Cb -/
set_option linter.unusedVariables false
namespace Go.Proofs.YtdphpjnecjofeaaGreatDoor
open Go.ChangeShapes Go.WideShapes Go.ChangeAt Go.RowKit Go.Deep

theorem fields_rec : ∃ fs, Tryz.prog.underlying 34 = some (.struct fs) ∧ oneCellFields Tryz.prog fs = true ∧ Tryz.prog.cellsOf 34 = fs.size ∧ fs.size = 3 ∧
    fs.map (·.type) = #[2, 2, 2] :=
  ⟨_, Tryz.underlying34, by kernel_rfl, by kernel_rfl, by kernel_rfl, by kernel_rfl⟩
set_option maxRecDepth 100000 in
theorem open_rec {H : Type} {enc : TypeId × Value → H} {W : World} {spare : Nat → Bool} {held : Bool} {r : Reach} {b0 : Nat} {v : Value} {d : DataW H} {p : List MemPlace}
    (hv : Value.okWide Tryz.prog W r b0 34 v) (h : DataW.Trod enc Tryz.prog W 0 spare held 34 v d p) : ∃ a b c : Int, v = .agg #[.int .i64 a, .int .i64 b, .int .i64 c] := by
  obtain ⟨fs, hu, hone, hC, h7, hts⟩ := fields_rec
  obtain ⟨cs, rfl, hsz, n, hf⟩ := agg_of_trod hu hone hC hv h
  rw [h7] at hsz
  obtain ⟨f0, j0, t0⟩ := at_of_map hts (j := 0) rfl
  obtain ⟨f1, j1, t1⟩ := at_of_map hts (j := 1) rfl
  obtain ⟨f2, j2, t2⟩ := at_of_map hts (j := 2) rfl
  obtain ⟨y0, h0⟩ := hf 0 f0 j0
  obtain ⟨y1, h1⟩ := hf 1 f1 j1
  obtain ⟨y2, h2⟩ := hf 2 f2 j2
  rw [t0] at h0
  rw [t1] at h1
  rw [t2] at h2
  obtain ⟨a, e0, _, _⟩ := DataW.trod_int Tryz.underlying2 h0
  obtain ⟨b, e1, _, _⟩ := DataW.trod_int Tryz.underlying2 h1
  obtain ⟨c, e2, _, _⟩ := DataW.trod_int Tryz.underlying2 h2
  injection e0 with e0 _
  injection e1 with e1 _
  injection e2 with e2 _
  refine ⟨a, b, c, ?_⟩
  congr 1
  apply Array.ext (by simp [hsz])
  intro i hi _
  match i, hi with
  | 0, _ => exact e0
  | 1, _ => exact e1
  | 2, _ => exact e2
  | k + 3, hi => omega

theorem fs_rec : ∃ fs, Tryz.prog.underlying 34 = some (.struct fs) ∧ oneCellFields Tryz.prog fs = true ∧ intFields Tryz.prog fs = true ∧ fs.size = 3 := ⟨_, Tryz.underlying34, by kernel_rfl, by kernel_rfl, by kernel_rfl⟩
set_option maxRecDepth 100000 in
theorem open_recs {H : Type} {enc : TypeId × Value → H} {W : World} {spare : Nat → Bool} {held : Bool} {r : Reach} {b0 : Nat} {v : Value} {d : DataW H} {p : List MemPlace}
    (hv : Value.okWide Tryz.prog W r b0 57 v) (h : DataW.Trod enc Tryz.prog W 0 spare held 57 v d p) : ∃ A n c X, v = .slice A n c ∧ n ≤ maxLen ∧ Sl W W.heap.size 3 A n X := by
  obtain ⟨ps, ps1, ps2, ps3, ps4⟩ := fs_rec
  obtain ⟨a0, l0, c0, rfl⟩ := okWide_slice Tryz.underlying57 hv
  obtain ⟨fuel, hf⟩ := h
  have hf : DataW.trod enc Tryz.prog W 0 spare held fuel 57 [.slice a0 l0 c0] = some (d, p) := hf
  exact sl_structs Tryz.underlying57 ps1 ps2 ps3 (by kernel_rfl) ps4 (by omega) hf
end Go.Proofs.YtdphpjnecjofeaaGreatDoor
