/-
  A state's rows, apart from a box.
-/
import Derived.Test.YtkefbmbjkijilaaGreatDoorMZ17
import Derived.Test.YtkefbmbjkijilaaGreatDoorMZ13
import Derived.Test.YtkefbmbjkijilaaGreatDoorMZ14
import Derived.Test.YtkefbmbjkijilaaGreatDoorMZxWc
import Derived.Test.YtkefbmbjkijilaaGreatDoorMZ2
import Derived.Test.YtkefbmbjkijilaaGreatDoorMZ1
import Derived.Test.YtkefbmbjkijilaaGreatDoorMZ9
import Derived.Test.YtkefbmbjkijilaaGreatDoorMZ7
import Derived.Test.YtkefbmbjkijilaaGreatDoorMZ6
/- Tl -/
set_option linter.unusedVariables false
namespace Go.Proofs.YtkefbmbjkijilaaGreatDoor
open Go.RowKit

end Go.Proofs.YtkefbmbjkijilaaGreatDoor
/- Xj -/
set_option linter.unusedVariables false
namespace Go.Proofs.YtkefbmbjkijilaaGreatDoor
open Go.RowKit

theorem appliedL_no {d : PlanD} {s : StD} {l : List RecD} (h : stOkB d s = false) : appliedL d s l = (zeroS, false) := by unfold appliedL; rw [h]; rfl
theorem appliedL_all {d : PlanD} {s : StD} {l : List RecD} (h : stOkB d s = true) : appliedL d s l = allS d s l := by unfold appliedL allS; rw [h]; rfl
/-- The table in a box of its own. -/
def BoxT (w : World) (B g : Nat) : Prop := w.ownsRow B 142 13 (.slice (some ⟨g, 0, none⟩) 1 1) 1 chgT.toList
theorem BoxT.new {W : World} {B g : Nat} (hg : W.heap.size = g) (hB : B ≤ W.heap.size) : BoxT (W.alloc (.cells chgT 142)) B g := by
  subst hg
  exact own_of_heap (cur := chgT) (heap_alloc_new W _) (by simp) (by simp) hB (by unfold maxLen; decide)
theorem BoxT.at_ {w : World} {B g : Nat} (h : BoxT w B g) (o : Nat) (ho : o < 13) : w.cell? ⟨g, o, none⟩ = chgT[o]? := by
  rw [World.ownsRow.cellAt h o (by omega), Array.getElem?_toList]
theorem BoxT.go {w w' : World} {B g : Nat} (h : BoxT w B g) (hb : Below w.heap.size w w') : BoxT w' B g := ownsRow_below h hb
theorem BoxT.lt {w : World} {B g : Nat} (h : BoxT w B g) : B ≤ g ∧ g < w.heap.size := World.ownsRow.lt h g rfl
theorem OwnSt.apartT {w : World} {B B' g : Nat} {v : Value} {s : StD} (h : OwnSt w B v s) (hb : BoxT w B' g) : ¬ rowsOf v g := by
  obtain ⟨v0, v1, v2, v3, rfl, h0, h1, h2, h3⟩ := h.it
  rintro ⟨cs, i, u, hv, hc, hu⟩
  injection hv with hv
  subst hv
  match i, hc with
  | 0, hc => cases hc; cases hu
  | 1, hc => cases hc; cases hu
  | 2, hc => cases hc; cases hu
  | 3, hc => cases hc; cases hu
  | 4, hc => cases hc; cases hu
  | 5, hc => cases hc; cases hu
  | 6, hc => cases hc; exact absurd (row_type h0 hb hu rfl) (by decide)
  | 7, hc => cases hc; exact absurd (row_type h1 hb hu rfl) (by decide)
  | 8, hc => cases hc; exact absurd (row_type h2 hb hu rfl) (by decide)
  | 9, hc => cases hc; exact absurd (row_type h3 hb hu rfl) (by decide)
  | 10, hc => cases hc; cases hu
  | 11, hc => cases hc; cases hu
  | k + 12, hc => simp at hc
theorem BoxT.chg {w w' : World} {B B' g γ : Nat} {v : Value} {s : StD} (h : BoxT w B γ) (O : OwnSt w B' v s) (hne : γ ≠ g) (kp : Keeps (fun b => b = g ∨ rowsOf v b) w w') : BoxT w' B γ := ownsRow_keeps h kp fun r hr hs => by
  obtain rfl : γ = r := by simpa [Value.ownBlock] using hr
  rcases hs with h1 | h1
  · exact hne h1
  · exact O.apartT h h1
theorem TP.chg {w w1 w2 : World} {g : Nat} {v : Value} {s : StD} {cs zs os : Array Value} (T : TP w w1 cs zs os) (O : OwnSt w1 (w.heap.size + 1 + 1 + 1) v s) (hg : w.heap.size + 1 + 1 + 1 ≤ g) (kp : Keeps (fun b => b = g ∨ rowsOf v b) w1 w2) : TP w w2 cs zs os := by
  have hb : ∀ b, b = g ∨ rowsOf v b → w.heap.size + 1 + 1 + 1 ≤ b := fun b hb => by
    rcases hb with rfl | hb
    · exact hg
    · exact (O.blocks hb).1
  exact ⟨T.A.keeps kp (fun b h => by have := hb b h; omega) (fun h => by have := hb _ h; omega), T.Z.keeps kp (fun b h => by have := hb b h; omega) (fun h => by have := hb _ h; omega), T.O.keeps kp (fun b h => by have := hb b h; omega) (fun h => by have := hb _ h; omega)⟩

set_option maxRecDepth 4000 in
set_option maxHeartbeats 16000000 in
theorem implAll_any (pv sv rv : Value) (d : PlanD) (s : StD) (l : List RecD) (w : World) (hp : IsPlan w w.heap.size pv d) (hs : IsStR w w.heap.size sv s) (hr : Rt w w.heap.size rv l) (N : Names w) :
    Calls Tryz.prog 56 #[pv, sv, rv] w (MadeSB w (appliedL d s l)) := by
  have HP := Lib.hid hp
  have HS := Lib.hid hs
  have HR := Lib.hid hr
  have HN := Lib.hid N
  obtain ⟨⟨P0, P1, P2, P3, k0, k1, k2, k3, rfl, -, -, -, -⟩, -, -, -, -⟩ := hp
  obtain ⟨⟨A0, A1, A2, A3, c0, c1, c2, c3, rfl, -, -⟩, -⟩ := hs
  obtain ⟨⟨L0, cl, rfl, -⟩, hlen⟩ := hr
  clear N
  unfold maxLen at hlen
  have T0 := TP.start w (planC P0 P1 P2 P3 d.n0 k0 d.n1 k1 d.n2 k2 d.n3 k3 d.l d.p d.t) (stC A0 A1 A2 A3 s.pods.length c0 s.mnts.length c1 s.devs.length c2 s.lks.length c3 s.ph s.co s.ck s.bo s.ba s.lb s.gd s.pr) (stC none none none none 0 0 0 0 0 0 0 0 0 false 0 0 0 0 0 0) 42 46 46
  go_enter Tryz.func56, Tryz.ntmps56
  go_wp2_with fail
  refine (implStateOk_any _ _ d s _ ((HP.out.below T0.A.K (Nat.le_refl _)).more T0.A.K.size) ((HS.out.below T0.A.K (Nat.le_refl _)).more T0.A.K.size).is).mono ?_
  rintro e w1 ⟨rfl, hb⟩
  have T1 := T0.step hb
  clear hb T0
  cases hok : stOkB d s
  · have HE := Lib.hid (appliedL_no (l := l) hok)
    clear hok
    have hD := T1.O.C
    have hG := T1.O.F
    go_wp2
    refine bodyPost_ret (v := .tuple #[.agg (stC none none none none 0 0 0 0 0 0 0 0 0 false 0 0 0 0 0 0), .bool false]) ?_ rfl ?_
    · simp [results, Tryz.results56, go_sem, hD]
    · rw [HE.out]
      refine ⟨_, rfl, OwnSt.zero _ _, ?_⟩
      iterate 12 (refine Below.setCell ?_ (by simp <;> omega) _)
      exact T1.A.K
  · have HA := Lib.hid (appliedL_all (l := l) hok)
    have HOK := Lib.hid (stOkB_iff.1 hok)
    clear hok
    have hS := T1.Z.C
    go_wp2_with fail
    refine (ownState_any _ s _ ((HS.out.below T1.A.K (Nat.le_refl _)).more T1.A.K.size)).mono ?_
    rintro e w2 ⟨v1, rfl, O1, hb⟩
    have T2 := T1.step hb
    have hβ : w.heap.size + 1 + 1 + 1 ≤ w1.heap.size := T1.O.z
    replace O1 := O1.base hβ
    obtain ⟨u0, u1, u2, u3, rfl, z0, z1, z2, z3⟩ := O1.it
    obtain ⟨B0, e0, rfl, -⟩ := open_rowR z0
    obtain ⟨B1, e1, rfl, -⟩ := open_rowR z1
    obtain ⟨B2, e2, rfl, -⟩ := open_rowR z2
    obtain ⟨B3, e3, rfl, -⟩ := open_rowR z3
    clear z0 z1 z2 z3 T1 hS hb hβ
    go_wp2_with fail
    refine (kindChanges_any _).mono ?_
    rintro e w3 ⟨rfl, hb⟩
    have T3 := T2.step hb
    have O3 := O1.below hb
    clear T2 O1 hb
    have hw3 : w.heap.size + 1 + 1 + 1 ≤ w3.heap.size := T3.O.z
    go_wp2_with fail
    have hb : Below w3.heap.size w3 (w3.alloc (.cells (stC B0 B1 B2 B3 s.pods.length e0 s.mnts.length e1 s.devs.length e2 s.lks.length e3 s.ph s.co s.ck s.bo s.ba s.lb s.gd s.pr) 46)) := (Below.refl _ _).alloc (Nat.le_refl _) _
    have T4 := T3.step hb
    have O4 := O3.below hb
    have X4 : BoxS (w3.alloc (.cells (stC B0 B1 B2 B3 s.pods.length e0 s.mnts.length e1 s.devs.length e2 s.lks.length e3 s.ph s.co s.ck s.bo s.ba s.lb s.gd s.pr) 46)) (w.heap.size + 1 + 1 + 1) w3.heap.size (stC B0 B1 B2 B3 s.pods.length e0 s.mnts.length e1 s.devs.length e2 s.lks.length e3 s.ph s.co s.ck s.bo s.ba s.lb s.gd s.pr).toList := BoxS.new rfl hw3 rfl
    clear T3 O3 hb
    have hb : Below (w3.alloc (.cells (stC B0 B1 B2 B3 s.pods.length e0 s.mnts.length e1 s.devs.length e2 s.lks.length e3 s.ph s.co s.ck s.bo s.ba s.lb s.gd s.pr) 46)).heap.size (w3.alloc (.cells (stC B0 B1 B2 B3 s.pods.length e0 s.mnts.length e1 s.devs.length e2 s.lks.length e3 s.ph s.co s.ck s.bo s.ba s.lb s.gd s.pr) 46)) ((w3.alloc (.cells (stC B0 B1 B2 B3 s.pods.length e0 s.mnts.length e1 s.devs.length e2 s.lks.length e3 s.ph s.co s.ck s.bo s.ba s.lb s.gd s.pr) 46)).alloc (.cells chgT 142)) := (Below.refl _ _).alloc (Nat.le_refl _) _
    have T5 := T4.step hb
    have O5 := O4.below hb
    have X5 := X4.go hb
    have Y5 : BoxT ((w3.alloc (.cells (stC B0 B1 B2 B3 s.pods.length e0 s.mnts.length e1 s.devs.length e2 s.lks.length e3 s.ph s.co s.ck s.bo s.ba s.lb s.gd s.pr) 46)).alloc (.cells chgT 142)) (w.heap.size + 1 + 1 + 1) (w3.heap.size + 1) := BoxT.new (by simp) (by simp; omega)
    clear T4 O4 X4 hb
    generalize (w3.alloc (.cells (stC B0 B1 B2 B3 s.pods.length e0 s.mnts.length e1 s.devs.length e2 s.lks.length e3 s.ph s.co s.ck s.bo s.ba s.lb s.gd s.pr) 46)).alloc (.cells chgT 142) = w5 at T5 O5 X5 Y5 ⊢
    obtain ⟨γ, hγ⟩ : ∃ γ, w3.heap.size + 1 = γ := ⟨_, rfl⟩
    rw [hγ] at Y5 ⊢
    have hne : γ ≠ w3.heap.size := by omega
    clear hγ
    generalize w3.heap.size = g at X5 hw3 hne ⊢
    go_loopw [22] (fun i wr => ∃ (k : Nat) (t : StD) (C0 C1 C2 C3 : Option Addr) (f0 f1 f2 f3 : Nat), k ≤ l.length ∧ i = .int .i64 k ∧ (runR d s (l.take k) = some t ∧ StOk d t) ∧ TP w wr (planC P0 P1 P2 P3 d.n0 k0 d.n1 k1 d.n2 k2 d.n3 k3 d.l d.p d.t) (stC A0 A1 A2 A3 s.pods.length c0 s.mnts.length c1 s.devs.length c2 s.lks.length c3 s.ph s.co s.ck s.bo s.ba s.lb s.gd s.pr) (stC none none none none 0 0 0 0 0 0 0 0 0 false 0 0 0 0 0 0) ∧
      BoxS wr (w.heap.size + 1 + 1 + 1) g (stC C0 C1 C2 C3 t.pods.length f0 t.mnts.length f1 t.devs.length f2 t.lks.length f3 t.ph t.co t.ck t.bo t.ba t.lb t.gd t.pr).toList ∧ OwnSt wr (w.heap.size + 1 + 1 + 1) (.agg (stC C0 C1 C2 C3 t.pods.length f0 t.mnts.length f1 t.devs.length f2 t.lks.length f3 t.ph t.co t.ck t.bo t.ba t.lb t.gd t.pr)) t ∧ BoxT wr (w.heap.size + 1 + 1 + 1) γ) (fun i _ => l.length - (intOf i).toNat)
    case atStart => exact ⟨0, s, _, _, _, _, _, _, _, _, Nat.zero_le _, rfl, ⟨rfl, HOK.out⟩, T5, X5, O5, Y5⟩
    case round =>
      clear T5 O5 X5 Y5
      obtain ⟨k, t, C0, C1, C2, C3, f0, f1, f2, f3, hk, rfl, ⟨hrun, hok⟩, T, X, O, Y⟩ := hrel
      have HRUN := Lib.hid hrun
      have HT := Lib.hid hok
      have HX := Lib.hid X
      have HO := Lib.hid O
      have HY := Lib.hid Y
      clear hrun hok X O Y
      by_cases hlt : k < l.length
      · obtain ⟨b, off, rfl, hbb, r0, r1, r2⟩ := (HR.out.below T.A.K (Nat.le_refl _)).cell hlt
        have HRS := Lib.hid (fun hg => run_stop hlt HRUN.out hg)
        have HRN := Lib.hid (fun hg => run_next hlt HRUN.out hg)
        generalize recAt l k = r at r0 r1 r2 HRS HRN
        obtain ⟨rk, ra, rb⟩ := r
        dsimp only at r0 r1 r2
        have HE := Lib.hid (rfl : True = True)
        have hbr : b < wr.heap.size := Nat.lt_of_lt_of_le hbb T.A.K.size
        go_wp2_with fail
        have hb : Below wr.heap.size wr (wr.alloc (.cells #[.int .i64 rk, .int .i64 ra, .int .i64 rb] 96)) := (Below.refl _ _).alloc (Nat.le_refl _) _
        have T1 := T.step hb
        have X1 := HX.out.go hb
        have O1 := HO.out.below hb
        have Y1 := HY.out.go hb
        have R1 := Own.box wr #[.int .i64 rk, .int .i64 ra, .int .i64 rb] 96
        clear hb r0 r1 r2 hbr T HX HO HY
        generalize wr.alloc (.cells #[.int .i64 rk, .int .i64 ra, .int .i64 rb] 96) = w6 at T1 X1 O1 Y1 R1 ⊢
        refine (recOk_any ⟨rk, ra, rb⟩ _ (HN.out.go T1.A.K)).mono ?_
        rintro e w7 ⟨rfl, hb⟩
        have T2 := T1.step hb
        have X2 := X1.go hb
        have O2 := O1.below hb
        have Y2 := Y1.go hb
        have R2 := R1.step hb
        clear hb T1 X1 O1 Y1 R1
        cases h1 : recOkB ⟨rk, ra, rb⟩
        · replace HE := Lib.hid (HA.out.trans (allS_none (HRS.out (by simp [goodR, h1]))))
          have hS := T2.Z.C
          go_wp2_with fail
          refine (ownState_any _ s _ ((HS.out.below T2.A.K (Nat.le_refl _)).more T2.A.K.size)).mono ?_
          rintro e wc ⟨vc, rfl, Oc, hb⟩
          have Tc := T2.step hb
          have hB2 := T2.O.z
          obtain ⟨u0, u1, u2, u3, rfl, z0, z1, z2, z3⟩ := Oc.it
          obtain ⟨D0, h0, rfl, -⟩ := open_rowR z0
          obtain ⟨D1, h1, rfl, -⟩ := open_rowR z1
          obtain ⟨D2, h2, rfl, -⟩ := open_rowR z2
          obtain ⟨D3, h3, rfl, -⟩ := open_rowR z3
          have HOc := Lib.hid Oc
          clear z0 z1 z2 z3 Oc hS
          have hD := Tc.O.C
          have hG := Tc.O.F
          go_wp2
          refine bodyPost_ret (v := .tuple #[.agg (stC D0 D1 D2 D3 s.pods.length h0 s.mnts.length h1 s.devs.length h2 s.lks.length h3 s.ph s.co s.ck s.bo s.ba s.lb s.gd s.pr), .bool false]) ?_ rfl ?_
          · simp [results, Tryz.results56, go_sem, hD]
          · rw [HE.out]
            refine ⟨_, rfl, (HOc.out.keeps (keeps_put12 ..) fun r hr e => by subst e; have := (HOc.out.blocks hr).1; omega).base (by omega), ?_⟩
            iterate 12 (refine Below.setCell ?_ (by simp <;> omega) _)
            exact Tc.A.K
        · have ha0 : 0 ≤ ra := (recOkB_true.1 h1).2.1.1
          have hX := X2.C
          have hR := R2.C
          go_wp2_with fail
          refine (isThere_any _ t ⟨rk, ra, rb⟩ _ O2.st ha0).mono ?_
          rintro e w8 ⟨rfl, hb⟩
          have T3 := T2.step hb
          have X3 := X2.go hb
          have O3 := O2.below hb
          have Y3 := Y2.go hb
          have R3 := R2.step hb
          clear hb T2 X2 O2 Y2 R2 hX hR
          cases h2 : thereB t ⟨rk, ra, rb⟩
          · replace HE := Lib.hid (HA.out.trans (allS_none (HRS.out (by simp [goodR, h1, h2]))))
            have hS := T3.Z.C
            go_wp2_with fail
            refine (ownState_any _ s _ ((HS.out.below T3.A.K (Nat.le_refl _)).more T3.A.K.size)).mono ?_
            rintro e wc ⟨vc, rfl, Oc, hb⟩
            have Tc := T3.step hb
            have hB2 := T3.O.z
            obtain ⟨u0, u1, u2, u3, rfl, z0, z1, z2, z3⟩ := Oc.it
            obtain ⟨D0, h0, rfl, -⟩ := open_rowR z0
            obtain ⟨D1, h1, rfl, -⟩ := open_rowR z1
            obtain ⟨D2, h2, rfl, -⟩ := open_rowR z2
            obtain ⟨D3, h3, rfl, -⟩ := open_rowR z3
            have HOc := Lib.hid Oc
            clear z0 z1 z2 z3 Oc hS
            have hD := Tc.O.C
            have hG := Tc.O.F
            go_wp2
            refine bodyPost_ret (v := .tuple #[.agg (stC D0 D1 D2 D3 s.pods.length h0 s.mnts.length h1 s.devs.length h2 s.lks.length h3 s.ph s.co s.ck s.bo s.ba s.lb s.gd s.pr), .bool false]) ?_ rfl ?_
            · simp [results, Tryz.results56, go_sem, hD]
            · rw [HE.out]
              refine ⟨_, rfl, (HOc.out.keeps (keeps_put12 ..) fun r hr e => by subst e; have := (HOc.out.blocks hr).1; omega).base (by omega), ?_⟩
              iterate 12 (refine Below.setCell ?_ (by simp <;> omega) _)
              exact Tc.A.K
          · have hkb := (recOkB_true.1 h1).1
            dsimp only at hkb
            obtain ⟨κ, rfl⟩ := Int.eq_ofNat_of_zero_le (show 0 ≤ rk by omega)
            obtain ⟨f, hfT, hent, hcall⟩ := change_at t ⟨κ, ra, rb⟩ h1 h2 HT.out.rise (fits_ok HT.out).f3
            have hk13 : κ < 13 := by omega
            have hkz : (κ : Int) < 13 := by omega
            have hft : w8.cell? ⟨γ, κ, none⟩ = some (.func (.func f) #[] #[]) := (Y3.at_ _ hk13).trans hfT
            have HC := Lib.hid hcall
            have hD : Below w8.heap.size w8 w8.drew := (Below.refl _ _).drew
            have hR := R3.C
            have T4 := T3.step hD
            have X4 := X3.go hD
            have O4 := O3.below hD
            have Y4 := Y3.go hD
            clear hfT hcall hkb
            go_wp2_with fail
            go_still_tail 8, (by kernel_rfl)
            change wpList _ _ _ _ _ w8.drew
            generalize w8.drew = w9 at T4 X4 O4 Y4 ⊢
            clear T3 X3 O3 Y3 R3 hR hft hD
            go_wp2_with fail
            refine (HC.out _ _ (w.heap.size + 1 + 1 + 1) g (by have := T4.O.z; omega) ⟨O4, _, rfl, X4⟩).mono ?_
            rintro e w10 ⟨rfl, ⟨v', O5, cs', hv', X5⟩, kp⟩
            have T5 := T4.chg O4 X4.lt.1 kp
            have Y5 := Y4.chg O4 hne kp
            clear T4 X4 O4 Y4 kp HC
            have HT2 : Hid (stOkB d (applyR t ⟨κ, ra, rb⟩) = true → StOk d (applyR t ⟨κ, ra, rb⟩)) := Lib.hid fun h => stOkB_iff.1 h
            have HGD : Hid (stOkB d (applyR t ⟨κ, ra, rb⟩) = goodR d t ⟨κ, ra, rb⟩) := Lib.hid (by simp [goodR, h1, h2])
            generalize applyR t ⟨κ, ra, rb⟩ = t2 at O5 HRN HT2 HGD
            obtain ⟨u0, u1, u2, u3, rfl, z0, z1, z2, z3⟩ := O5.it
            injection hv' with hv'
            subst hv'
            obtain ⟨G0, m0, rfl, -⟩ := open_rowR z0
            obtain ⟨G1, m1, rfl, -⟩ := open_rowR z1
            obtain ⟨G2, m2, rfl, -⟩ := open_rowR z2
            obtain ⟨G3, m3, rfl, -⟩ := open_rowR z3
            clear z0 z1 z2 z3
            have hC := T5.A.C
            have hX := X5.C
            go_wp2_with fail
            refine (implStateOk_any _ _ d t2 _ ((HP.out.below T5.A.K (Nat.le_refl _)).more T5.A.K.size) O5.st).mono ?_
            rintro e w11 ⟨rfl, hb⟩
            have T6 := T5.step hb
            have X6 := X5.go hb
            have O6 := O5.below hb
            have Y6 := Y5.go hb
            clear hb hC hX T5 X5 O5 Y5
            cases h3 : stOkB d t2
            · have HGF : Hid (goodR d t ⟨κ, ra, rb⟩ = false) := Lib.hid (by rw [← HGD.out]; exact h3)
              replace HE := Lib.hid (HA.out.trans (allS_none (HRS.out HGF.out)))
              have hS := T6.Z.C
              go_wp2_with fail
              refine (ownState_any _ s _ ((HS.out.below T6.A.K (Nat.le_refl _)).more T6.A.K.size)).mono ?_
              rintro e wc ⟨vc, rfl, Oc, hb⟩
              have Tc := T6.step hb
              have hB2 := T6.O.z
              obtain ⟨u0, u1, u2, u3, rfl, z0, z1, z2, z3⟩ := Oc.it
              obtain ⟨D0, h0, rfl, -⟩ := open_rowR z0
              obtain ⟨D1, h1, rfl, -⟩ := open_rowR z1
              obtain ⟨D2, h2, rfl, -⟩ := open_rowR z2
              obtain ⟨D3, h3, rfl, -⟩ := open_rowR z3
              have HOc := Lib.hid Oc
              clear z0 z1 z2 z3 Oc hS
              have hD := Tc.O.C
              have hG := Tc.O.F
              go_wp2
              refine bodyPost_ret (v := .tuple #[.agg (stC D0 D1 D2 D3 s.pods.length h0 s.mnts.length h1 s.devs.length h2 s.lks.length h3 s.ph s.co s.ck s.bo s.ba s.lb s.gd s.pr), .bool false]) ?_ rfl ?_
              · simp [results, Tryz.results56, go_sem, hD]
              · rw [HE.out]
                refine ⟨_, rfl, (HOc.out.keeps (keeps_put12 ..) fun r hr e => by subst e; have := (HOc.out.blocks hr).1; omega).base (by omega), ?_⟩
                iterate 12 (refine Below.setCell ?_ (by simp <;> omega) _)
                exact Tc.A.K
            · have HGF : Hid (goodR d t ⟨κ, ra, rb⟩ = true) := Lib.hid (by rw [← HGD.out]; exact h3)
              have HT3 := Lib.hid (HT2.out h3)
              clear h3
              go_wp2
              exact ⟨⟨k + 1, t2, _, _, _, _, _, _, _, _, by omega, by go_num, ⟨HRN.out HGF.out, HT3.out⟩, T6, X6, O6, Y6⟩, by simp [intOf]; omega⟩
      · obtain rfl : k = l.length := by omega
        have HE := Lib.hid (HA.out.trans (allS_some (d := d) (s := s) (x := t) (l := l) (by have := HRUN.out; rwa [List.take_length] at this)))
        have hX := HX.out.C
        have hD := T.O.C
        have hG := T.O.F
        go_wp2
        refine bodyPost_ret (v := .tuple #[.agg (stC C0 C1 C2 C3 t.pods.length f0 t.mnts.length f1 t.devs.length f2 t.lks.length f3 t.ph t.co t.ck t.bo t.ba t.lb t.gd t.pr), .bool true]) ?_ rfl ?_
        · simp [results, Tryz.results56, go_sem, hD]
        · rw [HE.out]
          refine ⟨_, rfl, (HO.out.keeps (keeps_put12 ..) fun r hr e => by subst e; have := (HO.out.blocks hr).1; omega).base (by omega), ?_⟩
          iterate 12 (refine Below.setCell ?_ (by simp <;> omega) _)
          exact T.A.K
end Go.Proofs.YtkefbmbjkijilaaGreatDoor
/- Ya -/
set_option linter.unusedVariables false
namespace Go.Proofs.YtkefbmbjkijilaaGreatDoor
open Go.RowKit

set_option maxRecDepth 100000 in
set_option maxHeartbeats 2000000 in
theorem markPlan_num (d : PlanD) (g0 g1 g2 g3 : Nat) (w0 w : World) (h : NewPlan w0 w d g0 g1 g2 g3) (h0 : d.n0 ≤ 1048576) (h1 : d.n1 ≤ 1048576) (h2 : d.n2 ≤ 1048576) (h3 : d.n3 ≤ 1048576) :
    Calls Tryz.prog 16 #[newPlanV d g0 g1 g2 g3, .int .i64 1] w fun e w' => e = .returned (.int .i64 (1 + 4 * d.n0 + d.n1 + 2 * d.n2 + d.n3)) ∧ Keeps (fun b => g0 ≤ b ∧ b ≤ g3) w w' := by
  obtain ⟨l0, l1, l2, l3, l4, R0, R1, R2, R3⟩ := h
  obtain ⟨n0, n1, n2, n3, x0, x1, x2, x3, l, p, t⟩ := d
  dsimp only at *
  have H0 := Lib.hid h0
  have H1 := Lib.hid h1
  have H2 := Lib.hid h2
  have H3 := Lib.hid h3
  clear h0 h1 h2 h3
  have b0 : (n0 : Int) ≤ 1048576 := by have := H0.out; omega
  have b1 : (n1 : Int) ≤ 1048576 := by have := H1.out; omega
  have b2 : (n2 : Int) ≤ 1048576 := by have := H2.out; omega
  have b3 : (n3 : Int) ≤ 1048576 := by have := H3.out; omega
  go_enter Tryz.func16, Tryz.ntmps16
  go_wp2_with fail
  have X := cell_new w (planC (some ⟨g0, 0, none⟩) (some ⟨g1, 0, none⟩) (some ⟨g2, 0, none⟩) (some ⟨g3, 0, none⟩) n0 n0 n1 n1 n2 n2 n3 n3 l p t) 42
  have A1 := (Below.refl w.heap.size w).alloc (Nat.le_refl _) (.cells (planC (some ⟨g0, 0, none⟩) (some ⟨g1, 0, none⟩) (some ⟨g2, 0, none⟩) (some ⟨g3, 0, none⟩) n0 n0 n1 n1 n2 n2 n3 n3 l p t) 42)
  have K1 : Keeps (fun b => g0 ≤ b ∧ b ≤ g3) w _ := Keeps.of_below A1
  have R0 := R0.below A1 (by omega)
  have R1 := R1.below A1 (by omega)
  have R2 := R2.below A1 (by omega)
  have R3 := R3.below A1 (by omega)
  have z1 : w.heap.size < (w.alloc (.cells (planC (some ⟨g0, 0, none⟩) (some ⟨g1, 0, none⟩) (some ⟨g2, 0, none⟩) (some ⟨g3, 0, none⟩) n0 n0 n1 n1 n2 n2 n3 n3 l p t) 42)).heap.size := by simp
  refine (markPodS_any _ n0 _ g0 _ x0 _ (fun _ => rfl) R0 H0.out (by omega) (by omega)).mono ?_
  rintro e w2 ⟨rfl, k⟩
  have hC2 : ∀ o, w2.cell? ⟨w.heap.size, o, none⟩ = _ := fun o => (k.cell (p := ⟨w.heap.size, o, none⟩) z1 (by show ¬ w.heap.size = g0; omega)).trans (X o)
  have R1 := R1.keeps k (by omega) (by omega)
  have R2 := R2.keeps k (by omega) (by omega)
  have R3 := R3.keeps k (by omega) (by omega)
  have K2 := K1.trans (k.mono (T := fun b => g0 ≤ b ∧ b ≤ g3) (by rintro b rfl; omega))
  have z2 := Nat.lt_of_lt_of_le z1 k.size
  clear X A1 K1 R0 z1 k
  go_wp2_with fail
  refine (markInt64S_any _ n1 _ g1 _ x1 _ (fun _ => rfl) R1 H1.out (by omega) (by omega)).mono ?_
  rintro e w3 ⟨rfl, -, k⟩
  have hC3 : ∀ o, w3.cell? ⟨w.heap.size, o, none⟩ = _ := fun o => (k.cell (p := ⟨w.heap.size, o, none⟩) z2 (by show ¬ w.heap.size = g1; omega)).trans (hC2 o)
  have R2 := R2.keeps k (by omega) (by omega)
  have R3 := R3.keeps k (by omega) (by omega)
  have K3 := K2.trans (k.mono (T := fun b => g0 ≤ b ∧ b ≤ g3) (by rintro b rfl; omega))
  have z3 := Nat.lt_of_lt_of_le z2 k.size
  clear hC2 K2 R1 z2 k
  go_wp2_with fail
  refine (markMountS_any _ n2 _ g2 _ x2 _ (fun _ => rfl) R2 H2.out (by omega) (by omega)).mono ?_
  rintro e w4 ⟨rfl, k⟩
  have hC4 : ∀ o, w4.cell? ⟨w.heap.size, o, none⟩ = _ := fun o => (k.cell (p := ⟨w.heap.size, o, none⟩) z3 (by show ¬ w.heap.size = g2; omega)).trans (hC3 o)
  have R3 := R3.keeps k (by omega) (by omega)
  have K4 := K3.trans (k.mono (T := fun b => g0 ≤ b ∧ b ≤ g3) (by rintro b rfl; omega))
  have z4 := Nat.lt_of_lt_of_le z3 k.size
  clear hC3 K3 R2 z3 k
  go_wp2_with fail
  refine (markDeviceS_any _ n3 _ g3 _ x3 _ (fun _ => rfl) R3 H3.out (by omega) (by omega)).mono ?_
  rintro e w5 ⟨rfl, k⟩
  have K5 := K4.trans (k.mono (T := fun b => g0 ≤ b ∧ b ≤ g3) (by rintro b rfl; omega))
  clear hC4 K4 R3 z4 k
  go_wp2_with fail
  go_ret
  exact ⟨ret_int (by omega), K5⟩
theorem calls_at {P : Program} {f : FuncId} {args : Array Value} {Q : Ending → World → Prop} {W : World} (R : World → Prop) (h : R W) (k : ∀ W', R W' → Calls P f args W' Q) : Calls P f args W Q := k W h
theorem appliedL_fitsY {d : PlanD} {s : StD} {l : List RecD} (hf : StFits s 1048576) : StFits (appliedL d s l).1 1048576 := by
  unfold appliedL
  split
  · rename_i hok
    split
    · rename_i x hx
      exact fits_ok (runR_ok (stOkB_iff.1 hok) hx)
    · exact hf
  · exact ⟨by simp [zeroS], by simp [zeroS], by simp [zeroS], by simp [zeroS]⟩
theorem NewSt.rowsIn {w w' : World} {s : StD} {g0 g1 g2 g3 : Nat} (h : NewSt w w' s g0 g1 g2 g3) : RowsIn w' (newStV s g0 g1 g2 g3) s w.heap.size w'.heap.size := by
  have R := h.rows
  obtain ⟨l0, l1, l2, l3, l4, R0, R1, R2, R3⟩ := h
  exact ⟨g0, g1, g2, g3, R, ⟨l0, by omega, by omega, by omega⟩, fun _ => by omega, fun _ => by omega, fun _ => by omega, fun _ => by omega⟩
theorem BoxS.own {w W : World} {B g : Nat} {cs : Array Value} (h : BoxS W B g cs.toList) (K : Below w.heap.size w W) : Own w W g cs := ⟨K, h.lt.2, h.C, fun o => h.frozen o⟩
/-- A row in a block of the heap. -/
structure RowB (w : World) (g N : Nat) (x : Nat → Int) : Prop where
  R : RowF w g N x
  z : g < w.heap.size
theorem RowB.go {w w' : World} {g N : Nat} {x : Nat → Int} (h : RowB w g N x) (hb : Below w.heap.size w w') : RowB w' g N x := ⟨h.R.below hb h.z, Nat.lt_of_lt_of_le h.z hb.size⟩
theorem RowB.keeps {S : Nat → Prop} {w w' : World} {g N : Nat} {x : Nat → Int} (h : RowB w g N x) (k : Keeps S w w') (hn : ¬ S g) : RowB w' g N x := ⟨h.R.keeps k h.z hn, Nat.lt_of_lt_of_le h.z k.size⟩
theorem Two.keeps {S : Nat → Prop} {w w1 w2 : World} {cs os : Array Value} (h : Two w w1 cs os) (k : Keeps S w1 w2) (hS : ∀ b, S b → w.heap.size + 1 < b) : Two w w2 cs os :=
  ⟨h.A.keeps k (fun b hb => by have := hS b hb; omega) (fun hb => by have := hS _ hb; omega), h.O.keeps k (fun b hb => by have := hS b hb; omega) (fun hb => by have := hS _ hb; omega)⟩
theorem tot_half {s : StD} {m : Int} (h : (s.pods.length + s.mnts.length + s.devs.length + s.lks.length : Nat) ≤ m) : (totS s : Int) ≤ 2 * m := by unfold totS; omega
end Go.Proofs.YtkefbmbjkijilaaGreatDoor
/- Yc -/
set_option linter.unusedVariables false
namespace Go.Proofs.YtkefbmbjkijilaaGreatDoor
open Go.RowKit

theorem TP.keeps {S : Nat → Prop} {w w1 w2 : World} {cs zs os : Array Value} (h : TP w w1 cs zs os) (k : Keeps S w1 w2) (hS : ∀ b, S b → w.heap.size + 1 + 1 < b) : TP w w2 cs zs os :=
  ⟨h.A.keeps k (fun b hb => by have := hS b hb; omega) (fun hb => by have := hS _ hb; omega), h.Z.keeps k (fun b hb => by have := hS b hb; omega) (fun hb => by have := hS _ hb; omega), h.O.keeps k (fun b hb => by have := hS b hb; omega) (fun hb => by have := hS _ hb; omega)⟩
/-- A state whose lists, where they hold something, lie in blocks of R. -/
structure RowsR (w : World) (v : Value) (s : StD) (R : Nat → Prop) : Prop where
  it : ∃ g0 g1 g2 g3, Rows4 w v s g0 g1 g2 g3 ∧ (0 < s.pods.length → R g0) ∧ (0 < s.mnts.length → R g1) ∧ (0 < s.devs.length → R g2) ∧ (0 < s.lks.length → R g3)
theorem RowsR.of {w : World} {B B' q : Nat} {v : Value} {s : StD} {xs : List Value} (h : OwnSt w B v s) (hb : BoxS w B' q xs) (hB : B ≤ w.heap.size) : RowsR w v s (fun b => B ≤ b ∧ b < w.heap.size ∧ b ≠ q) := by
  obtain ⟨g0, g1, g2, g3, R, b0, b1, b2, b3⟩ := h.rows hB
  have hq := h.apart hb
  obtain ⟨A0, A1, A2, A3, c0, c1, c2, c3, hv, a0, a1, a2, a3⟩ := R.val
  exact ⟨g0, g1, g2, g3, R, fun hn => ⟨b0, R.z0 hn, fun e => hq ⟨_, 6, _, hv, rfl, by rw [a0 hn, e]; rfl⟩⟩, fun hn => ⟨b1, R.z1 hn, fun e => hq ⟨_, 7, _, hv, rfl, by rw [a1 hn, e]; rfl⟩⟩,
    fun hn => ⟨b2, R.z2 hn, fun e => hq ⟨_, 8, _, hv, rfl, by rw [a2 hn, e]; rfl⟩⟩, fun hn => ⟨b3, R.z3 hn, fun e => hq ⟨_, 9, _, hv, rfl, by rw [a3 hn, e]; rfl⟩⟩⟩
theorem RowsR.go {w w' : World} {R : Nat → Prop} {v : Value} {s : StD} (h : RowsR w v s R) (hb : Below w.heap.size w w') : RowsR w' v s R := by
  obtain ⟨g0, g1, g2, g3, r, es⟩ := h.it
  exact ⟨g0, g1, g2, g3, r.go hb, es⟩
theorem RowsR.is {w : World} {R : Nat → Prop} {v : Value} {s : StD} (h : RowsR w v s R) (hf : StFits s 1048576) : IsSt w w.heap.size v s := by
  obtain ⟨g0, g1, g2, g3, r, -⟩ := h.it
  exact r.is hf
theorem RowsR.keeps {S R : Nat → Prop} {w w' : World} {v : Value} {s : StD} (h : RowsR w v s R) (k : Keeps S w w') (hS : ∀ b, R b → ¬ S b) : RowsR w' v s R := by
  obtain ⟨g0, g1, g2, g3, r, e0, e1, e2, e3⟩ := h.it
  exact ⟨g0, g1, g2, g3, r.keeps k (fun h => hS _ (e0 h)) (fun h => hS _ (e1 h)) (fun h => hS _ (e2 h)) (fun h => hS _ (e3 h)), e0, e1, e2, e3⟩
/-- The same rows, those that hold nothing named by numbers behind the heap. -/
theorem RowsR.apart {w : World} {P : Nat → Prop} {v : Value} {s : StD} (h : RowsR w v s P) : ∃ g0 g1 g2 g3, Rows4 w v s g0 g1 g2 g3 ∧ ((0 < s.pods.length → P g0) ∧ (0 < s.mnts.length → P g1) ∧ (0 < s.devs.length → P g2) ∧ (0 < s.lks.length → P g3)) ∧
    ∀ b, b < w.heap.size → (b = g0 ∨ b = g1 ∨ b = g2 ∨ b = g3) → P b := by
  obtain ⟨g0, g1, g2, g3, R, e0, e1, e2, e3⟩ := h.it
  obtain ⟨⟨A0, A1, A2, A3, c0, c1, c2, c3, hv, a0, a1, a2, a3⟩, z0, R0, z1, R1, z2, R2, z3, R3, d01, d02, d03, d12, d13, d23⟩ := R
  obtain ⟨h0, p0, q0⟩ := if_pick (n := s.pods.length) (g := g0) (m := w.heap.size)
  obtain ⟨h1, p1, q1⟩ := if_pick (n := s.mnts.length) (g := g1) (m := w.heap.size + 1)
  obtain ⟨h2, p2, q2⟩ := if_pick (n := s.devs.length) (g := g2) (m := w.heap.size + 2)
  obtain ⟨h3, p3, q3⟩ := if_pick (n := s.lks.length) (g := g3) (m := w.heap.size + 3)
  have k0 : ∀ b, b < w.heap.size → b = h0 → P b := fun b hb e => by
    by_cases hn : 0 < s.pods.length
    · rw [e, p0 hn]; exact e0 hn
    · rw [q0 hn] at e; omega
  have k1 : ∀ b, b < w.heap.size → b = h1 → P b := fun b hb e => by
    by_cases hn : 0 < s.mnts.length
    · rw [e, p1 hn]; exact e1 hn
    · rw [q1 hn] at e; omega
  have k2 : ∀ b, b < w.heap.size → b = h2 → P b := fun b hb e => by
    by_cases hn : 0 < s.devs.length
    · rw [e, p2 hn]; exact e2 hn
    · rw [q2 hn] at e; omega
  have k3 : ∀ b, b < w.heap.size → b = h3 → P b := fun b hb e => by
    by_cases hn : 0 < s.lks.length
    · rw [e, p3 hn]; exact e3 hn
    · rw [q3 hn] at e; omega
  refine ⟨h0, h1, h2, h3, ⟨⟨A0, A1, A2, A3, c0, c1, c2, c3, hv, fun h => by rw [p0 h]; exact a0 h, fun h => by rw [p1 h]; exact a1 h, fun h => by rw [p2 h]; exact a2 h, fun h => by rw [p3 h]; exact a3 h⟩,
    fun h => by rw [p0 h]; exact z0 h, row_pick R0 p0 (podCs_len _), fun h => by rw [p1 h]; exact z1 h, row_pick R1 p1 (mntCs_len _), fun h => by rw [p2 h]; exact z2 h, row_pick R2 p2 (devCs_len _), fun h => by rw [p3 h]; exact z3 h, row_pick R3 p3 (lkCs_len _), ?_, ?_, ?_, ?_, ?_, ?_⟩,
    ⟨fun h => by rw [p0 h]; exact e0 h, fun h => by rw [p1 h]; exact e1 h, fun h => by rw [p2 h]; exact e2 h, fun h => by rw [p3 h]; exact e3 h⟩, fun b hb hor => hor.elim (k0 b hb) fun h => h.elim (k1 b hb) fun h => h.elim (k2 b hb) (k3 b hb)⟩
  all_goals
    clear k0 k1 k2 k3 e0 e1 e2 e3
    by_cases n0 : 0 < s.pods.length <;> by_cases n1 : 0 < s.mnts.length <;> by_cases n2 : 0 < s.devs.length <;> by_cases n3 : 0 < s.lks.length <;>
      simp only [n0, n1, n2, n3, true_implies, not_true_eq_false, not_false_eq_true, false_implies] at p0 q0 p1 q1 p2 q2 p3 q3 z0 z1 z2 z3 <;> omega
theorem markR_any (v : Value) (s : StD) (R : Nat → Prop) (k : Int) (w : World) (h : RowsR w v s R) (hf : StFits s 1048576) (hk0 : 0 ≤ k) (hk1 : k + totS s ≤ 8388608) :
    Calls Tryz.prog 51 #[v, .int .i64 k] w fun e w' => e = .returned (.int .i64 (k + totS s)) ∧ RowsR w' v (markS k s) R ∧ Keeps R w w' := by
  obtain ⟨g0, g1, g2, g3, r, es, hs⟩ := h.apart
  refine (markState_any v s g0 g1 g2 g3 k w r hf hk0 hk1).mono ?_
  rintro e w' ⟨he, r', k'⟩
  exact ⟨he, ⟨g0, g1, g2, g3, r', by simpa [markS, mkPods_len, mkMnts_len, mkDevs_len, mkLks_len] using es⟩, k'.into hs⟩
theorem heldR_any (v : Value) (s : StD) (R : Nat → Prop) (k : Int) (w : World) (h : RowsR w v (markS k s) R) (hf : StFits s 1048576) (hk0 : 0 ≤ k) (hk1 : k + totS s ≤ 8388608) :
    Calls Tryz.prog 53 #[v, .int .i64 k] w fun e w' => e = .returned (.int .i64 (k + totS s)) ∧ Below w.heap.size w w' := by
  obtain ⟨g0, g1, g2, g3, r, -⟩ := h.it
  exact heldState_any v s g0 g1 g2 g3 k w r hf hk0 hk1
theorem appliedS_fits {d : PlanD} {s : StD} {r : RecD} (hf : StFits s 1048576) : StFits (appliedS d s r).1 1048576 := by
  unfold appliedS
  split
  · split
    · rename_i hg
      simp only [goodR, Bool.and_eq_true] at hg
      exact fits_ok (stOkB_iff.1 hg.2)
    · exact hf
  · exact ⟨by simp [zeroS], by simp [zeroS], by simp [zeroS], by simp [zeroS]⟩
end Go.Proofs.YtkefbmbjkijilaaGreatDoor
