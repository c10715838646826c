/-
  The model's l6All.
-/
import Derived.Test.YtkefbmbjkijilaaGreatDoorMZ10
import Derived.Test.YtkefbmbjkijilaaGreatDoorMZ6
import Derived.Deep.RegionHeld3
import Derived.Deep.RegionLaw
import Derived.StillTailTactics
/- Wc -/
set_option linter.unusedVariables false
namespace Go.Proofs.YtkefbmbjkijilaaGreatDoor
open Go.RowKit

/-- Chapter 6: all records, of a right state. -/
def allS (d : PlanD) (s : StD) (l : List RecD) : StD × Bool := match runR d s l with | some x => (x, true) | none => (s, false)
theorem allS_some {d : PlanD} {s x : StD} {l : List RecD} (h : runR d s l = some x) : allS d s l = (x, true) := by unfold allS; rw [h]
theorem allS_none {d : PlanD} {s : StD} {l : List RecD} (h : runR d s l = none) : allS d s l = (s, false) := by unfold allS; rw [h]
theorem take_next {l : List RecD} {k : Nat} (hk : k < l.length) : l.take (k + 1) = l.take k ++ [recAt l k] := by
  rw [List.take_add_one]
  congr 1
  simp [recAt, List.getD, List.getElem?_eq_getElem hk]
theorem run_next {d : PlanD} {s t : StD} {l : List RecD} {k : Nat} (hk : k < l.length) (h : runR d s (l.take k) = some t) (hg : goodR d t (recAt l k) = true) : runR d s (l.take (k + 1)) = some (applyR t (recAt l k)) := by
  rw [take_next hk, runR_append, h]
  simp [runR, hg]
theorem run_stop {d : PlanD} {s t : StD} {l : List RecD} {k : Nat} (hk : k < l.length) (h : runR d s (l.take k) = some t) (hg : goodR d t (recAt l k) = false) : runR d s l = none := by
  rw [← List.take_append_drop k l, runR_append, h, List.drop_eq_getElem_cons hk]
  have : recAt l k = l[k] := by simp [recAt, List.getD, List.getElem?_eq_getElem hk]
  rw [this] at hg
  simp [runR, hg]
/-- What a function that makes a state and tells whether answers. -/
def MadeSB (w : World) (t : StD × Bool) (e : Ending) (w' : World) : Prop := ∃ v', e = .returned (.tuple #[v', .bool t.2]) ∧ OwnSt w' w.heap.size v' t.1 ∧ Below w.heap.size w w'
theorem rise_len {l : List Int} : ∀ {a : Int}, l.Pairwise (· < ·) → (∀ x ∈ l, a ≤ x ∧ x ≤ 7) → a ≤ 8 → (l.length : Int) ≤ 8 - a := by
  induction l with
  | nil => intro a _ _ h; simp; omega
  | cons x l ih =>
    intro a hp hx ha
    obtain ⟨h1, h2⟩ := List.pairwise_cons.1 hp
    have hx0 := hx x (by simp)
    have := ih (a := x + 1) h2 (fun y hy => ⟨h1 y hy, (hx y (by simp [hy])).2⟩) (by omega)
    simp only [List.length_cons]
    omega
theorem fits_ok {d : PlanD} {t : StD} (h : StOk d t) : StFits t 1048576 := by
  have hp := h.plan
  have h1 := h.np
  have h2 := h.nm
  have h3 := h.nd
  simp only [planOkB, sizesB, Bool.and_eq_true, decide_eq_true_eq] at hp
  have h4 : t.lks.length ≤ 8 := by
    have hr := h.rise
    have hl := h.lks
    have := rise_len (a := 0) hr hl (by omega)
    omega
  exact ⟨by omega, by omega, by omega, by omega⟩

set_option maxRecDepth 4000 in
set_option maxHeartbeats 16000000 in
theorem l6All_any (pv sv rv : Value) (d : PlanD) (s : StD) (l : List RecD) (w : World) (hp : IsPlan w w.heap.size pv d) (hs : IsStR w w.heap.size sv s) (hr : Rt w w.heap.size rv l) (hok : StOk d s) :
    Calls Tryz.prog 69 #[pv, sv, rv] w (MadeSB w (allS d s l)) := by
  have HP := Lib.hid hp
  have HS := Lib.hid hs
  have HR := Lib.hid hr
  have HOK := Lib.hid hok
  obtain ⟨⟨P0, P1, P2, P3, k0, k1, k2, k3, rfl, -, -, -, -⟩, -, -, -, -⟩ := hp
  obtain ⟨⟨A0, A1, A2, A3, c0, c1, c2, c3, rfl, -, -⟩, -⟩ := hs
  obtain ⟨⟨L0, cl, rfl, -⟩, hlen⟩ := hr
  clear hok
  unfold maxLen at hlen
  have T0 := TP.start w (planC P0 P1 P2 P3 d.n0 k0 d.n1 k1 d.n2 k2 d.n3 k3 d.l d.p d.t) (stC A0 A1 A2 A3 s.pods.length c0 s.mnts.length c1 s.devs.length c2 s.lks.length c3 s.ph s.co s.ck s.bo s.ba s.lb s.gd s.pr) (stC none none none none 0 0 0 0 0 0 0 0 0 false 0 0 0 0 0 0) 42 46 46
  go_enter Tryz.func69, Tryz.ntmps69
  go_wp2_with fail
  refine (l5Copy_any _ s _ ((HS.out.below T0.A.K (Nat.le_refl _)).more T0.A.K.size)).mono ?_
  rintro e w1 ⟨v1, rfl, O1, hb⟩
  have T1 := T0.step hb
  replace O1 := O1.base T0.O.z
  obtain ⟨u0, u1, u2, u3, rfl, z0, z1, z2, z3⟩ := O1.it
  obtain ⟨B0, e0, rfl, -⟩ := open_rowR z0
  obtain ⟨B1, e1, rfl, -⟩ := open_rowR z1
  obtain ⟨B2, e2, rfl, -⟩ := open_rowR z2
  obtain ⟨B3, e3, rfl, -⟩ := open_rowR z3
  clear z0 z1 z2 z3 T0 hb
  have hw1 : w.heap.size + 1 + 1 + 1 ≤ w1.heap.size := T1.O.z
  go_wp2_with fail
  have hb : Below w1.heap.size w1 (w1.alloc (.cells (stC B0 B1 B2 B3 s.pods.length e0 s.mnts.length e1 s.devs.length e2 s.lks.length e3 s.ph s.co s.ck s.bo s.ba s.lb s.gd s.pr) 46)) := (Below.refl _ _).alloc (Nat.le_refl _) _
  have T2 := T1.step hb
  have O2 := O1.below hb
  have X2 : BoxS (w1.alloc (.cells (stC B0 B1 B2 B3 s.pods.length e0 s.mnts.length e1 s.devs.length e2 s.lks.length e3 s.ph s.co s.ck s.bo s.ba s.lb s.gd s.pr) 46)) (w.heap.size + 1 + 1 + 1) w1.heap.size (stC B0 B1 B2 B3 s.pods.length e0 s.mnts.length e1 s.devs.length e2 s.lks.length e3 s.ph s.co s.ck s.bo s.ba s.lb s.gd s.pr).toList := BoxS.new rfl hw1 rfl
  clear T1 O1 hb
  generalize w1.alloc (.cells (stC B0 B1 B2 B3 s.pods.length e0 s.mnts.length e1 s.devs.length e2 s.lks.length e3 s.ph s.co s.ck s.bo s.ba s.lb s.gd s.pr) 46) = w2 at T2 O2 X2 ⊢
  generalize w1.heap.size = g at X2 hw1 ⊢
  go_loopw [9] (fun i wr => ∃ (k : Nat) (t : StD) (C0 C1 C2 C3 : Option Addr) (f0 f1 f2 f3 : Nat), k ≤ l.length ∧ i = .int .i64 k ∧ (runR d s (l.take k) = some t ∧ StOk d t) ∧ TP w wr (planC P0 P1 P2 P3 d.n0 k0 d.n1 k1 d.n2 k2 d.n3 k3 d.l d.p d.t) (stC A0 A1 A2 A3 s.pods.length c0 s.mnts.length c1 s.devs.length c2 s.lks.length c3 s.ph s.co s.ck s.bo s.ba s.lb s.gd s.pr) (stC none none none none 0 0 0 0 0 0 0 0 0 false 0 0 0 0 0 0) ∧
    BoxS wr (w.heap.size + 1 + 1 + 1) g (stC C0 C1 C2 C3 t.pods.length f0 t.mnts.length f1 t.devs.length f2 t.lks.length f3 t.ph t.co t.ck t.bo t.ba t.lb t.gd t.pr).toList ∧ OwnSt wr (w.heap.size + 1 + 1 + 1) (.agg (stC C0 C1 C2 C3 t.pods.length f0 t.mnts.length f1 t.devs.length f2 t.lks.length f3 t.ph t.co t.ck t.bo t.ba t.lb t.gd t.pr)) t) (fun i _ => l.length - (intOf i).toNat)
  case atStart => exact ⟨0, s, _, _, _, _, _, _, _, _, Nat.zero_le _, rfl, ⟨rfl, HOK.out⟩, T2, X2, O2⟩
  case round =>
    clear T2 O2 X2
    obtain ⟨k, t, C0, C1, C2, C3, f0, f1, f2, f3, hk, rfl, ⟨hrun, hok⟩, T, X, O⟩ := hrel
    have HRUN := Lib.hid hrun
    have HT := Lib.hid hok
    have HX := Lib.hid X
    have HO := Lib.hid O
    clear hrun hok X O
    by_cases hlt : k < l.length
    · obtain ⟨b, off, rfl, hbb, r0, r1, r2⟩ := (HR.out.below T.A.K (Nat.le_refl _)).cell hlt
      have HRS := Lib.hid (fun hg => run_stop hlt HRUN.out hg)
      have HRN := Lib.hid (fun hg => run_next hlt HRUN.out hg)
      generalize recAt l k = r at r0 r1 r2 HRS HRN
      have HE := Lib.hid (rfl : True = True)
      have hbr : b < wr.heap.size := Nat.lt_of_lt_of_le hbb T.A.K.size
      have S0 : (∀ o, wr.cell? ⟨g, o, none⟩ = (stC C0 C1 C2 C3 t.pods.length f0 t.mnts.length f1 t.devs.length f2 t.lks.length f3 t.ph t.co t.ck t.bo t.ba t.lb t.gd t.pr)[o]?) ∧ wr.cell? ⟨b, off + k * 3, none⟩ = some (.int .i64 r.k) ∧ wr.cell? ⟨b, off + k * 3 + 1, none⟩ = some (.int .i64 r.a) ∧ wr.cell? ⟨b, off + k * 3 + 2, none⟩ = some (.int .i64 r.b) ∧ Below wr.heap.size wr wr := ⟨HX.out.C, r0, r1, r2, Below.refl _ _⟩
      cases h1 : recOkB r
      · go_wp2_with fail
        first | (go_region_law (first
          | (go_simp
             go_at_call 107
             have K0 : Below wr.heap.size wr wr.drew := (Below.refl _ _).drew
             refine (specRecOk_any r _).mono ?_
             rintro e w3 ⟨rfl, hb3⟩
             have K1 : Below wr.heap.size wr w3 := K0.trans hb3))) | fail
        all_goals
          have T2 := T.step K1
          clear S0 K0 T
          replace HE := Lib.hid (allS_none (HRS.out (by simp [goodR, h1])))
          have hS := T2.Z.C
          go_wp2_with fail
          refine (l5Copy_any _ s _ ((HS.out.below T2.A.K (Nat.le_refl _)).more T2.A.K.size)).mono ?_
          rintro e wc ⟨vc, rfl, Oc, hb⟩
          have Tc := T2.step hb
          have hB2 := T2.O.z
          obtain ⟨u0, u1, u2, u3, rfl, z0, z1, z2, z3⟩ := Oc.it
          obtain ⟨D0, h0, rfl, -⟩ := open_rowR z0
          obtain ⟨D1, h1, rfl, -⟩ := open_rowR z1
          obtain ⟨D2, h2, rfl, -⟩ := open_rowR z2
          obtain ⟨D3, h3, rfl, -⟩ := open_rowR z3
          have HOc := Lib.hid Oc
          clear z0 z1 z2 z3 Oc hS
          have hD := Tc.O.C
          have hG := Tc.O.F
          go_wp2
          refine bodyPost_ret (v := .tuple #[.agg (stC D0 D1 D2 D3 s.pods.length h0 s.mnts.length h1 s.devs.length h2 s.lks.length h3 s.ph s.co s.ck s.bo s.ba s.lb s.gd s.pr), .bool false]) ?_ rfl ?_
          · simp [results, Tryz.results69, go_sem, hD]
          · rw [HE.out]
            refine ⟨_, rfl, (HOc.out.keeps (keeps_put12 ..) fun r hr e => by subst e; have := (HOc.out.blocks hr).1; omega).base (by omega), ?_⟩
            iterate 12 (refine Below.setCell ?_ (by simp <;> omega) _)
            exact Tc.A.K
      · cases h2 : thereB t r
        · go_wp2_with fail
          go_region_held3 (fun w' => (∀ o, w'.cell? ⟨g, o, none⟩ = (stC C0 C1 C2 C3 t.pods.length f0 t.mnts.length f1 t.devs.length f2 t.lks.length f3 t.ph t.co t.ck t.bo t.ba t.lb t.gd t.pr)[o]?) ∧ w'.cell? ⟨b, off + k * 3, none⟩ = some (.int .i64 r.k) ∧ w'.cell? ⟨b, off + k * 3 + 1, none⟩ = some (.int .i64 r.a) ∧ w'.cell? ⟨b, off + k * 3 + 2, none⟩ = some (.int .i64 r.b) ∧ Below wr.heap.size wr w')
            (first | exact S2 | exact S1 | exact S0 | exact ⟨S0.1, S0.2.1, S0.2.2.1, S0.2.2.2.1, S0.2.2.2.2.drew⟩)
            (first
              | (go_at_call 109
                 refine (l6There_any _ t r _ ((HO.out.below K1).st)).mono ?_
                 rintro e w4 ⟨rfl, hb4⟩
                 have K2 : Below wr.heap.size wr w4 := K1.trans (hb4.mono K1.size)
                 have S2 : (∀ o, w4.cell? ⟨g, o, none⟩ = (stC C0 C1 C2 C3 t.pods.length f0 t.mnts.length f1 t.devs.length f2 t.lks.length f3 t.ph t.co t.ck t.bo t.ba t.lb t.gd t.pr)[o]?) ∧ w4.cell? ⟨b, off + k * 3, none⟩ = some (.int .i64 r.k) ∧ w4.cell? ⟨b, off + k * 3 + 1, none⟩ = some (.int .i64 r.a) ∧ w4.cell? ⟨b, off + k * 3 + 2, none⟩ = some (.int .i64 r.b) ∧ Below wr.heap.size wr w4 := ⟨(HX.out.go K2).C, (K2.cell hbr).trans r0, (K2.cell hbr).trans r1, (K2.cell hbr).trans r2, K2⟩)
              | (go_at_call 107
                 have K0 : Below wr.heap.size wr wr.drew := (Below.refl _ _).drew
                 refine (specRecOk_any r _).mono ?_
                 rintro e w3 ⟨rfl, hb3⟩
                 have K1 : Below wr.heap.size wr w3 := K0.trans hb3
                 have S1 : (∀ o, w3.cell? ⟨g, o, none⟩ = (stC C0 C1 C2 C3 t.pods.length f0 t.mnts.length f1 t.devs.length f2 t.lks.length f3 t.ph t.co t.ck t.bo t.ba t.lb t.gd t.pr)[o]?) ∧ w3.cell? ⟨b, off + k * 3, none⟩ = some (.int .i64 r.k) ∧ w3.cell? ⟨b, off + k * 3 + 1, none⟩ = some (.int .i64 r.a) ∧ w3.cell? ⟨b, off + k * 3 + 2, none⟩ = some (.int .i64 r.b) ∧ Below wr.heap.size wr w3 := ⟨(HX.out.go K1).C, (K1.cell hbr).trans r0, (K1.cell hbr).trans r1, (K1.cell hbr).trans r2, K1⟩))
          have T2 := T.step K2
          clear S0 S1 S2 K0 K1 T
          rename_i hHeld
          clear hHeld
          replace HE := Lib.hid (allS_none (HRS.out (by simp [goodR, h1, h2])))
          have hS := T2.Z.C
          go_wp2_with fail
          refine (l5Copy_any _ s _ ((HS.out.below T2.A.K (Nat.le_refl _)).more T2.A.K.size)).mono ?_
          rintro e wc ⟨vc, rfl, Oc, hb⟩
          have Tc := T2.step hb
          have hB2 := T2.O.z
          obtain ⟨u0, u1, u2, u3, rfl, z0, z1, z2, z3⟩ := Oc.it
          obtain ⟨D0, h0, rfl, -⟩ := open_rowR z0
          obtain ⟨D1, h1, rfl, -⟩ := open_rowR z1
          obtain ⟨D2, h2, rfl, -⟩ := open_rowR z2
          obtain ⟨D3, h3, rfl, -⟩ := open_rowR z3
          have HOc := Lib.hid Oc
          clear z0 z1 z2 z3 Oc hS
          have hD := Tc.O.C
          have hG := Tc.O.F
          go_wp2
          refine bodyPost_ret (v := .tuple #[.agg (stC D0 D1 D2 D3 s.pods.length h0 s.mnts.length h1 s.devs.length h2 s.lks.length h3 s.ph s.co s.ck s.bo s.ba s.lb s.gd s.pr), .bool false]) ?_ rfl ?_
          · simp [results, Tryz.results69, go_sem, hD]
          · rw [HE.out]
            refine ⟨_, rfl, (HOc.out.keeps (keeps_put12 ..) fun r hr e => by subst e; have := (HOc.out.blocks hr).1; omega).base (by omega), ?_⟩
            iterate 12 (refine Below.setCell ?_ (by simp <;> omega) _)
            exact Tc.A.K
        · go_wp2_with fail
          go_region_held3 (fun w' => (∀ o, w'.cell? ⟨g, o, none⟩ = (stC C0 C1 C2 C3 t.pods.length f0 t.mnts.length f1 t.devs.length f2 t.lks.length f3 t.ph t.co t.ck t.bo t.ba t.lb t.gd t.pr)[o]?) ∧ w'.cell? ⟨b, off + k * 3, none⟩ = some (.int .i64 r.k) ∧ w'.cell? ⟨b, off + k * 3 + 1, none⟩ = some (.int .i64 r.a) ∧ w'.cell? ⟨b, off + k * 3 + 2, none⟩ = some (.int .i64 r.b) ∧ Below wr.heap.size wr w')
            (first | exact S2 | exact S1 | exact S0 | exact ⟨S0.1, S0.2.1, S0.2.2.1, S0.2.2.2.1, S0.2.2.2.2.drew⟩)
            (first
              | (go_at_call 109
                 refine (l6There_any _ t r _ ((HO.out.below K1).st)).mono ?_
                 rintro e w4 ⟨rfl, hb4⟩
                 have K2 : Below wr.heap.size wr w4 := K1.trans (hb4.mono K1.size)
                 have S2 : (∀ o, w4.cell? ⟨g, o, none⟩ = (stC C0 C1 C2 C3 t.pods.length f0 t.mnts.length f1 t.devs.length f2 t.lks.length f3 t.ph t.co t.ck t.bo t.ba t.lb t.gd t.pr)[o]?) ∧ w4.cell? ⟨b, off + k * 3, none⟩ = some (.int .i64 r.k) ∧ w4.cell? ⟨b, off + k * 3 + 1, none⟩ = some (.int .i64 r.a) ∧ w4.cell? ⟨b, off + k * 3 + 2, none⟩ = some (.int .i64 r.b) ∧ Below wr.heap.size wr w4 := ⟨(HX.out.go K2).C, (K2.cell hbr).trans r0, (K2.cell hbr).trans r1, (K2.cell hbr).trans r2, K2⟩)
              | (go_at_call 107
                 have K0 : Below wr.heap.size wr wr.drew := (Below.refl _ _).drew
                 refine (specRecOk_any r _).mono ?_
                 rintro e w3 ⟨rfl, hb3⟩
                 have K1 : Below wr.heap.size wr w3 := K0.trans hb3
                 have S1 : (∀ o, w3.cell? ⟨g, o, none⟩ = (stC C0 C1 C2 C3 t.pods.length f0 t.mnts.length f1 t.devs.length f2 t.lks.length f3 t.ph t.co t.ck t.bo t.ba t.lb t.gd t.pr)[o]?) ∧ w3.cell? ⟨b, off + k * 3, none⟩ = some (.int .i64 r.k) ∧ w3.cell? ⟨b, off + k * 3 + 1, none⟩ = some (.int .i64 r.a) ∧ w3.cell? ⟨b, off + k * 3 + 2, none⟩ = some (.int .i64 r.b) ∧ Below wr.heap.size wr w3 := ⟨(HX.out.go K1).C, (K1.cell hbr).trans r0, (K1.cell hbr).trans r1, (K1.cell hbr).trans r2, K1⟩))
          have T2 := T.step K2
          have X2 := HX.out.go K2
          have O2 := HO.out.below K2
          have Q2 := And.intro S2.2.1 (And.intro S2.2.2.1 S2.2.2.2.1)
          clear S0 S1 S2 K0 K1 T HX HO
          rename_i hHeld
          clear hHeld
          have hD4 : Below w4.heap.size w4 w4.drew := (Below.refl _ _).drew
          have T3 := T2.step hD4
          have X3 := X2.go hD4
          have O3 := O2.below hD4
          obtain ⟨qa, qb, qc⟩ := Q2
          have hX := X2.C
          go_wp2_with fail
          go_still_tail 5, (by kernel_rfl)
          change wpList _ _ _ _ _ w4.drew
          generalize w4.drew = w5 at T3 X3 O3 ⊢
          clear hX qa qb qc hD4 T2 X2 O2
          go_wp2_with fail
          have hβ := T3.O.z
          refine (l6Apply_any _ t r _ (w.heap.size + 1 + 1 + 1) (by omega) O3 h1 h2 (fits_ok HT.out).f3 HT.out.rise).mono ?_
          rintro e w6 ⟨v6, rfl, O6, k6⟩
          have hap := O3.apart X3
          have hbl : ∀ b, rowsOf _ b → w.heap.size + 1 + 1 + 1 ≤ b := fun b hb => (O3.blocks hb).1
          have T6 : TP w w6 _ _ _ := ⟨T3.A.keeps k6 (fun b hb => by have := hbl b hb; omega) (fun hb => by have := hbl _ hb; omega), T3.Z.keeps k6 (fun b hb => by have := hbl b hb; omega) (fun hb => by have := hbl _ hb; omega), T3.O.keeps k6 (fun b hb => by have := hbl b hb; omega) (fun hb => by have := hbl _ hb; omega)⟩
          have X6 := X3.keeps k6 hap
          clear k6 hap hbl T3 X3 O3
          have HT2 : Hid (stOkB d (applyR t r) = true → StOk d (applyR t r)) := Lib.hid fun h => stOkB_iff.1 h
          have HGD : Hid (stOkB d (applyR t r) = goodR d t r) := Lib.hid (by simp [goodR, h1, h2])
          generalize applyR t r = t2 at O6 HRN HT2 HGD
          obtain ⟨u0, u1, u2, u3, rfl, z0, z1, z2, z3⟩ := O6.it
          obtain ⟨G0, m0, rfl, -⟩ := open_rowR z0
          obtain ⟨G1, m1, rfl, -⟩ := open_rowR z1
          obtain ⟨G2, m2, rfl, -⟩ := open_rowR z2
          obtain ⟨G3, m3, rfl, -⟩ := open_rowR z3
          clear z0 z1 z2 z3
          have hF := X6.frozen
          have hX := X6.C
          go_upto_region 8 with fail
          obtain ⟨w7, hw7⟩ : ∃ W, W = put12 w6 g (.int .i64 t2.ph) (.bool t2.co) (.int .i64 t2.ck) (.int .i64 t2.bo) (.int .i64 t2.ba) (.int .i64 t2.lb) (.slice G0 t2.pods.length m0) (.slice G1 t2.mnts.length m1) (.slice G2 t2.devs.length m2) (.slice G3 t2.lks.length m3) (.int .i64 t2.gd) (.int .i64 t2.pr) := ⟨_, rfl⟩
          have kp : Keeps (· = g) w6 w7 := by rw [hw7]; exact keeps_put12 ..
          have X7 : BoxS w7 (w.heap.size + 1 + 1 + 1) g (stC G0 G1 G2 G3 t2.pods.length m0 t2.mnts.length m1 t2.devs.length m2 t2.lks.length m3 t2.ph t2.co t2.ck t2.bo t2.ba t2.lb t2.gd t2.pr).toList := by rw [hw7]; exact X6.put ..
          have O7 := O6.keeps kp fun r hr e => O6.apart X6 (by rw [← e]; exact hr)
          have hgβ := X6.lt.1
          have T7 : TP w w7 _ _ _ := ⟨T6.A.keeps kp (fun b hb => by omega) (fun hb => by omega), T6.Z.keeps kp (fun b hb => by omega) (fun hb => by omega), T6.O.keeps kp (fun b hb => by omega) (fun hb => by omega)⟩
          unfold put12 at hw7
          rw [← hw7]
          clear hw7 kp X6 O6 T6 hF hX
          have hC := T7.A.C
          have hX := X7.C
          go_wp2_with fail
          refine (specStateOk_any _ _ d t2 _ ((HP.out.below T7.A.K (Nat.le_refl _)).more T7.A.K.size) O7.st).mono ?_
          rintro e w8 ⟨rfl, hb⟩
          have T8 := T7.step hb
          have X8 := X7.go hb
          have O8 := O7.below hb
          clear hb hC hX T7 X7 O7
          cases h3 : stOkB d t2
          · have HGF : Hid (goodR d t r = false) := Lib.hid (by rw [← HGD.out]; exact h3)
            replace HE := Lib.hid (allS_none (HRS.out HGF.out))
            have hS := T8.Z.C
            go_wp2_with fail
            refine (l5Copy_any _ s _ ((HS.out.below T8.A.K (Nat.le_refl _)).more T8.A.K.size)).mono ?_
            rintro e wc ⟨vc, rfl, Oc, hb⟩
            have Tc := T8.step hb
            have hB2 := T8.O.z
            obtain ⟨u0, u1, u2, u3, rfl, z0, z1, z2, z3⟩ := Oc.it
            obtain ⟨D0, h0, rfl, -⟩ := open_rowR z0
            obtain ⟨D1, h1, rfl, -⟩ := open_rowR z1
            obtain ⟨D2, h2, rfl, -⟩ := open_rowR z2
            obtain ⟨D3, h3, rfl, -⟩ := open_rowR z3
            have HOc := Lib.hid Oc
            clear z0 z1 z2 z3 Oc hS
            have hD := Tc.O.C
            have hG := Tc.O.F
            go_wp2
            refine bodyPost_ret (v := .tuple #[.agg (stC D0 D1 D2 D3 s.pods.length h0 s.mnts.length h1 s.devs.length h2 s.lks.length h3 s.ph s.co s.ck s.bo s.ba s.lb s.gd s.pr), .bool false]) ?_ rfl ?_
            · simp [results, Tryz.results69, go_sem, hD]
            · rw [HE.out]
              refine ⟨_, rfl, (HOc.out.keeps (keeps_put12 ..) fun r hr e => by subst e; have := (HOc.out.blocks hr).1; omega).base (by omega), ?_⟩
              iterate 12 (refine Below.setCell ?_ (by simp <;> omega) _)
              exact Tc.A.K
          · have HGF : Hid (goodR d t r = true) := Lib.hid (by rw [← HGD.out]; exact h3)
            have HT3 := Lib.hid (HT2.out h3)
            clear h3
            go_wp2
            exact ⟨⟨k + 1, t2, _, _, _, _, _, _, _, _, by omega, by go_num, ⟨HRN.out HGF.out, HT3.out⟩, T8, X8, O8⟩, by simp [intOf]; omega⟩
    · obtain rfl : k = l.length := by omega
      have he := allS_some (d := d) (s := s) (x := t) (l := l) (by have := HRUN.out; rwa [List.take_length] at this)
      have HE := Lib.hid he
      clear he
      have hX := HX.out.C
      have hD := T.O.C
      have hG := T.O.F
      go_wp2
      refine bodyPost_ret (v := .tuple #[.agg (stC C0 C1 C2 C3 t.pods.length f0 t.mnts.length f1 t.devs.length f2 t.lks.length f3 t.ph t.co t.ck t.bo t.ba t.lb t.gd t.pr), .bool true]) ?_ rfl ?_
      · simp [results, Tryz.results69, go_sem, hD]
      · rw [HE.out]
        refine ⟨_, rfl, (HO.out.keeps (keeps_put12 ..) fun r hr e => by subst e; have := (HO.out.blocks hr).1; omega).base (by omega), ?_⟩
        iterate 12 (refine Below.setCell ?_ (by simp <;> omega) _)
        exact T.A.K
end Go.Proofs.YtkefbmbjkijilaaGreatDoor
