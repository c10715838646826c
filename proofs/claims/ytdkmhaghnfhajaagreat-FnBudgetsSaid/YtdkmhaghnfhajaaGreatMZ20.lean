/-
  PROVED: FnBudgetsSaid: at every input that can be read the law answers true: on a drawn plan, behind a cordon and a drain, MayEvict answers as its model and behind each eviction that it allows no fewer of the group run than its Min; MayEvict and HealthyIn answer as their models at a drawn plan, state and number; the input is as it was. Conditions: none beside the form's own.
-/
import Derived.Test.YtdkmhaghnfhajaaGreatMZ19
import Derived.Test.YtdkmhaghnfhajaaGreatMZ18
import Derived.Test.YtdkmhaghnfhajaaGreatMZ17
import Derived.Test.YtdkmhaghnfhajaaGreatMZxPt
import Derived.Test.YtdkmhaghnfhajaaGreatMZ0
/- Xm -/
set_option linter.unusedVariables false
namespace Go.Proofs.YtdkmhaghnfhajaaGreat
open Go.RowKit

set_option maxRecDepth 4000 in
set_option maxHeartbeats 8000000 in
theorem specRec_any (pv sv : Value) (d : PlanD) (s : StD) (r : RecD) (w : World) (hp : IsPlan w w.heap.size pv d) (hs : IsStR w w.heap.size sv s) :
    Calls Tryz.prog 24 #[pv, sv, recC r] w (Appl2 w (appliedS d s r)) := by
  have HP := Lib.hid hp
  have HS := Lib.hid hs
  obtain ⟨⟨P0, P1, P2, P3, k0, k1, k2, k3, rfl, -, -, -, -⟩, -, -, -, -⟩ := hp
  obtain ⟨⟨A0, A1, A2, A3, c0, c1, c2, c3, rfl, -, -⟩, hf⟩ := hs
  have HF := Lib.hid hf
  clear hf
  have T0 := Four.start w (planC P0 P1 P2 P3 d.n0 k0 d.n1 k1 d.n2 k2 d.n3 k3 d.l d.p d.t) (stC A0 A1 A2 A3 s.pods.length c0 s.mnts.length c1 s.devs.length c2 s.lks.length c3 s.ph s.co s.ck s.bo s.ba s.lb s.gd s.pr) #[.int .i64 r.k, .int .i64 r.a, .int .i64 r.b] (stC none none none none 0 0 0 0 0 0 0 0 0 false 0 0 0 0 0 0) 29 38 60 38
  go_enter Tryz.func24, Tryz.ntmps24
  go_wp2_with fail
  refine (specStateOk_any _ _ d s _ ((HP.out.below T0.P.K (Nat.le_refl _)).more T0.P.K.size) ((HS.out.below T0.P.K (Nat.le_refl _)).more T0.P.K.size).is).mono ?_
  rintro e w1 ⟨rfl, hb⟩
  have T1 := T0.step hb
  have hP := T1.P.C
  have hS := T1.S.C
  have hR := T1.R.C
  have hD := T1.O.C
  have hG := T1.O.F
  clear hb T0
  cases hok : stOkB d s
  · have he : appliedS d s r = (zeroS, false) := by unfold appliedS; rw [hok]; rfl
    have HE := Lib.hid he
    clear he
    go_wp2
    refine bodyPost_ret (v := .tuple #[.agg (stC none none none none 0 0 0 0 0 0 0 0 0 false 0 0 0 0 0 0), .bool false]) ?_ rfl ?_
    · simp [results, Tryz.results24, go_sem, hD]
    · rw [HE.out]
      refine ⟨_, rfl, OwnSt.zero _ _, ?_⟩
      iterate 12 (refine Below.setCell ?_ (by simp <;> omega) _)
      exact T1.P.K
  · have HOK := Lib.hid hok
    clear hok
    go_wp2_with fail
    refine (specRecOk_any r _).mono ?_
    rintro e w2 ⟨rfl, hb⟩
    have T2 := T1.step hb
    clear hb T1 hP hS hR hD hG
    have hP := T2.P.C
    have hS := T2.S.C
    have hR := T2.R.C
    have hD := T2.O.C
    have hG := T2.O.F
    cases hk : recOkB r
    · have he : appliedS d s r = (s, false) := by unfold appliedS goodR; rw [HOK.out, hk]; rfl
      have HE := Lib.hid he
      clear he hk
      go_wp2_with fail
      refine (l5Copy_any _ s _ ((HS.out.below T2.P.K (Nat.le_refl _)).more T2.P.K.size)).mono ?_
      rintro e wc ⟨vc, rfl, Oc, hb⟩
      have hw4 : w.heap.size + 4 ≤ wc.heap.size := Nat.le_trans T2.O.z hb.size
      have hw5 : w.heap.size + 4 ≤ _ := T2.O.z
      have Tc := T2.step hb
      obtain ⟨u0, u1, u2, u3, rfl, q0, q1, q2, q3⟩ := Oc.it
      have Q0 := Lib.hid (ownsRow_base q0 hw5)
      have Q1 := Lib.hid (ownsRow_base q1 hw5)
      have Q2 := Lib.hid (ownsRow_base q2 hw5)
      have Q3 := Lib.hid (ownsRow_base q3 hw5)
      obtain ⟨B0, e0, rfl, -⟩ := open_rowR q0
      obtain ⟨B1, e1, rfl, -⟩ := open_rowR q1
      obtain ⟨B2, e2, rfl, -⟩ := open_rowR q2
      obtain ⟨B3, e3, rfl, -⟩ := open_rowR q3
      clear hb T2 hP hS hR hD hG q0 q1 q2 q3 Oc hw4 hw5
      have hP := Tc.P.C
      have hS := Tc.S.C
      have hR := Tc.R.C
      have hD := Tc.O.C
      have hG := Tc.O.F
      go_wp2
      refine bodyPost_ret (v := .tuple #[.agg (stC B0 B1 B2 B3 s.pods.length e0 s.mnts.length e1 s.devs.length e2 s.lks.length e3 s.ph s.co s.ck s.bo s.ba s.lb s.gd s.pr), .bool false]) ?_ rfl ?_
      · simp [results, Tryz.results24, go_sem, hD]
      · rw [HE.out]
        refine ⟨_, rfl, ⟨_, _, _, _, rfl, ?_, ?_, ?_, ?_⟩, ?_⟩
        · refine ownsRow_base (base := w.heap.size + 4) ?_ (by omega)
          iterate 12 (refine ownsRow_setCell_below ?_ (by simp) _)
          exact Q0.out
        · refine ownsRow_base (base := w.heap.size + 4) ?_ (by omega)
          iterate 12 (refine ownsRow_setCell_below ?_ (by simp) _)
          exact Q1.out
        · refine ownsRow_base (base := w.heap.size + 4) ?_ (by omega)
          iterate 12 (refine ownsRow_setCell_below ?_ (by simp) _)
          exact Q2.out
        · refine ownsRow_base (base := w.heap.size + 4) ?_ (by omega)
          iterate 12 (refine ownsRow_setCell_below ?_ (by simp) _)
          exact Q3.out
        · iterate 12 (refine Below.setCell ?_ (by simp <;> omega) _)
          exact Tc.P.K
    · have HK := Lib.hid hk
      clear hk
      go_wp2_with fail
      refine (l6There_any _ s r _ ((HS.out.below T2.P.K (Nat.le_refl _)).more T2.P.K.size).is).mono ?_
      rintro e w3 ⟨rfl, hb⟩
      have T3 := T2.step hb
      clear hb T2 hP hS hR hD hG
      have hP := T3.P.C
      have hS := T3.S.C
      have hR := T3.R.C
      have hD := T3.O.C
      have hG := T3.O.F
      cases ht : thereB s r
      · have he : appliedS d s r = (s, false) := by unfold appliedS goodR; rw [HOK.out, HK.out, ht]; rfl
        have HE := Lib.hid he
        clear he ht
        go_wp2_with fail
        refine (l5Copy_any _ s _ ((HS.out.below T3.P.K (Nat.le_refl _)).more T3.P.K.size)).mono ?_
        rintro e wc ⟨vc, rfl, Oc, hb⟩
        have hw4 : w.heap.size + 4 ≤ wc.heap.size := Nat.le_trans T3.O.z hb.size
        have hw5 : w.heap.size + 4 ≤ _ := T3.O.z
        have Tc := T3.step hb
        obtain ⟨u0, u1, u2, u3, rfl, q0, q1, q2, q3⟩ := Oc.it
        have Q0 := Lib.hid (ownsRow_base q0 hw5)
        have Q1 := Lib.hid (ownsRow_base q1 hw5)
        have Q2 := Lib.hid (ownsRow_base q2 hw5)
        have Q3 := Lib.hid (ownsRow_base q3 hw5)
        obtain ⟨B0, e0, rfl, -⟩ := open_rowR q0
        obtain ⟨B1, e1, rfl, -⟩ := open_rowR q1
        obtain ⟨B2, e2, rfl, -⟩ := open_rowR q2
        obtain ⟨B3, e3, rfl, -⟩ := open_rowR q3
        clear hb T3 hP hS hR hD hG q0 q1 q2 q3 Oc hw4 hw5
        have hP := Tc.P.C
        have hS := Tc.S.C
        have hR := Tc.R.C
        have hD := Tc.O.C
        have hG := Tc.O.F
        go_wp2
        refine bodyPost_ret (v := .tuple #[.agg (stC B0 B1 B2 B3 s.pods.length e0 s.mnts.length e1 s.devs.length e2 s.lks.length e3 s.ph s.co s.ck s.bo s.ba s.lb s.gd s.pr), .bool false]) ?_ rfl ?_
        · simp [results, Tryz.results24, go_sem, hD]
        · rw [HE.out]
          refine ⟨_, rfl, ⟨_, _, _, _, rfl, ?_, ?_, ?_, ?_⟩, ?_⟩
          · refine ownsRow_base (base := w.heap.size + 4) ?_ (by omega)
            iterate 12 (refine ownsRow_setCell_below ?_ (by simp) _)
            exact Q0.out
          · refine ownsRow_base (base := w.heap.size + 4) ?_ (by omega)
            iterate 12 (refine ownsRow_setCell_below ?_ (by simp) _)
            exact Q1.out
          · refine ownsRow_base (base := w.heap.size + 4) ?_ (by omega)
            iterate 12 (refine ownsRow_setCell_below ?_ (by simp) _)
            exact Q2.out
          · refine ownsRow_base (base := w.heap.size + 4) ?_ (by omega)
            iterate 12 (refine ownsRow_setCell_below ?_ (by simp) _)
            exact Q3.out
          · iterate 12 (refine Below.setCell ?_ (by simp <;> omega) _)
            exact Tc.P.K
      · have HT := Lib.hid ht
        clear ht
        have H3 := Lib.hid T3
        have hRI : s.lks.Pairwise (· < ·) := (stOkB_iff.1 HOK.out).rise
        have HRI := Lib.hid hRI
        have HS3 : Hid (∀ W : World, Below w3.heap.size w3 W → IsStR W W.heap.size (.agg (stC A0 A1 A2 A3 s.pods.length c0 s.mnts.length c1 s.devs.length c2 s.lks.length c3 s.ph s.co s.ck s.bo s.ba s.lb s.gd s.pr)) s) := Lib.hid fun W hb => (HS.out.below (T3.step hb).P.K (Nat.le_refl _)).more (T3.step hb).P.K.size
        have KD := Lib.hid (Below.refl w3.heap.size w3).drew
        have KA := Lib.hid ((Below.refl w3.heap.size w3).alloc (Nat.le_refl _) (.cells (stC none none none none 0 0 0 0 0 0 0 0 0 false 0 0 0 0 0 0) 38)).drew
        have hw1 : w.heap.size + 1 < w3.heap.size := T3.S.z
        have hw2 : w.heap.size + 2 < w3.heap.size := T3.R.z
        have S0 : (∀ o, w3.cell? ⟨w.heap.size + 1, o, none⟩ = (stC A0 A1 A2 A3 s.pods.length c0 s.mnts.length c1 s.devs.length c2 s.lks.length c3 s.ph s.co s.ck s.bo s.ba s.lb s.gd s.pr)[o]?) ∧ (∀ o, w3.cell? ⟨w.heap.size + 2, o, none⟩ = (#[.int .i64 r.k, .int .i64 r.a, .int .i64 r.b] : Array Value)[o]?) ∧ Below w3.heap.size w3 w3 := ⟨hS, hR, Below.refl _ _⟩
        clear hRI T3 hP hS hR hD hG
        go_upto_region 5 with fail
        go_cut [8] from 25 to 28 (fun s8 wx => ∃ (g : Nat) (cs : Array Value), s8 = .pointer (some ⟨g, 0, none⟩) ∧ Below w3.heap.size w3 wx ∧ BoxS wx w3.heap.size g cs.toList ∧ OwnSt wx w3.heap.size (.agg cs) (applyR s r))
        case first =>
          go_region_held3 (fun w' => (∀ o, w'.cell? ⟨w.heap.size + 1, o, none⟩ = (stC A0 A1 A2 A3 s.pods.length c0 s.mnts.length c1 s.devs.length c2 s.lks.length c3 s.ph s.co s.ck s.bo s.ba s.lb s.gd s.pr)[o]?) ∧ (∀ o, w'.cell? ⟨w.heap.size + 2, o, none⟩ = (#[.int .i64 r.k, .int .i64 r.a, .int .i64 r.b] : Array Value)[o]?) ∧ Below w3.heap.size w3 w')
            (first | (with_reducible exact S6) | (with_reducible exact S5) | (with_reducible exact S0) | (refine ⟨fun o => (Below.cell (B := w3.heap.size) (w := w3) ?_ hw1).trans (S0.1 o), fun o => (Below.cell (B := w3.heap.size) (w := w3) ?_ hw2).trans (S0.2.1 o), ?_⟩ <;> (repeat (first | (with_reducible exact K6) | (with_reducible exact K5) | (with_reducible exact Below.refl _ _) | (with_reducible refine Below.drew ?_) | (with_reducible refine (fun h => Below.alloc h h.size _) ?_) | (with_reducible refine Below.setCell ?_ (by first | exact Nat.le_refl _ | exact K5.size | (simp <;> omega)) _)))))
            (first
              | (go_at_call 59
                 refine (l6Apply_any _ s r _ w3.heap.size (by first | exact K5.size | exact (K5.alloc K5.size _).size) (by first | exact B5.out | exact B5.out.below ((Below.refl _ _).alloc (Nat.le_refl _) _)) HK.out HT.out HF.out.f3 HRI.out).mono ?_
                 rintro e w6 ⟨v6, rfl, O6, k6⟩
                 have K6 : Below w3.heap.size w3 w6 := by
                   first
                   | exact K5.trans (k6.below K5.size fun b hb hr => by have := (B5.out.blocks hr).1; omega)
                   | exact (K5.alloc K5.size _).trans (k6.below (K5.alloc K5.size _).size fun b hb hr => by have := (B5.out.blocks hr).1; omega)
                 have S6 := And.intro (fun o => (K6.cell (p := ⟨w.heap.size + 1, o, none⟩) hw1).trans (S0.1 o)) (And.intro (fun o => (K6.cell (p := ⟨w.heap.size + 2, o, none⟩) hw2).trans (S0.2.1 o)) K6)
                 try have Z6 := Z5.out.keeps k6 (B5.out.apart Z5.out)
                 try have Z6 := ZN.out.keeps k6 ((B5.out.below ((Below.refl _ _).alloc (Nat.le_refl _) _)).apart ZN.out)
                 try have zC := Z6.C
                 try have zF := Z6.frozen
                 have HO6 := Lib.hid O6
                 obtain ⟨u0, u1, u2, u3, rfl, q0, q1, q2, q3⟩ := O6.it
                 obtain ⟨B0, e0, rfl, -⟩ := open_rowR q0
                 obtain ⟨B1, e1, rfl, -⟩ := open_rowR q1
                 obtain ⟨B2, e2, rfl, -⟩ := open_rowR q2
                 obtain ⟨B3, e3, rfl, -⟩ := open_rowR q3
                 clear q0 q1 q2 q3 O6 k6)
              | (go_at_call 58
                 refine (l5Copy_any _ s _ (HS3.out _ (by first | exact KD.out | exact KA.out))).mono ?_
                 rintro e w5 ⟨v5, rfl, O5, hb5⟩
                 have K5 : Below w3.heap.size w3 w5 := by first | exact KD.out.trans (hb5.mono KD.out.size) | exact KA.out.trans (hb5.mono KA.out.size)
                 have S5 := And.intro (fun o => (K5.cell (p := ⟨w.heap.size + 1, o, none⟩) hw1).trans (S0.1 o)) (And.intro (fun o => (K5.cell (p := ⟨w.heap.size + 2, o, none⟩) hw2).trans (S0.2.1 o)) K5)
                 have B5 := Lib.hid (O5.base (B' := w3.heap.size) (by first | exact KD.out.size | exact KA.out.size))
                 have ZN : Hid (BoxS (w5.alloc (.cells (stC none none none none 0 0 0 0 0 0 0 0 0 false 0 0 0 0 0 0) 38)) w3.heap.size w5.heap.size (stC none none none none 0 0 0 0 0 0 0 0 0 false 0 0 0 0 0 0).toList) := Lib.hid (BoxS.new rfl K5.size rfl)
                 try have Z5 := Lib.hid ((show BoxS (w3.alloc (.cells (stC none none none none 0 0 0 0 0 0 0 0 0 false 0 0 0 0 0 0) 38)).drew w3.heap.size w3.heap.size (stC none none none none 0 0 0 0 0 0 0 0 0 false 0 0 0 0 0 0).toList from BoxS.new rfl (Nat.le_refl _) rfl).go hb5)))
          all_goals (go_wp2_with fail; go_meet)
          all_goals first
            | (have hz := Z6.lt.1
               apply Exists.intro
               apply Exists.intro
               refine ⟨rfl, K6.trans ((keeps_put12 ..).below K6.size fun b hb e => by subst e; omega), Z6.put .., HO6.out.keeps (keeps_put12 ..) fun b hb e => HO6.out.apart Z6 (by rw [← e]; exact hb)⟩)
            | (apply Exists.intro
               apply Exists.intro
               exact ⟨rfl, K6.alloc K6.size _, BoxS.new rfl K6.size rfl, HO6.out.below ((Below.refl _ _).alloc (Nat.le_refl _) _)⟩)
        case rest =>
          obtain ⟨g, cs, rfl, K, X, O⟩ := hcut
          have T4 := H3.out.step K
          have HGD : Hid (stOkB d (applyR s r) = goodR d s r) := Lib.hid (by simp [goodR, HK.out, HT.out])
          have HA : Hid (appliedS d s r = if goodR d s r then (applyR s r, true) else (s, false)) := Lib.hid (by unfold appliedS; rw [HOK.out]; rfl)
          generalize applyR s r = t2 at O HGD HA
          obtain ⟨u0, u1, u2, u3, hv, z0, z1, z2, z3⟩ := O.it
          injection hv with hv
          subst hv
          obtain ⟨G0, m0, rfl, -⟩ := open_rowR z0
          obtain ⟨G1, m1, rfl, -⟩ := open_rowR z1
          obtain ⟨G2, m2, rfl, -⟩ := open_rowR z2
          obtain ⟨G3, m3, rfl, -⟩ := open_rowR z3
          clear z0 z1 z2 z3 K S0 KD KA HS3 HRI
          have hP := T4.P.C
          have hX := X.C
          go_wp2_with fail
          refine (specStateOk_any _ _ d t2 _ ((HP.out.below T4.P.K (Nat.le_refl _)).more T4.P.K.size) O.st).mono ?_
          rintro e w5 ⟨rfl, hb⟩
          have T5 := T4.step hb
          have X5 := X.go hb
          have O5 := O.below hb
          have hw35 : w.heap.size + 4 ≤ w3.heap.size := H3.out.O.z
          clear hb hP hX T4 X O H3
          have hP := T5.P.C
          have hS := T5.S.C
          have hR := T5.R.C
          have hD := T5.O.C
          have hG := T5.O.F
          cases h3 : stOkB d t2
          · have he : appliedS d s r = (s, false) := by rw [HA.out, ← HGD.out, h3]; rfl
            have HE := Lib.hid he
            clear he h3
            go_wp2_with fail
            refine (l5Copy_any _ s _ ((HS.out.below T5.P.K (Nat.le_refl _)).more T5.P.K.size)).mono ?_
            rintro e wc ⟨vc, rfl, Oc, hb⟩
            have hw4 : w.heap.size + 4 ≤ wc.heap.size := Nat.le_trans T5.O.z hb.size
            have hw5 : w.heap.size + 4 ≤ _ := T5.O.z
            have Tc := T5.step hb
            obtain ⟨u0, u1, u2, u3, rfl, q0, q1, q2, q3⟩ := Oc.it
            have Q0 := Lib.hid (ownsRow_base q0 hw5)
            have Q1 := Lib.hid (ownsRow_base q1 hw5)
            have Q2 := Lib.hid (ownsRow_base q2 hw5)
            have Q3 := Lib.hid (ownsRow_base q3 hw5)
            obtain ⟨B0, e0, rfl, -⟩ := open_rowR q0
            obtain ⟨B1, e1, rfl, -⟩ := open_rowR q1
            obtain ⟨B2, e2, rfl, -⟩ := open_rowR q2
            obtain ⟨B3, e3, rfl, -⟩ := open_rowR q3
            clear hb T5 hP hS hR hD hG q0 q1 q2 q3 Oc hw4 hw5
            have hP := Tc.P.C
            have hS := Tc.S.C
            have hR := Tc.R.C
            have hD := Tc.O.C
            have hG := Tc.O.F
            go_wp2
            refine bodyPost_ret (v := .tuple #[.agg (stC B0 B1 B2 B3 s.pods.length e0 s.mnts.length e1 s.devs.length e2 s.lks.length e3 s.ph s.co s.ck s.bo s.ba s.lb s.gd s.pr), .bool false]) ?_ rfl ?_
            · simp [results, Tryz.results24, go_sem, hD]
            · rw [HE.out]
              refine ⟨_, rfl, ⟨_, _, _, _, rfl, ?_, ?_, ?_, ?_⟩, ?_⟩
              · refine ownsRow_base (base := w.heap.size + 4) ?_ (by omega)
                iterate 12 (refine ownsRow_setCell_below ?_ (by simp) _)
                exact Q0.out
              · refine ownsRow_base (base := w.heap.size + 4) ?_ (by omega)
                iterate 12 (refine ownsRow_setCell_below ?_ (by simp) _)
                exact Q1.out
              · refine ownsRow_base (base := w.heap.size + 4) ?_ (by omega)
                iterate 12 (refine ownsRow_setCell_below ?_ (by simp) _)
                exact Q2.out
              · refine ownsRow_base (base := w.heap.size + 4) ?_ (by omega)
                iterate 12 (refine ownsRow_setCell_below ?_ (by simp) _)
                exact Q3.out
              · iterate 12 (refine Below.setCell ?_ (by simp <;> omega) _)
                exact Tc.P.K
          · have he : appliedS d s r = (t2, true) := by rw [HA.out, ← HGD.out, h3]; rfl
            have HE := Lib.hid he
            clear he h3
            have hX := X5.C
            go_wp2
            refine bodyPost_ret (v := .tuple #[.agg (stC G0 G1 G2 G3 t2.pods.length m0 t2.mnts.length m1 t2.devs.length m2 t2.lks.length m3 t2.ph t2.co t2.ck t2.bo t2.ba t2.lb t2.gd t2.pr), .bool true]) ?_ rfl ?_
            · simp [results, Tryz.results24, go_sem, hD]
            · rw [HE.out]
              refine ⟨_, rfl, (O5.keeps (keeps_put12 ..) fun r hr e => by subst e; have := (O5.blocks hr).1; omega).base (by omega), ?_⟩
              iterate 12 (refine Below.setCell ?_ (by simp <;> omega) _)
              exact T5.P.K
end Go.Proofs.YtdkmhaghnfhajaaGreat
/- Nd -/
set_option linter.unusedVariables false
namespace Go.Proofs.YtdkmhaghnfhajaaGreat
open Go.RowKit

set_option maxRecDepth 100000 in
set_option maxHeartbeats 16000000 in
theorem lawBudgets (A : Option Addr) (n c : Nat) (w : World) (hB : Bytes w w.heap.size A n) (hn : n ≤ maxLen) : Calls Tryz.prog 4 #[.slice A n c] w fun e w' => e = .returned (.bool true) ∧ Below w.heap.size w w' := by
  have HB := Lib.hid hB
  clear hB
  go_enter Tryz.func4, Tryz.ntmps4
  go_wp2_with fail
  refine (big_any A n c _ hn).mono ?_
  rintro e w2 ⟨rfl, rfl⟩
  by_cases hbig : 4096 < (n : Int)
  · go_wp2_with fail
    go_ret
    exact ⟨rfl, Below.refl _ _⟩
  · have hn4 : n ≤ 4096 := by omega
    clear hbig
    have HIA : Hid ((Tryz.prog.info? 49).map (·.size) = some 20) := Lib.hid (by kernel_rfl)
    have HIS : Hid ((Tryz.prog.info? 38).map (·.size) = some 12) := Lib.hid (by kernel_rfl)
    go_wp2_with fail
    refine (roll_any A n c 8 _ HB.out hn4).mono ?_
    rintro e w1 ⟨g, rfl, hg, CU, K⟩
    go_wp2_with fail
    refine (scheme2_any g w1 CU).mono ?_
    rintro e w2 ⟨v0, v1, v2, v3, d, rfl, o0, o1, o2, o3, CU2, hk, ⟨hok, hn6, -, -, -⟩, hn0, hn1⟩
    have Lp : Lists w2 w1.heap.size v0 v1 v2 v3 d := ⟨o0, o1, o2, o3⟩
    replace Lp := Lp.base K.size
    have hgl := CU.lt
    replace K := K.trans (hk.below (B := w.heap.size) K.size (by rintro b hb rfl; omega))
    replace CU := CU2
    clear o0 o1 o2 o3 CU2 hk
    have HOK := Lib.hid hok
    obtain ⟨V0, C0, rfl, -, -⟩ := Lp.o0.formR
    obtain ⟨V1, C1, rfl, -, -⟩ := Lp.o1.formR
    obtain ⟨V2, C2, rfl, -, -⟩ := Lp.o2.formR
    obtain ⟨V3, C3, rfl, -, -⟩ := Lp.o3.formR
    have hg2 : g < w2.heap.size := CU.lt
    have hw2 : w.heap.size ≤ w2.heap.size := K.size
    go_upto_region 5 with fail
    have hK0 : Below w2.heap.size w2 w2 := Below.refl _ _
    have XP := Own.box2 K (planC V0 V1 V2 V3 d.n0 C0 d.n1 C1 d.n2 C2 d.n3 C3 d.l d.p d.t) 29
    have hK1 := hK0.alloc hK0.size (.cells (planC V0 V1 V2 V3 d.n0 C0 d.n1 C1 d.n2 C2 d.n3 C3 d.l d.p d.t) 29)
    have hb := hK1
    replace K := K.trans (hb.mono K.size)
    replace CU := CU.below hb
    replace Lp := Lp.below hb
    clear hb hK0 hK1
    generalize (w2.alloc (.cells (planC V0 V1 V2 V3 d.n0 C0 d.n1 C1 d.n2 C2 d.n3 C3 d.l d.p d.t) 29)) = w3 at K CU Lp XP ⊢
    have h34 := XP.z
    generalize w2.heap.size = R4 at XP hg2 hw2 h34 ⊢
    have h1 := XP.C
    go_wp2_with fail
    refine (newAgent_any _ d w3 (Lp.plR (PlFits.of_ok hok)) hok).mono ?_
    rintro e w4 ⟨v', rfl, OA, hb⟩
    have AG : Hid (AgD d (newS d) []) := Lib.hid (ag_new hok)
    obtain ⟨s1, hs1⟩ : ∃ s, newS d = s := ⟨_, rfl⟩
    rw [hs1] at OA AG
    clear hs1
    replace OA := OA.base K.size
    clear h1
    replace K := K.trans (hb.mono K.size)
    replace CU := CU.below hb
    replace Lp := Lp.below hb
    replace XP := XP.step hb
    clear hb
    obtain ⟨cs, rfl, hsz, hone⟩ := OA.flat
    have h45 : R4 < w4.heap.size := XP.z
    have HB5 := heap_alloc_new w4 (.cells (agC (.slice none 0 0) (.slice none 0 0) (.slice none 0 0) (.slice none 0 0) 0 0 0 0 false 0 0 0 0 (.slice none 0 0) (.slice none 0 0) (.slice none 0 0) (.slice none 0 0) 0 0 (.slice none 0 0)) 49)
    go_upto_region 6 with (
      ((with_reducible refine store_agent (x := 5) (y := 27) (g := w4.heap.size) (cs := cs) ?_ ?_ HB5 ?_ ?_ ?_ ?_)
       · rfl
       · rfl
       · rw [hsz]; exact HIA.out
       · rw [hsz]; rfl
       · exact hone))
    have hb : Below w4.heap.size w4 ((w4.alloc (.cells (agC (.slice none 0 0) (.slice none 0 0) (.slice none 0 0) (.slice none 0 0) 0 0 0 0 false 0 0 0 0 (.slice none 0 0) (.slice none 0 0) (.slice none 0 0) (.slice none 0 0) 0 0 (.slice none 0 0)) 49)).setRow w4.heap.size cs) := below_setRow ((Below.refl _ _).alloc (Nat.le_refl _) _) (Nat.le_refl _) _
    replace K := K.trans (hb.mono K.size)
    replace CU := CU.below hb
    replace Lp := Lp.below hb
    replace XP := XP.step hb
    replace OA := OA.below hb
    clear hb
    replace HB5 : ((w4.alloc (.cells (agC (.slice none 0 0) (.slice none 0 0) (.slice none 0 0) (.slice none 0 0) 0 0 0 0 false 0 0 0 0 (.slice none 0 0) (.slice none 0 0) (.slice none 0 0) (.slice none 0 0) 0 0 (.slice none 0 0)) 49)).setRow w4.heap.size cs).heap[w4.heap.size]? = some (.cells cs 49) := setRow_heap _ _ _ _ _ _ HB5
    generalize ((w4.alloc (.cells (agC (.slice none 0 0) (.slice none 0 0) (.slice none 0 0) (.slice none 0 0) 0 0 0 0 false 0 0 0 0 (.slice none 0 0) (.slice none 0 0) (.slice none 0 0) (.slice none 0 0) 0 0 (.slice none 0 0)) 49)).setRow w4.heap.size cs) = w5 at K CU Lp XP OA HB5 ⊢
    generalize w4.heap.size = R5 at HB5 h45 ⊢
    have HSZ := Lib.hid hsz
    have hsd6 := AG.out.len
    obtain ⟨ob6, hob6⟩ : ∃ o, obeyD d s1 [] 1 0 0 = o := ⟨_, rfl⟩
    have AG6 : Hid (AgD d ob6.1.1 ob6.1.2) := Lib.hid (by rw [← hob6]; exact ag_obey AG.out)
    go_upto_region 7 with (first
      | (have hq := HX6
         clear hq
         ((with_reducible refine store_agent (x := 5) (y := 33) (g := R5) (cs := cs6) ?_ ?_ HX6 ?_ ?_ ?_ ?_)
          · rfl
          · rfl
          · rw [hsz6]; exact HIA.out
          · rw [hsz6, HSZ.out]
          · exact hone6))
      | (go_at_call 20
         refine (obeyed_any _ d s1 [] 1 0 0 _ (OA.is (PlFits.of_ok HOK.out) (fits_ok AG.out.ok)) AG.out).mono ?_
         rw [hob6]
         rintro e wx ⟨vx, rfl, OX, hb⟩
         replace OX := OX.base K.size
         have HX6 := (hb.block _ (Array.getElem?_eq_some_iff.1 HB5).1).trans HB5
         obtain ⟨cs6, rfl, hsz6, hone6⟩ := OX.flat)
      | ((with_reducible refine load_agent (x := 5) (g := R5) (cs := cs) ?_ HB5 ?_ ?_)
         · rfl
         · rw [HSZ.out]; exact HIA.out))
    replace K := K.trans (hb.mono K.size)
    replace CU := CU.below hb
    replace Lp := Lp.below hb
    replace XP := XP.step hb
    clear hb
    have OA := OX
    have HB5 := HX6
    clear HX6
    have kk := keepsRow_ wx R5 cs6
    replace OA := OA.keepsT kk HB5 (by decide)
    replace Lp := Lp.keeps kk HB5 (by decide)
    replace XP := XP.keeps kk (by rintro b rfl; omega) (by show ¬ R4 = R5; omega)
    replace CU := CU.keeps kk (fun b hb e => by omega)
    replace K := belowRow_ K (B := R5) (by omega) cs6
    replace HB5 := setRow_heap _ _ _ cs6 _ _ HB5
    clear kk OX
    generalize wx.setRow R5 cs6 = w6 at K CU Lp XP OA HB5 ⊢
    obtain ⟨⟨s6, st6⟩, cd6⟩ := ob6
    dsimp only at OA AG6
    replace AG := AG6
    replace HSZ := Lib.hid hsz6
    obtain ⟨csA, hcsA⟩ : ∃ c, cs6 = c := ⟨_, rfl⟩
    rw [hcsA] at OA HB5 hsz6
    replace HSZ : Hid (csA.size = 20) := Lib.hid hsz6
    have hsd7 := AG.out.len
    obtain ⟨ob7, hob7⟩ : ∃ o, obeyD d s6 st6 2 0 0 = o := ⟨_, rfl⟩
    have AG7 : Hid (AgD d ob7.1.1 ob7.1.2) := Lib.hid (by rw [← hob7]; exact ag_obey AG.out)
    go_upto_region 8 with (first
      | (have hq := HX7
         clear hq
         ((with_reducible refine store_agent (x := 5) (y := 39) (g := R5) (cs := cs7) ?_ ?_ HX7 ?_ ?_ ?_ ?_)
          · rfl
          · rfl
          · rw [hsz7]; exact HIA.out
          · rw [hsz7, HSZ.out]
          · exact hone7))
      | (go_at_call 20
         refine (obeyed_any _ d s6 st6 2 0 0 _ (OA.is (PlFits.of_ok HOK.out) (fits_ok AG.out.ok)) AG.out).mono ?_
         rw [hob7]
         rintro e wx ⟨vx, rfl, OX, hb⟩
         replace OX := OX.base K.size
         have HX7 := (hb.block _ (Array.getElem?_eq_some_iff.1 HB5).1).trans HB5
         obtain ⟨cs7, rfl, hsz7, hone7⟩ := OX.flat)
      | ((with_reducible refine load_agent (x := 5) (g := R5) (cs := csA) ?_ HB5 ?_ ?_)
         · rfl
         · rw [HSZ.out]; exact HIA.out))
    replace K := K.trans (hb.mono K.size)
    replace CU := CU.below hb
    replace Lp := Lp.below hb
    replace XP := XP.step hb
    clear hb
    have OA := OX
    have HB5 := HX7
    clear HX7
    have kk := keepsRow_ wx R5 cs7
    replace OA := OA.keepsT kk HB5 (by decide)
    replace Lp := Lp.keeps kk HB5 (by decide)
    replace XP := XP.keeps kk (by rintro b rfl; omega) (by show ¬ R4 = R5; omega)
    replace CU := CU.keeps kk (fun b hb e => by omega)
    replace K := belowRow_ K (B := R5) (by omega) cs7
    replace HB5 := setRow_heap _ _ _ cs7 _ _ HB5
    clear kk OX
    generalize wx.setRow R5 cs7 = w7 at K CU Lp XP OA HB5 ⊢
    obtain ⟨⟨s7, st7⟩, cd7⟩ := ob7
    dsimp only at OA AG7
    replace AG := AG7
    obtain ⟨p0, p1, p2, p3, u0, u1, u2, u3, bb, hv, -, Os, -, -⟩ := OA.it
    injection hv with hv
    subst hv
    clear OA
    obtain ⟨⟨E0, k0, rfl⟩, ⟨E1, k1, rfl⟩, ⟨E2, k2, rfl⟩, ⟨E3, k3, rfl⟩⟩ := Os.shapes
    have h5 : ∀ o, w7.cell? ⟨R5, o, none⟩ = (agC p0 p1 p2 p3 d.l d.p d.t s7.ph s7.co s7.ck s7.bo s7.ba s7.lb (.slice E0 s7.pods.length k0) (.slice E1 s7.mnts.length k1) (.slice E2 s7.devs.length k2) (.slice E3 s7.lks.length k3) s7.gd s7.pr bb)[o]? := fun o => cell_of_row _ _ o _ _ _ HB5
    have h57 := (Array.getElem?_eq_some_iff.1 HB5).1
    clear HB5
    go_upto_region 9 with fail
    have HS7 := heap_alloc_new w7 (.cells (stC E0 E1 E2 E3 s7.pods.length k0 s7.mnts.length k1 s7.devs.length k2 s7.lks.length k3 s7.ph s7.co s7.ck s7.bo s7.ba s7.lb s7.gd s7.pr) 38)
    have hb : Below w7.heap.size w7 (w7.alloc (.cells (stC E0 E1 E2 E3 s7.pods.length k0 s7.mnts.length k1 s7.devs.length k2 s7.lks.length k3 s7.ph s7.co s7.ck s7.bo s7.ba s7.lb s7.gd s7.pr) 38)) := (Below.refl _ _).alloc (Nat.le_refl _) _
    replace K := K.trans (hb.mono K.size)
    replace CU := CU.below hb
    replace Lp := Lp.below hb
    replace XP := XP.step hb
    replace Os := Os.below hb
    clear hb h5
    generalize w7.alloc (.cells (stC E0 E1 E2 E3 s7.pods.length k0 s7.mnts.length k1 s7.devs.length k2 s7.lks.length k3 s7.ph s7.co s7.ck s7.bo s7.ba s7.lb s7.gd s7.pr) 38) = w8 at K CU Lp XP Os HS7 ⊢
    generalize w7.heap.size = R7 at HS7 h57 ⊢
    have SO := Lib.hid AG.out.ok
    go_wp2_with fail
    go_loopw [8] (fun i wr => ∃ (k : Nat) (t : StD) (X0 X1 X2 X3 : Option Addr) (m0 m1 m2 m3 : Nat), k ≤ 15 ∧ i = .int .i64 k ∧ StOk d t ∧ Below w.heap.size w wr ∧ Cur 81 .u64 wr g ∧ Lists wr w.heap.size (.slice V0 d.n0 C0) (.slice V1 d.n1 C1) (.slice V2 d.n2 C2) (.slice V3 d.n3 C3) d ∧ Own w wr R4 (planC V0 V1 V2 V3 d.n0 C0 d.n1 C1 d.n2 C2 d.n3 C3 d.l d.p d.t) ∧ OwnSt wr w.heap.size (.agg (stC X0 X1 X2 X3 t.pods.length m0 t.mnts.length m1 t.devs.length m2 t.lks.length m3 t.ph t.co t.ck t.bo t.ba t.lb t.gd t.pr)) t ∧ wr.heap[R7]? = some (.cells (stC X0 X1 X2 X3 t.pods.length m0 t.mnts.length m1 t.devs.length m2 t.lks.length m3 t.ph t.co t.ck t.bo t.ba t.lb t.gd t.pr) 38)) (fun i _ => 15 - (intOf i).toNat)
    case atStart => exact ⟨0, s7, E0, E1, E2, E3, k0, k1, k2, k3, by omega, rfl, SO.out, K, CU, Lp, XP, Os, HS7⟩
    case round =>
      clear K CU Lp XP Os HS7 SO
      obtain ⟨k, t, X0, X1, X2, X3, m0, m1, m2, m3, hk, rfl, so, K, CU, Lp, XP, Os, HS7⟩ := hrel
      have SO := Lib.hid so
      clear so
      by_cases hlt : k < 15
      · have h4 := XP.C
        go_wp2_with fail
        refine (below_any g d.n0 _ CU (by omega) (by omega)).mono ?_
        rintro e w9 ⟨a, rfl, a0, a1, CU9, hk9⟩
        obtain ⟨gcs, hgc⟩ := CU.cells
        replace Lp := Lp.keeps hk9 hgc (by decide)
        replace Os := Os.keepsT hk9 hgc (by decide)
        replace XP := XP.keeps hk9 (by rintro b rfl; omega) (by show ¬ R4 = g; omega)
        replace HS7 := (hk9.block _ (Array.getElem?_eq_some_iff.1 HS7).1 (by show ¬ R7 = g; omega)).trans HS7
        replace K := K.trans (hk9.below (B := w.heap.size) K.size (by rintro b hb rfl; omega))
        replace CU := CU9
        clear CU9 hk9 hgc h4
        obtain ⟨i, rfl⟩ := Int.eq_ofNat_of_zero_le a0
        have hi : i < d.n0 := by omega
        have h4 := XP.C
        have h7 : ∀ o, w9.cell? ⟨R7, o, none⟩ = (stC X0 X1 X2 X3 t.pods.length m0 t.mnts.length m1 t.devs.length m2 t.lks.length m3 t.ph t.co t.ck t.bo t.ba t.lb t.gd t.pr)[o]? := fun o => cell_of_row _ R7 o _ _ _ HS7
        obtain ⟨ans, hans⟩ : ∃ b, (stOkB d t && mayEvictB d t i) = b := ⟨_, rfl⟩
        go_wp2_with fail
        refine (implMayEvict_any _ _ d t i w9 Lp.plan Os.st).mono ?_
        rw [hans]
        rintro e w10 ⟨rfl, hb⟩
        clear h4 h7
        replace K := K.trans (hb.mono K.size)
        replace CU := CU.below hb
        replace Lp := Lp.below hb
        replace XP := XP.step hb
        replace Os := Os.below hb
        replace HS7 := (hb.block _ (Array.getElem?_eq_some_iff.1 HS7).1).trans HS7
        clear hb
        have h4 := XP.C
        have h7 : ∀ o, w10.cell? ⟨R7, o, none⟩ = (stC X0 X1 X2 X3 t.pods.length m0 t.mnts.length m1 t.devs.length m2 t.lks.length m3 t.ph t.co t.ck t.bo t.ba t.lb t.gd t.pr)[o]? := fun o => cell_of_row _ R7 o _ _ _ HS7
        go_wp2_with fail
        refine (mayEvict_any _ _ d t i w10 Lp.plan Os.st).mono ?_
        rw [hans]
        rintro e w11 ⟨rfl, hb⟩
        clear h4 h7
        replace K := K.trans (hb.mono K.size)
        replace CU := CU.below hb
        replace Lp := Lp.below hb
        replace XP := XP.step hb
        replace Os := Os.below hb
        replace HS7 := (hb.block _ (Array.getElem?_eq_some_iff.1 HS7).1).trans HS7
        clear hb
        cases ans
        · go_wp2_with fail
          exact ⟨⟨k + 1, t, X0, X1, X2, X3, m0, m1, m2, m3, by omega, by go_num, SO.out, K, CU, Lp, XP, Os, HS7⟩, by simp [intOf]; omega⟩
        · have HE := Lib.hid hans
          clear hans
          have h4 := XP.C
          have h7 : ∀ o, w11.cell? ⟨R7, o, none⟩ = (stC X0 X1 X2 X3 t.pods.length m0 t.mnts.length m1 t.devs.length m2 t.lks.length m3 t.ph t.co t.ck t.bo t.ba t.lb t.gd t.pr)[o]? := fun o => cell_of_row _ R7 o _ _ _ HS7
          go_wp2_with fail
          obtain ⟨m, hm, hml⟩ := pod_group HOK.out hi
          obtain ⟨h0, hme⟩ : (podAt t i).1 = 0 ∧ d.x1 m < healthyN d t m := by
            have := HE.out
            rw [Bool.and_eq_true] at this
            have h2 := this.2
            simp only [mayEvictB, Bool.and_eq_true, decide_eq_true_eq, Int.toNat_natCast] at h2
            obtain ⟨⟨-, q1⟩, q2⟩ := h2
            rw [hm, Int.toNat_natCast] at q2
            exact ⟨q1, q2⟩
          obtain ⟨hgr, hsx, -, hle⟩ := evict_left SO.out hi h0 (by rw [hm, Int.toNat_natCast]; exact hme)
          rw [hm, Int.toNat_natCast] at hle
          have happ : appliedS d t ⟨2, i, 6⟩ = (applyR t ⟨2, i, 6⟩, true) := by
            unfold appliedS
            rw [stOkB_iff.2 SO.out, hgr]
            rfl
          obtain ⟨x, hx⟩ : ∃ x, applyR t ⟨2, i, 6⟩ = x := ⟨_, rfl⟩
          rw [hx] at happ hsx hle
          have HSX := Lib.hid hsx
          have HLE := Lib.hid hle
          have hrec := specRec_any _ _ d t ⟨2, i, 6⟩ w11 Lp.plan (Os.isR (fits_ok SO.out))
          rw [happ] at hrec
          refine hrec.mono ?_
          clear hrec
          rintro e w12 ⟨vx, rfl, Ox, hb⟩
          replace Ox := Ox.base K.size
          clear h4 h7
          replace K := K.trans (hb.mono K.size)
          replace CU := CU.below hb
          replace Lp := Lp.below hb
          replace XP := XP.step hb
          replace Os := Os.below hb
          replace HS7 := (hb.block _ (Array.getElem?_eq_some_iff.1 HS7).1).trans HS7
          clear hb hx happ hsx hle
          obtain ⟨y0, y1, y2, y3, rfl, -⟩ := Ox.it
          obtain ⟨⟨Y0, f0, rfl⟩, ⟨Y1, f1, rfl⟩, ⟨Y2, f2, rfl⟩, ⟨Y3, f3, rfl⟩⟩ := Ox.shapes
          go_upto_region 18 with (
            (with_reducible refine store_state (x := 7) (y := 69) (g := R7) (cs := stC Y0 Y1 Y2 Y3 x.pods.length f0 x.mnts.length f1 x.devs.length f2 x.lks.length f3 x.ph x.co x.ck x.bo x.ba x.lb x.gd x.pr) ?_ ?_ HS7 ?_ ?_ ?_ ?_)
            · rfl
            · rfl
            · exact HIS.out
            · rfl
            · simp [Value.oneCell'])
          have kk := keepsRow_ w12 (R7) (stC Y0 Y1 Y2 Y3 x.pods.length f0 x.mnts.length f1 x.devs.length f2 x.lks.length f3 x.ph x.co x.ck x.bo x.ba x.lb x.gd x.pr)
          replace K := belowRow_ K (B := R7) (by omega) (stC Y0 Y1 Y2 Y3 x.pods.length f0 x.mnts.length f1 x.devs.length f2 x.lks.length f3 x.ph x.co x.ck x.bo x.ba x.lb x.gd x.pr)
          replace CU := CU.keeps kk (fun b hb e => by omega)
          replace Lp := Lp.keeps kk HS7 (by decide)
          replace XP := XP.keeps kk (by rintro b rfl; omega) (by show ¬ R4 = R7; omega)
          replace Ox := Ox.keepsT kk HS7 (by decide)
          replace HS7 := setRow_heap _ _ _ (stC Y0 Y1 Y2 Y3 x.pods.length f0 x.mnts.length f1 x.devs.length f2 x.lks.length f3 x.ph x.co x.ck x.bo x.ba x.lb x.gd x.pr) _ _ HS7
          clear kk
          clear Os
          generalize w12.setRow R7 (stC Y0 Y1 Y2 Y3 x.pods.length f0 x.mnts.length f1 x.devs.length f2 x.lks.length f3 x.ph x.co x.ck x.bo x.ba x.lb x.gd x.pr) = w13 at K CU Lp XP HS7 Ox ⊢
          have h4 := XP.C
          obtain ⟨Aq, cq, hv0, -, sl0⟩ := Lp.o0.formR
          injection hv0 with e0 _ e0c
          subst e0 e0c
          obtain ⟨Am, cm, hv1, -, sl1⟩ := Lp.o1.formR
          injection hv1 with e1 _ e1c
          subst e1 e1c
          obtain ⟨bp, op, rfl, hbp, q0, -, -, -⟩ := sl0.cell4 hi
          obtain ⟨bm, om, rfl, hbm, r0⟩ := sl1.cell1 hml
          rw [hm] at q0
          clear sl0 sl1 hm
          go_upto_region 19 with fail
          clear h4 q0
          have hml1 : (m : Int) < (d.n1 : Int) := by omega
          refine wp_region_noPanic ?_
          refine wp_region_held_drew (S := fun W => (∀ o, W.cell? ⟨R4, o, none⟩ = (planC (some ⟨bp, op, none⟩) (some ⟨bm, om, none⟩) V2 V3 d.n0 C0 d.n1 C1 d.n2 C2 d.n3 C3 d.l d.p d.t)[o]?) ∧ (∀ o, W.cell? ⟨R7, o, none⟩ = (stC Y0 Y1 Y2 Y3 x.pods.length f0 x.mnts.length f1 x.devs.length f2 x.lks.length f3 x.ph x.co x.ck x.bo x.ba x.lb x.gd x.pr)[o]?) ∧ W.cell? ⟨bm, om + m, none⟩ = some (.int .i64 (d.x1 m))) (by kernel_rfl) (⟨XP.drew.C, fun o => cell_of_row _ _ o _ _ _ HS7, r0⟩) (fun _ => ?_)
          rw [← heap_drew w13] at HS7
          replace K := K.drew
          replace CU := CU.below (Below.refl _ _).drew
          replace Lp := Lp.below (Below.refl _ _).drew
          replace XP := XP.drew
          replace Ox := Ox.below (Below.refl _ _).drew
          replace r0 : w13.drew.cell? ⟨bm, om + m, none⟩ = some (.int .i64 (d.x1 m)) := r0
          replace hbm : bm < w13.drew.heap.size := hbm
          generalize w13.drew = v0 at r0 hbm K CU Lp XP HS7 Ox ⊢
          refine wpAnyH_take (i := 0) (v := ?_) rfl (by kernel_rfl) (by kernel_rfl) (by kernel_rfl) (fun _ _ _ h => h) (Or.inl ⟨by rfl, ?_⟩) ⟨XP.C, fun o => cell_of_row _ _ o _ _ _ HS7, r0⟩ ?_
          rotate_left 1
          · intro w hSw
            obtain ⟨hs1, hs2, hs3⟩ := hSw
            go_simp
            try with_reducible rfl
          change wpAnyH _ _ _ _ _ _ _ (Act.put _ (some 77) _) _
          dsimp only [Act.put]
          refine wpAnyH_take (i := 1) (v := ?_) rfl (by kernel_rfl) (by kernel_rfl) (by kernel_rfl) (fun _ _ _ h => h) (Or.inl ⟨by rfl, ?_⟩) ⟨XP.C, fun o => cell_of_row _ _ o _ _ _ HS7, r0⟩ ?_
          rotate_left 1
          · intro w hSw
            obtain ⟨hs1, hs2, hs3⟩ := hSw
            go_simp
            try with_reducible rfl
          change wpAnyH _ _ _ _ _ _ _ (Act.put _ (some 78) _) _
          dsimp only [Act.put]
          refine wpAnyH_take (i := 2) (v := ?_) rfl (by kernel_rfl) (by kernel_rfl) (by kernel_rfl) (fun _ _ _ h => h) (Or.inl ⟨by rfl, ?_⟩) ⟨XP.C, fun o => cell_of_row _ _ o _ _ _ HS7, r0⟩ ?_
          rotate_left 1
          · intro w hSw
            obtain ⟨hs1, hs2, hs3⟩ := hSw
            go_simp
            try with_reducible rfl
          change wpAnyH _ _ _ _ _ _ _ (Act.put _ (some 79) _) _
          dsimp only [Act.put]
          refine wpAnyH_take (i := 4) (v := ?_) rfl (by kernel_rfl) (by kernel_rfl) (by kernel_rfl) (fun _ _ _ h => h) (Or.inl ⟨by rfl, ?_⟩) ⟨XP.C, fun o => cell_of_row _ _ o _ _ _ HS7, r0⟩ ?_
          rotate_left 1
          · intro w hSw
            obtain ⟨hs1, hs2, hs3⟩ := hSw
            go_simp
            try with_reducible rfl
          change wpAnyH _ _ _ _ _ _ _ (Act.put _ (some 81) _) _
          dsimp only [Act.put]
          refine wpAnyH_take (i := 5) (v := ?_) rfl (by kernel_rfl) (by kernel_rfl) (by kernel_rfl) (fun _ _ _ h => h) (Or.inl ⟨by rfl, ?_⟩) ⟨XP.C, fun o => cell_of_row _ _ o _ _ _ HS7, r0⟩ ?_
          rotate_left 1
          · intro w hSw
            obtain ⟨hs1, hs2, hs3⟩ := hSw
            go_simp
            try with_reducible rfl
          change wpAnyH _ _ _ _ _ _ _ (Act.put _ (some 82) _) _
          dsimp only [Act.put]
          refine wpAnyH_take (i := 6) (v := ?_) rfl (by kernel_rfl) (by kernel_rfl) (by kernel_rfl) (fun _ _ _ h => h) (Or.inl ⟨by rfl, ?_⟩) ⟨XP.C, fun o => cell_of_row _ _ o _ _ _ HS7, r0⟩ ?_
          rotate_left 1
          · intro w hSw
            obtain ⟨hs1, hs2, hs3⟩ := hSw
            go_simp
            try with_reducible rfl
          change wpAnyH _ _ _ _ _ _ _ (Act.put _ (some 83) _) _
          dsimp only [Act.put]
          refine wpAnyH_take (i := 7) (v := ?_) rfl (by kernel_rfl) (by kernel_rfl) (by kernel_rfl) (fun _ _ _ h => h) (Or.inl ⟨by rfl, ?_⟩) ⟨XP.C, fun o => cell_of_row _ _ o _ _ _ HS7, r0⟩ ?_
          rotate_left 1
          · intro w hSw
            obtain ⟨hs1, hs2, hs3⟩ := hSw
            go_simp
            try with_reducible rfl
          change wpAnyH _ _ _ _ _ _ _ (Act.put _ (some 84) _) _
          dsimp only [Act.put]
          refine wpAnyH_take (i := 8) (v := ?_) rfl (by kernel_rfl) (by kernel_rfl) (by kernel_rfl) (fun _ _ _ h => h) (Or.inl ⟨by rfl, ?_⟩) ⟨XP.C, fun o => cell_of_row _ _ o _ _ _ HS7, r0⟩ ?_
          rotate_left 1
          · intro w hSw
            obtain ⟨hs1, hs2, hs3⟩ := hSw
            go_simp
            try with_reducible rfl
          change wpAnyH _ _ _ _ _ _ _ (Act.put _ (some 85) _) _
          dsimp only [Act.put]
          refine wpAnyH_ready (rs := [3]) (by kernel_rfl) (by simp) ?_
          refine AllReadyH.cons rfl (fun K' hK => ?_) AllReadyH.nil
          go_simp
          go_at_call 25
          refine (implHealthyIn_any _ _ d x m v0 Lp.plan Ox.st).mono ?_
          rw [show (if stOkB d x && inB (m : Int) 0 (d.n1 - 1) then healthyN d x m else -1) = healthyN d x m from by
            rw [stOkB_iff.2 HSX.out, show inB (m : Int) 0 (d.n1 - 1) = true from by rw [inB_true]; omega]; rfl]
          rintro e v1 ⟨rfl, hb⟩
          replace r0 := (hb.cell (p := ⟨bm, om + m, none⟩) hbm).trans r0
          replace hbm := Nat.lt_of_lt_of_le hbm hb.size
          replace K := K.trans (hb.mono K.size)
          replace CU := CU.below hb
          replace Lp := Lp.below hb
          replace XP := XP.step hb
          replace HS7 := (hb.block _ (Array.getElem?_eq_some_iff.1 HS7).1).trans HS7
          replace Ox := Ox.below hb
          clear hb
          go_wp2_with fail
          refine hK.out _ _ ⟨XP.C, fun o => cell_of_row _ _ o _ _ _ HS7, r0⟩ (fun _ => ?_)
          clear hK K'
          try (change wpAnyH _ _ _ _ _ _ _ (Act.put _ (some 80) _) _; dsimp only [Act.put])
          refine wpAnyH_ready (rs := [9]) (by kernel_rfl) (by simp) ?_
          refine AllReadyH.cons rfl (fun K' hK => ?_) AllReadyH.nil
          go_simp
          refine hK.out _ _ ⟨XP.C, fun o => cell_of_row _ _ o _ _ _ HS7, r0⟩ (fun _ => ?_)
          clear hK K'
          try (change wpAnyH _ _ _ _ _ _ _ (Act.put _ (some 86) _) _; dsimp only [Act.put])
          refine wpAnyH_done (by kernel_rfl) ?_ _
          refine NoPanic.normal ?_
          have hcmp : ¬ healthyN d x m < d.x1 m := by have := HLE.out; omega
          generalize healthyN d x m = hn_ at hcmp ⊢
          clear r0
          go_wp2_with fail
          exact ⟨⟨k + 1, x, Y0, Y1, Y2, Y3, f0, f1, f2, f3, by omega, by go_num, HSX.out, K, CU, Lp, XP, Ox, HS7⟩, by simp [intOf]; omega⟩
      · obtain rfl : k = 15 := by omega
        clear Lp XP Os HS7 CU SO
        go_wp2_with fail
        refine (drawMayEvict_any A n c wr ((HB.out.below K (Nat.le_refl _)).more K.size) hn4).mono ?_
        rintro e w20 ⟨v0, v1, v2, v3, q, us, u, kp, rfl, Lq, Ou, -, -, hb⟩
        replace Lq := Lq.base K.size
        replace Ou := Ou.base K.size
        replace K := K.trans (hb.mono K.size)
        clear hb
        obtain ⟨U0, G0, rfl, -, -⟩ := Lq.o0.formR
        obtain ⟨U1, G1, rfl, -, -⟩ := Lq.o1.formR
        obtain ⟨U2, G2, rfl, -, -⟩ := Lq.o2.formR
        obtain ⟨U3, G3, rfl, -, -⟩ := Lq.o3.formR
        obtain ⟨y0, y1, y2, y3, rfl, -⟩ := Ou.it
        obtain ⟨⟨I0, j0, rfl⟩, ⟨I1, j1, rfl⟩, ⟨I2, j2, rfl⟩, ⟨I3, j3, rfl⟩⟩ := Ou.shapes
        go_upto_region 22 with fail
        have hK0 : Below w20.heap.size w20 w20 := Below.refl _ _
        have XQ := Own.box2 K (planC U0 U1 U2 U3 q.n0 G0 q.n1 G1 q.n2 G2 q.n3 G3 q.l q.p q.t) 29
        have hK1 := hK0.alloc hK0.size (.cells (planC U0 U1 U2 U3 q.n0 G0 q.n1 G1 q.n2 G2 q.n3 G3 q.l q.p q.t) 29)
        have XU := Own.box2 (K.trans (hK1.mono K.size)) (stC I0 I1 I2 I3 u.pods.length j0 u.mnts.length j1 u.devs.length j2 u.lks.length j3 u.ph u.co u.ck u.bo u.ba u.lb u.gd u.pr) 38
        have hK2 := hK1.alloc hK1.size (.cells (stC I0 I1 I2 I3 u.pods.length j0 u.mnts.length j1 u.devs.length j2 u.lks.length j3 u.ph u.co u.ck u.bo u.ba u.lb u.gd u.pr) 38)
        replace XQ := XQ.alloc (.cells (stC I0 I1 I2 I3 u.pods.length j0 u.mnts.length j1 u.devs.length j2 u.lks.length j3 u.ph u.co u.ck u.bo u.ba u.lb u.gd u.pr) 38)
        have hb := hK2
        replace K := K.trans (hb.mono K.size)
        replace Lq := Lq.below hb
        replace Ou := Ou.below hb
        clear hb hK0 hK1 hK2
        try rw [heap_size_alloc_] at XU
        generalize ((w20.alloc (.cells (planC U0 U1 U2 U3 q.n0 G0 q.n1 G1 q.n2 G2 q.n3 G3 q.l q.p q.t) 29)).alloc (.cells (stC I0 I1 I2 I3 u.pods.length j0 u.mnts.length j1 u.devs.length j2 u.lks.length j3 u.ph u.co u.ck u.bo u.ba u.lb u.gd u.pr) 38)) = w21 at K Lq Ou XQ XU ⊢
        have hzw21 := XQ.z
        generalize hww21 : w20.heap.size = B1 at XQ XU hzw21 ⊢
        go_wp2_with fail
        refine (drawHealthyIn_any A n c w21 ((HB.out.below K (Nat.le_refl _)).more K.size) hn4).mono ?_
        rintro e w22 ⟨v0, v1, v2, v3, r, us, z, kg, rfl, Lr, Oz, -, -, hb⟩
        replace Lr := Lr.base K.size
        replace Oz := Oz.base K.size
        replace K := K.trans (hb.mono K.size)
        replace Lq := Lq.below hb
        replace Ou := Ou.below hb
        replace XQ := XQ.step hb
        replace XU := XU.step hb
        clear hb
        obtain ⟨M0, H0, rfl, -, -⟩ := Lr.o0.formR
        obtain ⟨M1, H1, rfl, -, -⟩ := Lr.o1.formR
        obtain ⟨M2, H2, rfl, -, -⟩ := Lr.o2.formR
        obtain ⟨M3, H3, rfl, -, -⟩ := Lr.o3.formR
        obtain ⟨y0, y1, y2, y3, rfl, -⟩ := Oz.it
        obtain ⟨⟨N0, l0, rfl⟩, ⟨N1, l1, rfl⟩, ⟨N2, l2, rfl⟩, ⟨N3, l3, rfl⟩⟩ := Oz.shapes
        go_upto_region 23 with fail
        have hK0 : Below w22.heap.size w22 w22 := Below.refl _ _
        have XR := Own.box2 K (planC M0 M1 M2 M3 r.n0 H0 r.n1 H1 r.n2 H2 r.n3 H3 r.l r.p r.t) 29
        have hK1 := hK0.alloc hK0.size (.cells (planC M0 M1 M2 M3 r.n0 H0 r.n1 H1 r.n2 H2 r.n3 H3 r.l r.p r.t) 29)
        have XZ := Own.box2 (K.trans (hK1.mono K.size)) (stC N0 N1 N2 N3 z.pods.length l0 z.mnts.length l1 z.devs.length l2 z.lks.length l3 z.ph z.co z.ck z.bo z.ba z.lb z.gd z.pr) 38
        have hK2 := hK1.alloc hK1.size (.cells (stC N0 N1 N2 N3 z.pods.length l0 z.mnts.length l1 z.devs.length l2 z.lks.length l3 z.ph z.co z.ck z.bo z.ba z.lb z.gd z.pr) 38)
        replace XR := XR.alloc (.cells (stC N0 N1 N2 N3 z.pods.length l0 z.mnts.length l1 z.devs.length l2 z.lks.length l3 z.ph z.co z.ck z.bo z.ba z.lb z.gd z.pr) 38)
        have hb := hK2
        replace K := K.trans (hb.mono K.size)
        replace Lq := Lq.below hb
        replace Ou := Ou.below hb
        replace XQ := XQ.step hb
        replace XU := XU.step hb
        replace Lr := Lr.below hb
        replace Oz := Oz.below hb
        clear hb hK0 hK1 hK2
        try rw [heap_size_alloc_] at XZ
        generalize ((w22.alloc (.cells (planC M0 M1 M2 M3 r.n0 H0 r.n1 H1 r.n2 H2 r.n3 H3 r.l r.p r.t) 29)).alloc (.cells (stC N0 N1 N2 N3 z.pods.length l0 z.mnts.length l1 z.devs.length l2 z.lks.length l3 z.ph z.co z.ck z.bo z.ba z.lb z.gd z.pr) 38)) = w23 at K Lq Ou XQ XU Lr Oz XR XZ ⊢
        have hzw23 := XR.z
        generalize hww23 : w22.heap.size = B2 at XR XZ hzw23 ⊢
        obtain ⟨ha, hha⟩ : ∃ v, (if stOkB r z && inB kg 0 (r.n1 - 1) then healthyN r z kg else -1) = v := ⟨_, rfl⟩
        have HHA := Lib.hid hha
        clear hha
        refine wp_region_noPanic ?_
        refine wp_region_held_drew (S := fun W => (∀ o, W.cell? ⟨B1, o, none⟩ = (planC U0 U1 U2 U3 q.n0 G0 q.n1 G1 q.n2 G2 q.n3 G3 q.l q.p q.t)[o]?) ∧ (∀ o, W.cell? ⟨B1 + 1, o, none⟩ = (stC I0 I1 I2 I3 u.pods.length j0 u.mnts.length j1 u.devs.length j2 u.lks.length j3 u.ph u.co u.ck u.bo u.ba u.lb u.gd u.pr)[o]?) ∧ (∀ o, W.cell? ⟨B2, o, none⟩ = (planC M0 M1 M2 M3 r.n0 H0 r.n1 H1 r.n2 H2 r.n3 H3 r.l r.p r.t)[o]?) ∧ (∀ o, W.cell? ⟨B2 + 1, o, none⟩ = (stC N0 N1 N2 N3 z.pods.length l0 z.mnts.length l1 z.devs.length l2 z.lks.length l3 z.ph z.co z.ck z.bo z.ba z.lb z.gd z.pr)[o]?)) (by kernel_rfl) (⟨XQ.drew.C, XU.drew.C, XR.drew.C, XZ.drew.C⟩) (fun _ => ?_)
        replace K := K.drew
        replace Lq := Lq.below (Below.refl _ _).drew
        replace Ou := Ou.below (Below.refl _ _).drew
        replace XQ := XQ.drew
        replace XU := XU.drew
        replace Lr := Lr.below (Below.refl _ _).drew
        replace Oz := Oz.below (Below.refl _ _).drew
        replace XR := XR.drew
        replace XZ := XZ.drew
        generalize w23.drew = v0 at K Lq Ou XQ XU Lr Oz XR XZ ⊢
        refine wpAnyH_take (i := 0) (v := ?_) rfl (by kernel_rfl) (by kernel_rfl) (by kernel_rfl) (fun _ _ _ h => h) (Or.inl ⟨by rfl, ?_⟩) ⟨XQ.C, XU.C, XR.C, XZ.C⟩ ?_
        rotate_left 1
        · intro w hSw
          obtain ⟨hs1, hs2, hs3, hs4⟩ := hSw
          go_simp
          try with_reducible rfl
        change wpAnyH _ _ _ _ _ _ _ (Act.put _ (some 99) _) _
        dsimp only [Act.put]
        refine wpAnyH_take (i := 1) (v := ?_) rfl (by kernel_rfl) (by kernel_rfl) (by kernel_rfl) (fun _ _ _ h => h) (Or.inl ⟨by rfl, ?_⟩) ⟨XQ.C, XU.C, XR.C, XZ.C⟩ ?_
        rotate_left 1
        · intro w hSw
          obtain ⟨hs1, hs2, hs3, hs4⟩ := hSw
          go_simp
          try with_reducible rfl
        change wpAnyH _ _ _ _ _ _ _ (Act.put _ (some 100) _) _
        dsimp only [Act.put]
        refine wpAnyH_take (i := 2) (v := ?_) rfl (by kernel_rfl) (by kernel_rfl) (by kernel_rfl) (fun _ _ _ h => h) (Or.inl ⟨by rfl, ?_⟩) ⟨XQ.C, XU.C, XR.C, XZ.C⟩ ?_
        rotate_left 1
        · intro w hSw
          obtain ⟨hs1, hs2, hs3, hs4⟩ := hSw
          go_simp
          try with_reducible rfl
        change wpAnyH _ _ _ _ _ _ _ (Act.put _ (some 101) _) _
        dsimp only [Act.put]
        refine wpAnyH_take (i := 4) (v := ?_) rfl (by kernel_rfl) (by kernel_rfl) (by kernel_rfl) (fun _ _ _ h => h) (Or.inl ⟨by rfl, ?_⟩) ⟨XQ.C, XU.C, XR.C, XZ.C⟩ ?_
        rotate_left 1
        · intro w hSw
          obtain ⟨hs1, hs2, hs3, hs4⟩ := hSw
          go_simp
          try with_reducible rfl
        change wpAnyH _ _ _ _ _ _ _ (Act.put _ (some 103) _) _
        dsimp only [Act.put]
        refine wpAnyH_take (i := 5) (v := ?_) rfl (by kernel_rfl) (by kernel_rfl) (by kernel_rfl) (fun _ _ _ h => h) (Or.inl ⟨by rfl, ?_⟩) ⟨XQ.C, XU.C, XR.C, XZ.C⟩ ?_
        rotate_left 1
        · intro w hSw
          obtain ⟨hs1, hs2, hs3, hs4⟩ := hSw
          go_simp
          try with_reducible rfl
        change wpAnyH _ _ _ _ _ _ _ (Act.put _ (some 104) _) _
        dsimp only [Act.put]
        refine wpAnyH_take (i := 6) (v := ?_) rfl (by kernel_rfl) (by kernel_rfl) (by kernel_rfl) (fun _ _ _ h => h) (Or.inl ⟨by rfl, ?_⟩) ⟨XQ.C, XU.C, XR.C, XZ.C⟩ ?_
        rotate_left 1
        · intro w hSw
          obtain ⟨hs1, hs2, hs3, hs4⟩ := hSw
          go_simp
          try with_reducible rfl
        change wpAnyH _ _ _ _ _ _ _ (Act.put _ (some 105) _) _
        dsimp only [Act.put]
        refine wpAnyH_ready (rs := [3]) (by kernel_rfl) (by simp) ?_
        refine AllReadyH.cons rfl (fun K' hK => ?_) AllReadyH.nil
        go_simp
        go_at_call 22
        refine (implMayEvict_any _ _ q u kp v0 Lq.plan Ou.st).mono ?_
        skip
        rintro e v1 ⟨rfl, hb⟩
        replace K := K.trans (hb.mono K.size)
        replace Lq := Lq.below hb
        replace Ou := Ou.below hb
        replace XQ := XQ.step hb
        replace XU := XU.step hb
        replace Lr := Lr.below hb
        replace Oz := Oz.below hb
        replace XR := XR.step hb
        replace XZ := XZ.step hb
        clear hb
        go_wp2_with fail
        refine hK.out _ _ ⟨XQ.C, XU.C, XR.C, XZ.C⟩ (fun _ => ?_)
        clear hK K'
        try (change wpAnyH _ _ _ _ _ _ _ (Act.put _ (some 102) _) _; dsimp only [Act.put])
        refine wpAnyH_ready (rs := [7]) (by kernel_rfl) (by simp) ?_
        refine AllReadyH.cons rfl (fun K' hK => ?_) AllReadyH.nil
        go_simp
        go_at_call 23
        refine (mayEvict_any _ _ q u kp v1 Lq.plan Ou.st).mono ?_
        skip
        rintro e v2 ⟨rfl, hb⟩
        replace K := K.trans (hb.mono K.size)
        replace Lq := Lq.below hb
        replace Ou := Ou.below hb
        replace XQ := XQ.step hb
        replace XU := XU.step hb
        replace Lr := Lr.below hb
        replace Oz := Oz.below hb
        replace XR := XR.step hb
        replace XZ := XZ.step hb
        clear hb
        go_wp2_with fail
        refine hK.out _ _ ⟨XQ.C, XU.C, XR.C, XZ.C⟩ (fun _ => ?_)
        clear hK K'
        try (change wpAnyH _ _ _ _ _ _ _ (Act.put _ (some 106) _) _; dsimp only [Act.put])
        refine wpAnyH_ready (rs := [8]) (by kernel_rfl) (by simp) ?_
        refine AllReadyH.cons rfl (fun K' hK => ?_) AllReadyH.nil
        go_simp
        refine hK.out _ _ ⟨XQ.C, XU.C, XR.C, XZ.C⟩ (fun _ => ?_)
        clear hK K'
        try (change wpAnyH _ _ _ _ _ _ _ (Act.put _ (some 107) _) _; dsimp only [Act.put])
        refine wpAnyH_ready (rs := [9]) (by kernel_rfl) (by simp) ?_
        refine AllReadyH.cons rfl (fun K' hK => ?_) AllReadyH.nil
        go_simp
        refine hK.out _ _ ⟨XQ.C, XU.C, XR.C, XZ.C⟩ (fun _ => ?_)
        clear hK K'
        try (change wpAnyH _ _ _ _ _ _ _ (Act.put _ (some 108) _) _; dsimp only [Act.put])
        refine wpAnyH_take (i := 10) (v := ?_) rfl (by kernel_rfl) (by kernel_rfl) (by kernel_rfl) (fun _ _ _ h => h) (Or.inl ⟨by rfl, ?_⟩) ⟨XQ.C, XU.C, XR.C, XZ.C⟩ ?_
        rotate_left 1
        · intro w hSw
          obtain ⟨hs1, hs2, hs3, hs4⟩ := hSw
          go_simp
          try with_reducible rfl
        change wpAnyH _ _ _ _ _ _ _ (Act.put _ (some 109) _) _
        dsimp only [Act.put]
        refine wpAnyH_take (i := 11) (v := ?_) rfl (by kernel_rfl) (by kernel_rfl) (by kernel_rfl) (fun _ _ _ h => h) (Or.inl ⟨by rfl, ?_⟩) ⟨XQ.C, XU.C, XR.C, XZ.C⟩ ?_
        rotate_left 1
        · intro w hSw
          obtain ⟨hs1, hs2, hs3, hs4⟩ := hSw
          go_simp
          try with_reducible rfl
        change wpAnyH _ _ _ _ _ _ _ (Act.put _ (some 110) _) _
        dsimp only [Act.put]
        refine wpAnyH_take (i := 12) (v := ?_) rfl (by kernel_rfl) (by kernel_rfl) (by kernel_rfl) (fun _ _ _ h => h) (Or.inl ⟨by rfl, ?_⟩) ⟨XQ.C, XU.C, XR.C, XZ.C⟩ ?_
        rotate_left 1
        · intro w hSw
          obtain ⟨hs1, hs2, hs3, hs4⟩ := hSw
          go_simp
          try with_reducible rfl
        change wpAnyH _ _ _ _ _ _ _ (Act.put _ (some 111) _) _
        dsimp only [Act.put]
        refine wpAnyH_take (i := 14) (v := ?_) rfl (by kernel_rfl) (by kernel_rfl) (by kernel_rfl) (fun _ _ _ h => h) (Or.inl ⟨by rfl, ?_⟩) ⟨XQ.C, XU.C, XR.C, XZ.C⟩ ?_
        rotate_left 1
        · intro w hSw
          obtain ⟨hs1, hs2, hs3, hs4⟩ := hSw
          go_simp
          try with_reducible rfl
        change wpAnyH _ _ _ _ _ _ _ (Act.put _ (some 113) _) _
        dsimp only [Act.put]
        refine wpAnyH_take (i := 15) (v := ?_) rfl (by kernel_rfl) (by kernel_rfl) (by kernel_rfl) (fun _ _ _ h => h) (Or.inl ⟨by rfl, ?_⟩) ⟨XQ.C, XU.C, XR.C, XZ.C⟩ ?_
        rotate_left 1
        · intro w hSw
          obtain ⟨hs1, hs2, hs3, hs4⟩ := hSw
          go_simp
          try with_reducible rfl
        change wpAnyH _ _ _ _ _ _ _ (Act.put _ (some 114) _) _
        dsimp only [Act.put]
        refine wpAnyH_take (i := 16) (v := ?_) rfl (by kernel_rfl) (by kernel_rfl) (by kernel_rfl) (fun _ _ _ h => h) (Or.inl ⟨by rfl, ?_⟩) ⟨XQ.C, XU.C, XR.C, XZ.C⟩ ?_
        rotate_left 1
        · intro w hSw
          obtain ⟨hs1, hs2, hs3, hs4⟩ := hSw
          go_simp
          try with_reducible rfl
        change wpAnyH _ _ _ _ _ _ _ (Act.put _ (some 115) _) _
        dsimp only [Act.put]
        refine wpAnyH_ready (rs := [13]) (by kernel_rfl) (by simp) ?_
        refine AllReadyH.cons rfl (fun K' hK => ?_) AllReadyH.nil
        rw [if_pos (by rfl)]
        go_simp
        go_at_call 25
        refine (implHealthyIn_any _ _ r z kg v2 Lr.plan Oz.st).mono ?_
        rw [HHA.out]
        rintro e v3 ⟨rfl, hb⟩
        replace K := K.trans (hb.mono K.size)
        replace Lq := Lq.below hb
        replace Ou := Ou.below hb
        replace XQ := XQ.step hb
        replace XU := XU.step hb
        replace Lr := Lr.below hb
        replace Oz := Oz.below hb
        replace XR := XR.step hb
        replace XZ := XZ.step hb
        clear hb
        go_wp2_with fail
        refine hK.out _ _ ⟨XQ.C, XU.C, XR.C, XZ.C⟩ (fun _ => ?_)
        clear hK K'
        try (change wpAnyH _ _ _ _ _ _ _ (Act.put _ (some 112) _) _; dsimp only [Act.put])
        refine wpAnyH_ready (rs := [17]) (by kernel_rfl) (by simp) ?_
        refine AllReadyH.cons rfl (fun K' hK => ?_) AllReadyH.nil
        rw [if_pos (by rfl)]
        go_simp
        go_at_call 28
        refine (healthyIn_any _ _ r z kg v3 Lr.plan Oz.st).mono ?_
        rw [HHA.out]
        rintro e v4 ⟨rfl, hb⟩
        replace K := K.trans (hb.mono K.size)
        replace Lq := Lq.below hb
        replace Ou := Ou.below hb
        replace XQ := XQ.step hb
        replace XU := XU.step hb
        replace Lr := Lr.below hb
        replace Oz := Oz.below hb
        replace XR := XR.step hb
        replace XZ := XZ.step hb
        clear hb
        go_wp2_with fail
        refine hK.out _ _ ⟨XQ.C, XU.C, XR.C, XZ.C⟩ (fun _ => ?_)
        clear hK K'
        try (change wpAnyH _ _ _ _ _ _ _ (Act.put _ (some 116) _) _; dsimp only [Act.put])
        refine wpAnyH_ready (rs := [18]) (by kernel_rfl) (by simp) ?_
        refine AllReadyH.cons rfl (fun K' hK => ?_) AllReadyH.nil
        rw [if_pos (by rfl)]
        go_simp
        refine hK.out _ _ ⟨XQ.C, XU.C, XR.C, XZ.C⟩ (fun _ => ?_)
        clear hK K'
        try (change wpAnyH _ _ _ _ _ _ _ (Act.put _ (some 117) _) _; dsimp only [Act.put])
        refine wpAnyH_ready (rs := [19]) (by kernel_rfl) (by simp) ?_
        refine AllReadyH.cons rfl (fun K' hK => ?_) AllReadyH.nil
        go_simp
        refine hK.out _ _ ⟨XQ.C, XU.C, XR.C, XZ.C⟩ (fun _ => ?_)
        clear hK K'
        try (change wpAnyH _ _ _ _ _ _ _ (Act.put _ (some 118) _) _; dsimp only [Act.put])
        refine wpAnyH_ready (rs := [20]) (by kernel_rfl) (by simp) ?_
        refine AllReadyH.cons rfl (fun K' hK => ?_) AllReadyH.nil
        go_simp
        refine hK.out _ _ ⟨XQ.C, XU.C, XR.C, XZ.C⟩ (fun _ => ?_)
        clear hK K'
        try (change wpAnyH _ _ _ _ _ _ _ (Act.put _ (some 2) _) _; dsimp only [Act.put])
        refine wpAnyH_done (by kernel_rfl) ?_ _
        refine NoPanic.normal ?_
        go_wp2_with fail
        go_ret
        exact ⟨ret_bool (by simp), K⟩
end Go.Proofs.YtdkmhaghnfhajaaGreat
/- Ne -/
set_option linter.unusedVariables false
namespace Go.Proofs.YtdkmhaghnfhajaaGreat
open Go.ChangeShapes Go.WideShapes Go.ChangeAt Go.RowKit Go.Deep

namespace lawBudgetsRow
set_option maxRecDepth 100000 in
theorem contract (H : Type) (enc : TypeId × Value → H) (W : World) (base : Nat) (args : Array Value) (ds gs : List (DataW H)) (before : List MemPlace)
    (hval : ∀ (j : Nat) t v, Tryz.f4.params[j]? = some t → args[j]? = some v → Value.okWide Tryz.prog W .any base t v)
    (hW : DataW.Whole enc Tryz.prog Tryz.f4.params.toList Rows.fnBudgetsSpec.vars false W args.toList ds gs before) :
    Calls Tryz.prog 4 args W fun e W' => ∃ v, e = .returned v ∧ Rows.fnBudgetsSpec.post enc Tryz.prog Tryz.f4 false true false false W args v W' := by
  have hW' := hW
  obtain ⟨p, q, hA0, hV, rfl, hfz, hnd⟩ := hW
  have hA : DataW.TrodAll enc Tryz.prog W 0 (fun _ => true) true Tryz.f4.params.toList args.toList ds p := hA0
  rw [Tryz.params4] at hA hval
  obtain ⟨v0, d0, rfl, rfl, h0⟩ := trodAll_one hA
  obtain ⟨rfl, rfl⟩ := trodVars_none hV
  obtain ⟨A, n, c, rfl, hn, hB⟩ := open_bytes (hval 0 22 v0 rfl rfl) h0
  clear hA0
  simp only [List.append_nil] at hW'
  have hlt : ∀ x ∈ p, x.block < W.heap.size := fun x hx => by simpa using hW'.lt x hx
  refine (lawBudgets A n c W hB hn).mono fun e W' ⟨he, K⟩ => ?_
  subst he
  refine ⟨_, rfl, ⟨_, _, _, [], p, [], hW', ?_, ?_, ?_, K.frame _, fun h => by cases h⟩⟩
  · exact trodAll_mk1 (shut_bool Tryz.underlying4 _)
  · exact trodAll_mk1 (Below.trod laid_ (by kernel_rfl) (of_decide_eq_true (by kernel_rfl)) h0 K hlt)
  · exact rfl

set_option maxRecDepth 100000 in
theorem lifted (os : Os) (started : os.Started) (H : Type) (enc : TypeId × Value → H) :
    ReturnsInHanded {} Tryz.checked os 4 .any (Rows.fnBudgetsSpec.pre6 enc Tryz.prog Tryz.f4 Rows.fnBudgetsRow.domain false) (Rows.fnBudgetsSpec.post enc Tryz.prog Tryz.f4 false true false false) := by
  refine returnsInHanded_of_change (C := Tryz.checked) (s := Rows.fnBudgetsSpec) own_ started (by kernel_rfl) Tryz.func4
    (ChangeSpec.witness6 (enc := enc) (C := Tryz.checked) (s := Rows.fnBudgetsSpec) false ⟨#[], #[.slice none 0 0], []⟩ 8 (by kernel_rfl) (by kernel_rfl) (by kernel_rfl) (by kernel_rfl)) ?_
  intro W base args ds gs before hval hW _ _
  exact contract H enc W base args ds gs before hval hW
end lawBudgetsRow

theorem fnBudgets_holds : Rows.FnBudgetsSaid :=
  OpenClaim.holds_of_wide 4 Tryz.f4 rfl rfl rfl rfl rfl rfl rfl ⟨rfl, rfl, rfl, rfl, rfl⟩ rfl rfl rfl rfl rfl (by kernel_rfl) Tryz.func4 (by kernel_rfl)
    (of_decide_eq_true (by kernel_rfl)) (by unfold Func.isWrapper; first | (rw [if_pos (by decide +kernel)]; kernel_rfl) | (rw [if_neg (by decide +kernel)]; exact ⟨rfl, rfl⟩))
    (fun os started H enc _ => lawBudgetsRow.lifted os started H enc)
#print axioms fnBudgets_holds
end Go.Proofs.YtdkmhaghnfhajaaGreat
