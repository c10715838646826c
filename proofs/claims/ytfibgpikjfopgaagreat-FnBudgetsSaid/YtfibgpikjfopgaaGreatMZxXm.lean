/-
  The model's AppliedRec.
-/
import Derived.Test.YtfibgpikjfopgaaGreatMZ9
/- Xm -/
set_option linter.unusedVariables false
namespace Go.Proofs.YtfibgpikjfopgaaGreat
open Go.RowKit

set_option maxRecDepth 4000 in
set_option maxHeartbeats 8000000 in
theorem specRec_any (pv sv : Value) (d : PlanD) (s : StD) (r : RecD) (w : World) (hp : IsPlan w w.heap.size pv d) (hs : IsStR w w.heap.size sv s) :
    Calls Tryz.prog 12 #[pv, sv, recC r] w (Appl2 w (appliedS d s r)) := by
  have HP := Lib.hid hp
  have HS := Lib.hid hs
  obtain ⟨⟨P0, P1, P2, P3, k0, k1, k2, k3, rfl, -, -, -, -⟩, -, -, -, -⟩ := hp
  obtain ⟨⟨A0, A1, A2, A3, c0, c1, c2, c3, rfl, -, -⟩, hf⟩ := hs
  have HF := Lib.hid hf
  clear hf
  have T0 := Four.start w (planC P0 P1 P2 P3 d.n0 k0 d.n1 k1 d.n2 k2 d.n3 k3 d.l d.p d.t) (stC A0 A1 A2 A3 s.pods.length c0 s.mnts.length c1 s.devs.length c2 s.lks.length c3 s.ph s.co s.ck s.bo s.ba s.lb s.gd s.pr) #[.int .i64 r.k, .int .i64 r.a, .int .i64 r.b] (stC none none none none 0 0 0 0 0 0 0 0 0 false 0 0 0 0 0 0) 32 38 51 38
  go_enter Tryz.func12, Tryz.ntmps12
  go_wp2_with fail
  refine (specStateOk_any _ _ d s _ ((HP.out.below T0.P.K (Nat.le_refl _)).more T0.P.K.size) ((HS.out.below T0.P.K (Nat.le_refl _)).more T0.P.K.size).is).mono ?_
  rintro e w1 ⟨rfl, hb⟩
  have T1 := T0.step hb
  have hP := T1.P.C
  have hS := T1.S.C
  have hR := T1.R.C
  have hD := T1.O.C
  have hG := T1.O.F
  clear hb T0
  cases hok : stOkB d s
  · have he : appliedS d s r = (zeroS, false) := by unfold appliedS; rw [hok]; rfl
    have HE := Lib.hid he
    clear he
    go_wp2
    refine bodyPost_ret (v := .tuple #[.agg (stC none none none none 0 0 0 0 0 0 0 0 0 false 0 0 0 0 0 0), .bool false]) ?_ rfl ?_
    · simp [results, Tryz.results12, go_sem, hD]
    · rw [HE.out]
      refine ⟨_, rfl, OwnSt.zero _ _, ?_⟩
      iterate 12 (refine Below.setCell ?_ (by simp <;> omega) _)
      exact T1.P.K
  · have HOK := Lib.hid hok
    clear hok
    go_wp2_with fail
    refine (specRecOk_any r _).mono ?_
    rintro e w2 ⟨rfl, hb⟩
    have T2 := T1.step hb
    clear hb T1 hP hS hR hD hG
    have hP := T2.P.C
    have hS := T2.S.C
    have hR := T2.R.C
    have hD := T2.O.C
    have hG := T2.O.F
    cases hk : recOkB r
    · have he : appliedS d s r = (s, false) := by unfold appliedS goodR; rw [HOK.out, hk]; rfl
      have HE := Lib.hid he
      clear he hk
      go_wp2_with fail
      refine (l5Copy_any _ s _ ((HS.out.below T2.P.K (Nat.le_refl _)).more T2.P.K.size)).mono ?_
      rintro e wc ⟨vc, rfl, Oc, hb⟩
      have hw4 : w.heap.size + 4 ≤ wc.heap.size := Nat.le_trans T2.O.z hb.size
      have hw5 : w.heap.size + 4 ≤ _ := T2.O.z
      have Tc := T2.step hb
      obtain ⟨u0, u1, u2, u3, rfl, q0, q1, q2, q3⟩ := Oc.it
      have Q0 := Lib.hid (ownsRow_base q0 hw5)
      have Q1 := Lib.hid (ownsRow_base q1 hw5)
      have Q2 := Lib.hid (ownsRow_base q2 hw5)
      have Q3 := Lib.hid (ownsRow_base q3 hw5)
      obtain ⟨B0, e0, rfl, -⟩ := open_rowR q0
      obtain ⟨B1, e1, rfl, -⟩ := open_rowR q1
      obtain ⟨B2, e2, rfl, -⟩ := open_rowR q2
      obtain ⟨B3, e3, rfl, -⟩ := open_rowR q3
      clear hb T2 hP hS hR hD hG q0 q1 q2 q3 Oc hw4 hw5
      have hP := Tc.P.C
      have hS := Tc.S.C
      have hR := Tc.R.C
      have hD := Tc.O.C
      have hG := Tc.O.F
      go_wp2
      refine bodyPost_ret (v := .tuple #[.agg (stC B0 B1 B2 B3 s.pods.length e0 s.mnts.length e1 s.devs.length e2 s.lks.length e3 s.ph s.co s.ck s.bo s.ba s.lb s.gd s.pr), .bool false]) ?_ rfl ?_
      · simp [results, Tryz.results12, go_sem, hD]
      · rw [HE.out]
        refine ⟨_, rfl, ⟨_, _, _, _, rfl, ?_, ?_, ?_, ?_⟩, ?_⟩
        · refine ownsRow_base (base := w.heap.size + 4) ?_ (by omega)
          iterate 12 (refine ownsRow_setCell_below ?_ (by simp) _)
          exact Q0.out
        · refine ownsRow_base (base := w.heap.size + 4) ?_ (by omega)
          iterate 12 (refine ownsRow_setCell_below ?_ (by simp) _)
          exact Q1.out
        · refine ownsRow_base (base := w.heap.size + 4) ?_ (by omega)
          iterate 12 (refine ownsRow_setCell_below ?_ (by simp) _)
          exact Q2.out
        · refine ownsRow_base (base := w.heap.size + 4) ?_ (by omega)
          iterate 12 (refine ownsRow_setCell_below ?_ (by simp) _)
          exact Q3.out
        · iterate 12 (refine Below.setCell ?_ (by simp <;> omega) _)
          exact Tc.P.K
    · have HK := Lib.hid hk
      clear hk
      go_wp2_with fail
      refine (l6There_any _ s r _ ((HS.out.below T2.P.K (Nat.le_refl _)).more T2.P.K.size).is).mono ?_
      rintro e w3 ⟨rfl, hb⟩
      have T3 := T2.step hb
      clear hb T2 hP hS hR hD hG
      have hP := T3.P.C
      have hS := T3.S.C
      have hR := T3.R.C
      have hD := T3.O.C
      have hG := T3.O.F
      cases ht : thereB s r
      · have he : appliedS d s r = (s, false) := by unfold appliedS goodR; rw [HOK.out, HK.out, ht]; rfl
        have HE := Lib.hid he
        clear he ht
        go_wp2_with fail
        refine (l5Copy_any _ s _ ((HS.out.below T3.P.K (Nat.le_refl _)).more T3.P.K.size)).mono ?_
        rintro e wc ⟨vc, rfl, Oc, hb⟩
        have hw4 : w.heap.size + 4 ≤ wc.heap.size := Nat.le_trans T3.O.z hb.size
        have hw5 : w.heap.size + 4 ≤ _ := T3.O.z
        have Tc := T3.step hb
        obtain ⟨u0, u1, u2, u3, rfl, q0, q1, q2, q3⟩ := Oc.it
        have Q0 := Lib.hid (ownsRow_base q0 hw5)
        have Q1 := Lib.hid (ownsRow_base q1 hw5)
        have Q2 := Lib.hid (ownsRow_base q2 hw5)
        have Q3 := Lib.hid (ownsRow_base q3 hw5)
        obtain ⟨B0, e0, rfl, -⟩ := open_rowR q0
        obtain ⟨B1, e1, rfl, -⟩ := open_rowR q1
        obtain ⟨B2, e2, rfl, -⟩ := open_rowR q2
        obtain ⟨B3, e3, rfl, -⟩ := open_rowR q3
        clear hb T3 hP hS hR hD hG q0 q1 q2 q3 Oc hw4 hw5
        have hP := Tc.P.C
        have hS := Tc.S.C
        have hR := Tc.R.C
        have hD := Tc.O.C
        have hG := Tc.O.F
        go_wp2
        refine bodyPost_ret (v := .tuple #[.agg (stC B0 B1 B2 B3 s.pods.length e0 s.mnts.length e1 s.devs.length e2 s.lks.length e3 s.ph s.co s.ck s.bo s.ba s.lb s.gd s.pr), .bool false]) ?_ rfl ?_
        · simp [results, Tryz.results12, go_sem, hD]
        · rw [HE.out]
          refine ⟨_, rfl, ⟨_, _, _, _, rfl, ?_, ?_, ?_, ?_⟩, ?_⟩
          · refine ownsRow_base (base := w.heap.size + 4) ?_ (by omega)
            iterate 12 (refine ownsRow_setCell_below ?_ (by simp) _)
            exact Q0.out
          · refine ownsRow_base (base := w.heap.size + 4) ?_ (by omega)
            iterate 12 (refine ownsRow_setCell_below ?_ (by simp) _)
            exact Q1.out
          · refine ownsRow_base (base := w.heap.size + 4) ?_ (by omega)
            iterate 12 (refine ownsRow_setCell_below ?_ (by simp) _)
            exact Q2.out
          · refine ownsRow_base (base := w.heap.size + 4) ?_ (by omega)
            iterate 12 (refine ownsRow_setCell_below ?_ (by simp) _)
            exact Q3.out
          · iterate 12 (refine Below.setCell ?_ (by simp <;> omega) _)
            exact Tc.P.K
      · have HT := Lib.hid ht
        clear ht
        have H3 := Lib.hid T3
        have hRI : s.lks.Pairwise (· < ·) := (stOkB_iff.1 HOK.out).rise
        have HRI := Lib.hid hRI
        have HS3 : Hid (∀ W : World, Below w3.heap.size w3 W → IsStR W W.heap.size (.agg (stC A0 A1 A2 A3 s.pods.length c0 s.mnts.length c1 s.devs.length c2 s.lks.length c3 s.ph s.co s.ck s.bo s.ba s.lb s.gd s.pr)) s) := Lib.hid fun W hb => (HS.out.below (T3.step hb).P.K (Nat.le_refl _)).more (T3.step hb).P.K.size
        have KD := Lib.hid (Below.refl w3.heap.size w3).drew
        have KA := Lib.hid ((Below.refl w3.heap.size w3).alloc (Nat.le_refl _) (.cells (stC none none none none 0 0 0 0 0 0 0 0 0 false 0 0 0 0 0 0) 38)).drew
        have hw1 : w.heap.size + 1 < w3.heap.size := T3.S.z
        have hw2 : w.heap.size + 2 < w3.heap.size := T3.R.z
        have S0 : (∀ o, w3.cell? ⟨w.heap.size + 1, o, none⟩ = (stC A0 A1 A2 A3 s.pods.length c0 s.mnts.length c1 s.devs.length c2 s.lks.length c3 s.ph s.co s.ck s.bo s.ba s.lb s.gd s.pr)[o]?) ∧ (∀ o, w3.cell? ⟨w.heap.size + 2, o, none⟩ = (#[.int .i64 r.k, .int .i64 r.a, .int .i64 r.b] : Array Value)[o]?) ∧ Below w3.heap.size w3 w3 := ⟨hS, hR, Below.refl _ _⟩
        clear hRI T3 hP hS hR hD hG
        go_upto_region 5 with fail
        go_cut [8] from 25 to 28 (fun s8 wx => ∃ (g : Nat) (cs : Array Value), s8 = .pointer (some ⟨g, 0, none⟩) ∧ Below w3.heap.size w3 wx ∧ BoxS wx w3.heap.size g cs.toList ∧ OwnSt wx w3.heap.size (.agg cs) (applyR s r))
        case first =>
          go_region_held3 (fun w' => (∀ o, w'.cell? ⟨w.heap.size + 1, o, none⟩ = (stC A0 A1 A2 A3 s.pods.length c0 s.mnts.length c1 s.devs.length c2 s.lks.length c3 s.ph s.co s.ck s.bo s.ba s.lb s.gd s.pr)[o]?) ∧ (∀ o, w'.cell? ⟨w.heap.size + 2, o, none⟩ = (#[.int .i64 r.k, .int .i64 r.a, .int .i64 r.b] : Array Value)[o]?) ∧ Below w3.heap.size w3 w')
            (first | (with_reducible exact S6) | (with_reducible exact S5) | (with_reducible exact S0) | (refine ⟨fun o => (Below.cell (B := w3.heap.size) (w := w3) ?_ hw1).trans (S0.1 o), fun o => (Below.cell (B := w3.heap.size) (w := w3) ?_ hw2).trans (S0.2.1 o), ?_⟩ <;> (repeat (first | (with_reducible exact K6) | (with_reducible exact K5) | (with_reducible exact Below.refl _ _) | (with_reducible refine Below.drew ?_) | (with_reducible refine (fun h => Below.alloc h h.size _) ?_) | (with_reducible refine Below.setCell ?_ (by first | exact Nat.le_refl _ | exact K5.size | (simp <;> omega)) _)))))
            (first
              | (go_at_call 30
                 refine (l6Apply_any _ s r _ w3.heap.size (by first | exact K5.size | exact (K5.alloc K5.size _).size) (by first | exact B5.out | exact B5.out.below ((Below.refl _ _).alloc (Nat.le_refl _) _)) HK.out HT.out HF.out.f3 HRI.out).mono ?_
                 rintro e w6 ⟨v6, rfl, O6, k6⟩
                 have K6 : Below w3.heap.size w3 w6 := by
                   first
                   | exact K5.trans (k6.below K5.size fun b hb hr => by have := (B5.out.blocks hr).1; omega)
                   | exact (K5.alloc K5.size _).trans (k6.below (K5.alloc K5.size _).size fun b hb hr => by have := (B5.out.blocks hr).1; omega)
                 have S6 := And.intro (fun o => (K6.cell (p := ⟨w.heap.size + 1, o, none⟩) hw1).trans (S0.1 o)) (And.intro (fun o => (K6.cell (p := ⟨w.heap.size + 2, o, none⟩) hw2).trans (S0.2.1 o)) K6)
                 try have Z6 := Z5.out.keeps k6 (B5.out.apart Z5.out)
                 try have Z6 := ZN.out.keeps k6 ((B5.out.below ((Below.refl _ _).alloc (Nat.le_refl _) _)).apart ZN.out)
                 try have zC := Z6.C
                 try have zF := Z6.frozen
                 have HO6 := Lib.hid O6
                 obtain ⟨u0, u1, u2, u3, rfl, q0, q1, q2, q3⟩ := O6.it
                 obtain ⟨B0, e0, rfl, -⟩ := open_rowR q0
                 obtain ⟨B1, e1, rfl, -⟩ := open_rowR q1
                 obtain ⟨B2, e2, rfl, -⟩ := open_rowR q2
                 obtain ⟨B3, e3, rfl, -⟩ := open_rowR q3
                 clear q0 q1 q2 q3 O6 k6)
              | (go_at_call 29
                 refine (l5Copy_any _ s _ (HS3.out _ (by first | exact KD.out | exact KA.out))).mono ?_
                 rintro e w5 ⟨v5, rfl, O5, hb5⟩
                 have K5 : Below w3.heap.size w3 w5 := by first | exact KD.out.trans (hb5.mono KD.out.size) | exact KA.out.trans (hb5.mono KA.out.size)
                 have S5 := And.intro (fun o => (K5.cell (p := ⟨w.heap.size + 1, o, none⟩) hw1).trans (S0.1 o)) (And.intro (fun o => (K5.cell (p := ⟨w.heap.size + 2, o, none⟩) hw2).trans (S0.2.1 o)) K5)
                 have B5 := Lib.hid (O5.base (B' := w3.heap.size) (by first | exact KD.out.size | exact KA.out.size))
                 have ZN : Hid (BoxS (w5.alloc (.cells (stC none none none none 0 0 0 0 0 0 0 0 0 false 0 0 0 0 0 0) 38)) w3.heap.size w5.heap.size (stC none none none none 0 0 0 0 0 0 0 0 0 false 0 0 0 0 0 0).toList) := Lib.hid (BoxS.new rfl K5.size rfl)
                 try have Z5 := Lib.hid ((show BoxS (w3.alloc (.cells (stC none none none none 0 0 0 0 0 0 0 0 0 false 0 0 0 0 0 0) 38)).drew w3.heap.size w3.heap.size (stC none none none none 0 0 0 0 0 0 0 0 0 false 0 0 0 0 0 0).toList from BoxS.new rfl (Nat.le_refl _) rfl).go hb5)))
          all_goals (go_wp2_with fail; go_meet)
          all_goals first
            | (have hz := Z6.lt.1
               apply Exists.intro
               apply Exists.intro
               refine ⟨rfl, K6.trans ((keeps_put12 ..).below K6.size fun b hb e => by subst e; omega), Z6.put .., HO6.out.keeps (keeps_put12 ..) fun b hb e => HO6.out.apart Z6 (by rw [← e]; exact hb)⟩)
            | (apply Exists.intro
               apply Exists.intro
               exact ⟨rfl, K6.alloc K6.size _, BoxS.new rfl K6.size rfl, HO6.out.below ((Below.refl _ _).alloc (Nat.le_refl _) _)⟩)
        case rest =>
          obtain ⟨g, cs, rfl, K, X, O⟩ := hcut
          have T4 := H3.out.step K
          have HGD : Hid (stOkB d (applyR s r) = goodR d s r) := Lib.hid (by simp [goodR, HK.out, HT.out])
          have HA : Hid (appliedS d s r = if goodR d s r then (applyR s r, true) else (s, false)) := Lib.hid (by unfold appliedS; rw [HOK.out]; rfl)
          generalize applyR s r = t2 at O HGD HA
          obtain ⟨u0, u1, u2, u3, hv, z0, z1, z2, z3⟩ := O.it
          injection hv with hv
          subst hv
          obtain ⟨G0, m0, rfl, -⟩ := open_rowR z0
          obtain ⟨G1, m1, rfl, -⟩ := open_rowR z1
          obtain ⟨G2, m2, rfl, -⟩ := open_rowR z2
          obtain ⟨G3, m3, rfl, -⟩ := open_rowR z3
          clear z0 z1 z2 z3 K S0 KD KA HS3 HRI
          have hP := T4.P.C
          have hX := X.C
          go_wp2_with fail
          refine (specStateOk_any _ _ d t2 _ ((HP.out.below T4.P.K (Nat.le_refl _)).more T4.P.K.size) O.st).mono ?_
          rintro e w5 ⟨rfl, hb⟩
          have T5 := T4.step hb
          have X5 := X.go hb
          have O5 := O.below hb
          have hw35 : w.heap.size + 4 ≤ w3.heap.size := H3.out.O.z
          clear hb hP hX T4 X O H3
          have hP := T5.P.C
          have hS := T5.S.C
          have hR := T5.R.C
          have hD := T5.O.C
          have hG := T5.O.F
          cases h3 : stOkB d t2
          · have he : appliedS d s r = (s, false) := by rw [HA.out, ← HGD.out, h3]; rfl
            have HE := Lib.hid he
            clear he h3
            go_wp2_with fail
            refine (l5Copy_any _ s _ ((HS.out.below T5.P.K (Nat.le_refl _)).more T5.P.K.size)).mono ?_
            rintro e wc ⟨vc, rfl, Oc, hb⟩
            have hw4 : w.heap.size + 4 ≤ wc.heap.size := Nat.le_trans T5.O.z hb.size
            have hw5 : w.heap.size + 4 ≤ _ := T5.O.z
            have Tc := T5.step hb
            obtain ⟨u0, u1, u2, u3, rfl, q0, q1, q2, q3⟩ := Oc.it
            have Q0 := Lib.hid (ownsRow_base q0 hw5)
            have Q1 := Lib.hid (ownsRow_base q1 hw5)
            have Q2 := Lib.hid (ownsRow_base q2 hw5)
            have Q3 := Lib.hid (ownsRow_base q3 hw5)
            obtain ⟨B0, e0, rfl, -⟩ := open_rowR q0
            obtain ⟨B1, e1, rfl, -⟩ := open_rowR q1
            obtain ⟨B2, e2, rfl, -⟩ := open_rowR q2
            obtain ⟨B3, e3, rfl, -⟩ := open_rowR q3
            clear hb T5 hP hS hR hD hG q0 q1 q2 q3 Oc hw4 hw5
            have hP := Tc.P.C
            have hS := Tc.S.C
            have hR := Tc.R.C
            have hD := Tc.O.C
            have hG := Tc.O.F
            go_wp2
            refine bodyPost_ret (v := .tuple #[.agg (stC B0 B1 B2 B3 s.pods.length e0 s.mnts.length e1 s.devs.length e2 s.lks.length e3 s.ph s.co s.ck s.bo s.ba s.lb s.gd s.pr), .bool false]) ?_ rfl ?_
            · simp [results, Tryz.results12, go_sem, hD]
            · rw [HE.out]
              refine ⟨_, rfl, ⟨_, _, _, _, rfl, ?_, ?_, ?_, ?_⟩, ?_⟩
              · refine ownsRow_base (base := w.heap.size + 4) ?_ (by omega)
                iterate 12 (refine ownsRow_setCell_below ?_ (by simp) _)
                exact Q0.out
              · refine ownsRow_base (base := w.heap.size + 4) ?_ (by omega)
                iterate 12 (refine ownsRow_setCell_below ?_ (by simp) _)
                exact Q1.out
              · refine ownsRow_base (base := w.heap.size + 4) ?_ (by omega)
                iterate 12 (refine ownsRow_setCell_below ?_ (by simp) _)
                exact Q2.out
              · refine ownsRow_base (base := w.heap.size + 4) ?_ (by omega)
                iterate 12 (refine ownsRow_setCell_below ?_ (by simp) _)
                exact Q3.out
              · iterate 12 (refine Below.setCell ?_ (by simp <;> omega) _)
                exact Tc.P.K
          · have he : appliedS d s r = (t2, true) := by rw [HA.out, ← HGD.out, h3]; rfl
            have HE := Lib.hid he
            clear he h3
            have hX := X5.C
            go_wp2
            refine bodyPost_ret (v := .tuple #[.agg (stC G0 G1 G2 G3 t2.pods.length m0 t2.mnts.length m1 t2.devs.length m2 t2.lks.length m3 t2.ph t2.co t2.ck t2.bo t2.ba t2.lb t2.gd t2.pr), .bool true]) ?_ rfl ?_
            · simp [results, Tryz.results12, go_sem, hD]
            · rw [HE.out]
              refine ⟨_, rfl, (O5.keeps (keeps_put12 ..) fun r hr e => by subst e; have := (O5.blocks hr).1; omega).base (by omega), ?_⟩
              iterate 12 (refine Below.setCell ?_ (by simp <;> omega) _)
              exact T5.P.K
end Go.Proofs.YtfibgpikjfopgaaGreat
