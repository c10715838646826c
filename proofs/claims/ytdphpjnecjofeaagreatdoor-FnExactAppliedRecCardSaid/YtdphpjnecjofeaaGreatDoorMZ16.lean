/-
  PROVED: FnExactAppliedRecCardSaid: of every plan, every state and every record AppliedRec answers as its model; its answer is new memory; the arguments stay. Conditions: none beside the form's own (the one listed table lies as the program's text lays it: the card's tie).
-/
import Derived.Test.YtdphpjnecjofeaaGreatDoorMZ8
import Derived.Test.YtdphpjnecjofeaaGreatDoorMZxYc
import Derived.Deep.RegionHeld3
import Derived.Test.YtdphpjnecjofeaaGreatDoorMZ1
import Derived.Test.YtdphpjnecjofeaaGreatDoorMZ5
import Derived.Test.YtdphpjnecjofeaaGreatDoorCards
import Derived.Test.YtdphpjnecjofeaaGreatDoorTie
import Derived.SevenTiedAt
import Derived.OpenVars
/- Xl -/
set_option linter.unusedVariables false
namespace Go.Proofs.YtdphpjnecjofeaaGreatDoor
open Go.RowKit

theorem appliedL_one (d : PlanD) (s : StD) (r : RecD) : appliedL d s [r] = appliedS d s r := by
  unfold appliedL appliedS
  split
  · simp only [runR]
    cases goodR d s r <;> rfl
  · rfl
theorem rt_one {w : World} {g : Nat} {r : RecD} (h : w.heap[g]? = some (.cells #[.int .i64 r.k, .int .i64 r.a, .int .i64 r.b] 50)) {B : Nat} (hB : g < B) : Rt w B (.slice (some ⟨g, 0, none⟩) 1 1) [r] := by
  refine ⟨⟨some ⟨g, 0, none⟩, 1, rfl, fun _ => ⟨g, 0, rfl, hB, fun j hj => ?_⟩⟩, by unfold maxLen; simp⟩
  rw [cell_of_row _ _ _ _ _ _ h]
  rw [Nat.zero_add]
  match j, hj with
  | 0, _ => rfl
  | 1, _ => rfl
  | 2, _ => rfl
  | k + 3, hk => simp at hk; omega

set_option maxRecDepth 4000 in
set_option maxHeartbeats 4000000 in
theorem implRec_any (pv sv : Value) (d : PlanD) (s : StD) (r : RecD) (w : World) (hp : IsPlan w w.heap.size pv d) (hs : IsStR w w.heap.size sv s) (N : Names w) :
    Calls Tryz.prog 13 #[pv, sv, recC r] w (MadeSB w (appliedS d s r)) := by
  have HE := Lib.hid (appliedL_one d s r)
  have HP := Lib.hid hp
  have HS := Lib.hid hs
  have HN := Lib.hid N
  obtain ⟨⟨P0, P1, P2, P3, k0, k1, k2, k3, rfl, -, -, -, -⟩, -, -, -, -⟩ := hp
  obtain ⟨⟨A0, A1, A2, A3, c0, c1, c2, c3, rfl, -, -⟩, -⟩ := hs
  clear N
  unfold recC
  have T0 := Four.start w (planC P0 P1 P2 P3 d.n0 k0 d.n1 k1 d.n2 k2 d.n3 k3 d.l d.p d.t) (stC A0 A1 A2 A3 s.pods.length c0 s.mnts.length c1 s.devs.length c2 s.lks.length c3 s.ph s.co s.ck s.bo s.ba s.lb s.gd s.pr) #[.int .i64 r.k, .int .i64 r.a, .int .i64 r.b] (stC none none none none 0 0 0 0 0 0 0 0 0 false 0 0 0 0 0 0) 47 40 50 40
  go_enter Tryz.func13, Tryz.ntmps13
  go_wp2_with fail
  have hs4 : ((((w.alloc (.cells (planC P0 P1 P2 P3 d.n0 k0 d.n1 k1 d.n2 k2 d.n3 k3 d.l d.p d.t) 47)).alloc (.cells (stC A0 A1 A2 A3 s.pods.length c0 s.mnts.length c1 s.devs.length c2 s.lks.length c3 s.ph s.co s.ck s.bo s.ba s.lb s.gd s.pr) 40)).alloc (.cells #[.int .i64 r.k, .int .i64 r.a, .int .i64 r.b] 50)).alloc (.cells (stC none none none none 0 0 0 0 0 0 0 0 0 false 0 0 0 0 0 0) 40)).heap.size = w.heap.size + 1 + 1 + 1 + 1 := by simp
  generalize (((w.alloc (.cells (planC P0 P1 P2 P3 d.n0 k0 d.n1 k1 d.n2 k2 d.n3 k3 d.l d.p d.t) 47)).alloc (.cells (stC A0 A1 A2 A3 s.pods.length c0 s.mnts.length c1 s.devs.length c2 s.lks.length c3 s.ph s.co s.ck s.bo s.ba s.lb s.gd s.pr) 40)).alloc (.cells #[.int .i64 r.k, .int .i64 r.a, .int .i64 r.b] 50)).alloc (.cells (stC none none none none 0 0 0 0 0 0 0 0 0 false 0 0 0 0 0 0) 40) = w4 at T0 hs4 ⊢
  have hb : Below w4.heap.size w4 (w4.alloc (.cells #[.int .i64 r.k, .int .i64 r.a, .int .i64 r.b] 50)) := (Below.refl _ _).alloc (Nat.le_refl _) _
  have T1 := T0.step hb
  have hnew : (w4.alloc (.cells #[.int .i64 r.k, .int .i64 r.a, .int .i64 r.b] 50)).heap[w4.heap.size]? = some (.cells #[.int .i64 r.k, .int .i64 r.a, .int .i64 r.b] 50) := heap_alloc_new w4 _
  rw [hs4] at hnew
  have hR : Rt _ (w4.alloc (.cells #[.int .i64 r.k, .int .i64 r.a, .int .i64 r.b] 50)).heap.size (.slice (some ⟨w.heap.size + 1 + 1 + 1 + 1, 0, none⟩) 1 1) [r] := rt_one hnew (by rw [heap_size_alloc_]; omega)
  clear hb hs4 hnew T0
  generalize w4.alloc (.cells #[.int .i64 r.k, .int .i64 r.a, .int .i64 r.b] 50) = w5 at T1 hR ⊢
  obtain ⟨x, b, hxb⟩ : ∃ x b, appliedS d s r = (x, b) := by
      generalize appliedS d s r = q
      exact ⟨q.1, q.2, rfl⟩
  have hall := implAll_any _ _ _ d s [r] _ ((HP.out.below T1.P.K (Nat.le_refl _)).more T1.P.K.size) ((HS.out.below T1.P.K (Nat.le_refl _)).more T1.P.K.size) hR (HN.out.go T1.P.K)
  rw [HE.out, hxb] at hall
  have HXB := Lib.hid hxb
  clear hxb HE
  refine hall.mono ?_
  rintro e wc ⟨vc, h1, Oc, hb⟩
  dsimp only at h1 Oc
  subst h1
  have Tc := T1.step hb
  have hB2 := T1.O.z
  obtain ⟨u0, u1, u2, u3, rfl, z0, z1, z2, z3⟩ := Oc.it
  obtain ⟨D0, h0, rfl, -⟩ := open_rowR z0
  obtain ⟨D1, h1, rfl, -⟩ := open_rowR z1
  obtain ⟨D2, h2, rfl, -⟩ := open_rowR z2
  obtain ⟨D3, h3, rfl, -⟩ := open_rowR z3
  have HOc := Lib.hid Oc
  clear z0 z1 z2 z3 Oc hall
  have hD := Tc.O.C
  have hG := Tc.O.F
  go_wp2
  refine bodyPost_ret (v := .tuple #[.agg (stC D0 D1 D2 D3 x.pods.length h0 x.mnts.length h1 x.devs.length h2 x.lks.length h3 x.ph x.co x.ck x.bo x.ba x.lb x.gd x.pr), .bool b]) ?_ rfl ?_
  · simp [results, Tryz.results13, go_sem, hD]
  · rw [HXB.out]
    refine ⟨_, rfl, (HOc.out.keeps (keeps_put12 ..) fun r hr e => by subst e; have := (HOc.out.blocks hr).1; omega).base (by omega), ?_⟩
    iterate 12 (refine Below.setCell ?_ (by simp <;> omega) _)
    exact Tc.P.K
end Go.Proofs.YtdphpjnecjofeaaGreatDoor
/- Xm -/
set_option linter.unusedVariables false
namespace Go.Proofs.YtdphpjnecjofeaaGreatDoor
open Go.RowKit

set_option maxRecDepth 4000 in
set_option maxHeartbeats 8000000 in
theorem specRec_any (pv sv : Value) (d : PlanD) (s : StD) (r : RecD) (w : World) (hp : IsPlan w w.heap.size pv d) (hs : IsStR w w.heap.size sv s) :
    Calls Tryz.prog 9 #[pv, sv, recC r] w (Appl2 w (appliedS d s r)) := by
  have HP := Lib.hid hp
  have HS := Lib.hid hs
  obtain ⟨⟨P0, P1, P2, P3, k0, k1, k2, k3, rfl, -, -, -, -⟩, -, -, -, -⟩ := hp
  obtain ⟨⟨A0, A1, A2, A3, c0, c1, c2, c3, rfl, -, -⟩, hf⟩ := hs
  have HF := Lib.hid hf
  clear hf
  have T0 := Four.start w (planC P0 P1 P2 P3 d.n0 k0 d.n1 k1 d.n2 k2 d.n3 k3 d.l d.p d.t) (stC A0 A1 A2 A3 s.pods.length c0 s.mnts.length c1 s.devs.length c2 s.lks.length c3 s.ph s.co s.ck s.bo s.ba s.lb s.gd s.pr) #[.int .i64 r.k, .int .i64 r.a, .int .i64 r.b] (stC none none none none 0 0 0 0 0 0 0 0 0 false 0 0 0 0 0 0) 47 40 50 40
  go_enter Tryz.func9, Tryz.ntmps9
  go_wp2_with fail
  refine (specStateOk_any _ _ d s _ ((HP.out.below T0.P.K (Nat.le_refl _)).more T0.P.K.size) ((HS.out.below T0.P.K (Nat.le_refl _)).more T0.P.K.size).is).mono ?_
  rintro e w1 ⟨rfl, hb⟩
  have T1 := T0.step hb
  have hP := T1.P.C
  have hS := T1.S.C
  have hR := T1.R.C
  have hD := T1.O.C
  have hG := T1.O.F
  clear hb T0
  cases hok : stOkB d s
  · have he : appliedS d s r = (zeroS, false) := by unfold appliedS; rw [hok]; rfl
    have HE := Lib.hid he
    clear he
    go_wp2
    refine bodyPost_ret (v := .tuple #[.agg (stC none none none none 0 0 0 0 0 0 0 0 0 false 0 0 0 0 0 0), .bool false]) ?_ rfl ?_
    · simp [results, Tryz.results9, go_sem, hD]
    · rw [HE.out]
      refine ⟨_, rfl, OwnSt.zero _ _, ?_⟩
      iterate 12 (refine Below.setCell ?_ (by simp <;> omega) _)
      exact T1.P.K
  · have HOK := Lib.hid hok
    clear hok
    go_wp2_with fail
    refine (specRecOk_any r _).mono ?_
    rintro e w2 ⟨rfl, hb⟩
    have T2 := T1.step hb
    clear hb T1 hP hS hR hD hG
    have hP := T2.P.C
    have hS := T2.S.C
    have hR := T2.R.C
    have hD := T2.O.C
    have hG := T2.O.F
    cases hk : recOkB r
    · have he : appliedS d s r = (s, false) := by unfold appliedS goodR; rw [HOK.out, hk]; rfl
      have HE := Lib.hid he
      clear he hk
      go_wp2_with fail
      refine (l5Copy_any _ s _ ((HS.out.below T2.P.K (Nat.le_refl _)).more T2.P.K.size)).mono ?_
      rintro e wc ⟨vc, rfl, Oc, hb⟩
      have hw4 : w.heap.size + 4 ≤ wc.heap.size := Nat.le_trans T2.O.z hb.size
      have hw5 : w.heap.size + 4 ≤ _ := T2.O.z
      have Tc := T2.step hb
      obtain ⟨u0, u1, u2, u3, rfl, q0, q1, q2, q3⟩ := Oc.it
      have Q0 := Lib.hid (ownsRow_base q0 hw5)
      have Q1 := Lib.hid (ownsRow_base q1 hw5)
      have Q2 := Lib.hid (ownsRow_base q2 hw5)
      have Q3 := Lib.hid (ownsRow_base q3 hw5)
      obtain ⟨B0, e0, rfl, -⟩ := open_rowR q0
      obtain ⟨B1, e1, rfl, -⟩ := open_rowR q1
      obtain ⟨B2, e2, rfl, -⟩ := open_rowR q2
      obtain ⟨B3, e3, rfl, -⟩ := open_rowR q3
      clear hb T2 hP hS hR hD hG q0 q1 q2 q3 Oc hw4 hw5
      have hP := Tc.P.C
      have hS := Tc.S.C
      have hR := Tc.R.C
      have hD := Tc.O.C
      have hG := Tc.O.F
      go_wp2
      refine bodyPost_ret (v := .tuple #[.agg (stC B0 B1 B2 B3 s.pods.length e0 s.mnts.length e1 s.devs.length e2 s.lks.length e3 s.ph s.co s.ck s.bo s.ba s.lb s.gd s.pr), .bool false]) ?_ rfl ?_
      · simp [results, Tryz.results9, go_sem, hD]
      · rw [HE.out]
        refine ⟨_, rfl, ⟨_, _, _, _, rfl, ?_, ?_, ?_, ?_⟩, ?_⟩
        · refine ownsRow_base (base := w.heap.size + 4) ?_ (by omega)
          iterate 12 (refine ownsRow_setCell_below ?_ (by simp) _)
          exact Q0.out
        · refine ownsRow_base (base := w.heap.size + 4) ?_ (by omega)
          iterate 12 (refine ownsRow_setCell_below ?_ (by simp) _)
          exact Q1.out
        · refine ownsRow_base (base := w.heap.size + 4) ?_ (by omega)
          iterate 12 (refine ownsRow_setCell_below ?_ (by simp) _)
          exact Q2.out
        · refine ownsRow_base (base := w.heap.size + 4) ?_ (by omega)
          iterate 12 (refine ownsRow_setCell_below ?_ (by simp) _)
          exact Q3.out
        · iterate 12 (refine Below.setCell ?_ (by simp <;> omega) _)
          exact Tc.P.K
    · have HK := Lib.hid hk
      clear hk
      go_wp2_with fail
      refine (l6There_any _ s r _ ((HS.out.below T2.P.K (Nat.le_refl _)).more T2.P.K.size).is).mono ?_
      rintro e w3 ⟨rfl, hb⟩
      have T3 := T2.step hb
      clear hb T2 hP hS hR hD hG
      have hP := T3.P.C
      have hS := T3.S.C
      have hR := T3.R.C
      have hD := T3.O.C
      have hG := T3.O.F
      cases ht : thereB s r
      · have he : appliedS d s r = (s, false) := by unfold appliedS goodR; rw [HOK.out, HK.out, ht]; rfl
        have HE := Lib.hid he
        clear he ht
        go_wp2_with fail
        refine (l5Copy_any _ s _ ((HS.out.below T3.P.K (Nat.le_refl _)).more T3.P.K.size)).mono ?_
        rintro e wc ⟨vc, rfl, Oc, hb⟩
        have hw4 : w.heap.size + 4 ≤ wc.heap.size := Nat.le_trans T3.O.z hb.size
        have hw5 : w.heap.size + 4 ≤ _ := T3.O.z
        have Tc := T3.step hb
        obtain ⟨u0, u1, u2, u3, rfl, q0, q1, q2, q3⟩ := Oc.it
        have Q0 := Lib.hid (ownsRow_base q0 hw5)
        have Q1 := Lib.hid (ownsRow_base q1 hw5)
        have Q2 := Lib.hid (ownsRow_base q2 hw5)
        have Q3 := Lib.hid (ownsRow_base q3 hw5)
        obtain ⟨B0, e0, rfl, -⟩ := open_rowR q0
        obtain ⟨B1, e1, rfl, -⟩ := open_rowR q1
        obtain ⟨B2, e2, rfl, -⟩ := open_rowR q2
        obtain ⟨B3, e3, rfl, -⟩ := open_rowR q3
        clear hb T3 hP hS hR hD hG q0 q1 q2 q3 Oc hw4 hw5
        have hP := Tc.P.C
        have hS := Tc.S.C
        have hR := Tc.R.C
        have hD := Tc.O.C
        have hG := Tc.O.F
        go_wp2
        refine bodyPost_ret (v := .tuple #[.agg (stC B0 B1 B2 B3 s.pods.length e0 s.mnts.length e1 s.devs.length e2 s.lks.length e3 s.ph s.co s.ck s.bo s.ba s.lb s.gd s.pr), .bool false]) ?_ rfl ?_
        · simp [results, Tryz.results9, go_sem, hD]
        · rw [HE.out]
          refine ⟨_, rfl, ⟨_, _, _, _, rfl, ?_, ?_, ?_, ?_⟩, ?_⟩
          · refine ownsRow_base (base := w.heap.size + 4) ?_ (by omega)
            iterate 12 (refine ownsRow_setCell_below ?_ (by simp) _)
            exact Q0.out
          · refine ownsRow_base (base := w.heap.size + 4) ?_ (by omega)
            iterate 12 (refine ownsRow_setCell_below ?_ (by simp) _)
            exact Q1.out
          · refine ownsRow_base (base := w.heap.size + 4) ?_ (by omega)
            iterate 12 (refine ownsRow_setCell_below ?_ (by simp) _)
            exact Q2.out
          · refine ownsRow_base (base := w.heap.size + 4) ?_ (by omega)
            iterate 12 (refine ownsRow_setCell_below ?_ (by simp) _)
            exact Q3.out
          · iterate 12 (refine Below.setCell ?_ (by simp <;> omega) _)
            exact Tc.P.K
      · have HT := Lib.hid ht
        clear ht
        have H3 := Lib.hid T3
        have hRI : s.lks.Pairwise (· < ·) := (stOkB_iff.1 HOK.out).rise
        have HRI := Lib.hid hRI
        have HS3 : Hid (∀ W : World, Below w3.heap.size w3 W → IsStR W W.heap.size (.agg (stC A0 A1 A2 A3 s.pods.length c0 s.mnts.length c1 s.devs.length c2 s.lks.length c3 s.ph s.co s.ck s.bo s.ba s.lb s.gd s.pr)) s) := Lib.hid fun W hb => (HS.out.below (T3.step hb).P.K (Nat.le_refl _)).more (T3.step hb).P.K.size
        have KD := Lib.hid (Below.refl w3.heap.size w3).drew
        have KA := Lib.hid ((Below.refl w3.heap.size w3).alloc (Nat.le_refl _) (.cells (stC none none none none 0 0 0 0 0 0 0 0 0 false 0 0 0 0 0 0) 40)).drew
        have hw1 : w.heap.size + 1 < w3.heap.size := T3.S.z
        have hw2 : w.heap.size + 2 < w3.heap.size := T3.R.z
        have S0 : (∀ o, w3.cell? ⟨w.heap.size + 1, o, none⟩ = (stC A0 A1 A2 A3 s.pods.length c0 s.mnts.length c1 s.devs.length c2 s.lks.length c3 s.ph s.co s.ck s.bo s.ba s.lb s.gd s.pr)[o]?) ∧ (∀ o, w3.cell? ⟨w.heap.size + 2, o, none⟩ = (#[.int .i64 r.k, .int .i64 r.a, .int .i64 r.b] : Array Value)[o]?) ∧ Below w3.heap.size w3 w3 := ⟨hS, hR, Below.refl _ _⟩
        clear hRI T3 hP hS hR hD hG
        go_upto_region 5 with fail
        go_cut [8] from 25 to 28 (fun s8 wx => ∃ (g : Nat) (cs : Array Value), s8 = .pointer (some ⟨g, 0, none⟩) ∧ Below w3.heap.size w3 wx ∧ BoxS wx w3.heap.size g cs.toList ∧ OwnSt wx w3.heap.size (.agg cs) (applyR s r))
        case first =>
          go_region_held3 (fun w' => (∀ o, w'.cell? ⟨w.heap.size + 1, o, none⟩ = (stC A0 A1 A2 A3 s.pods.length c0 s.mnts.length c1 s.devs.length c2 s.lks.length c3 s.ph s.co s.ck s.bo s.ba s.lb s.gd s.pr)[o]?) ∧ (∀ o, w'.cell? ⟨w.heap.size + 2, o, none⟩ = (#[.int .i64 r.k, .int .i64 r.a, .int .i64 r.b] : Array Value)[o]?) ∧ Below w3.heap.size w3 w')
            (first | (with_reducible exact S6) | (with_reducible exact S5) | (with_reducible exact S0) | (refine ⟨fun o => (Below.cell (B := w3.heap.size) (w := w3) ?_ hw1).trans (S0.1 o), fun o => (Below.cell (B := w3.heap.size) (w := w3) ?_ hw2).trans (S0.2.1 o), ?_⟩ <;> (repeat (first | (with_reducible exact K6) | (with_reducible exact K5) | (with_reducible exact Below.refl _ _) | (with_reducible refine Below.drew ?_) | (with_reducible refine (fun h => Below.alloc h h.size _) ?_) | (with_reducible refine Below.setCell ?_ (by first | exact Nat.le_refl _ | exact K5.size | (simp <;> omega)) _)))))
            (first
              | (go_at_call 42
                 refine (l6Apply_any _ s r _ w3.heap.size (by first | exact K5.size | exact (K5.alloc K5.size _).size) (by first | exact B5.out | exact B5.out.below ((Below.refl _ _).alloc (Nat.le_refl _) _)) HK.out HT.out HF.out.f3 HRI.out).mono ?_
                 rintro e w6 ⟨v6, rfl, O6, k6⟩
                 have K6 : Below w3.heap.size w3 w6 := by
                   first
                   | exact K5.trans (k6.below K5.size fun b hb hr => by have := (B5.out.blocks hr).1; omega)
                   | exact (K5.alloc K5.size _).trans (k6.below (K5.alloc K5.size _).size fun b hb hr => by have := (B5.out.blocks hr).1; omega)
                 have S6 := And.intro (fun o => (K6.cell (p := ⟨w.heap.size + 1, o, none⟩) hw1).trans (S0.1 o)) (And.intro (fun o => (K6.cell (p := ⟨w.heap.size + 2, o, none⟩) hw2).trans (S0.2.1 o)) K6)
                 try have Z6 := Z5.out.keeps k6 (B5.out.apart Z5.out)
                 try have Z6 := ZN.out.keeps k6 ((B5.out.below ((Below.refl _ _).alloc (Nat.le_refl _) _)).apart ZN.out)
                 try have zC := Z6.C
                 try have zF := Z6.frozen
                 have HO6 := Lib.hid O6
                 obtain ⟨u0, u1, u2, u3, rfl, q0, q1, q2, q3⟩ := O6.it
                 obtain ⟨B0, e0, rfl, -⟩ := open_rowR q0
                 obtain ⟨B1, e1, rfl, -⟩ := open_rowR q1
                 obtain ⟨B2, e2, rfl, -⟩ := open_rowR q2
                 obtain ⟨B3, e3, rfl, -⟩ := open_rowR q3
                 clear q0 q1 q2 q3 O6 k6)
              | (go_at_call 41
                 refine (l5Copy_any _ s _ (HS3.out _ (by first | exact KD.out | exact KA.out))).mono ?_
                 rintro e w5 ⟨v5, rfl, O5, hb5⟩
                 have K5 : Below w3.heap.size w3 w5 := by first | exact KD.out.trans (hb5.mono KD.out.size) | exact KA.out.trans (hb5.mono KA.out.size)
                 have S5 := And.intro (fun o => (K5.cell (p := ⟨w.heap.size + 1, o, none⟩) hw1).trans (S0.1 o)) (And.intro (fun o => (K5.cell (p := ⟨w.heap.size + 2, o, none⟩) hw2).trans (S0.2.1 o)) K5)
                 have B5 := Lib.hid (O5.base (B' := w3.heap.size) (by first | exact KD.out.size | exact KA.out.size))
                 have ZN : Hid (BoxS (w5.alloc (.cells (stC none none none none 0 0 0 0 0 0 0 0 0 false 0 0 0 0 0 0) 40)) w3.heap.size w5.heap.size (stC none none none none 0 0 0 0 0 0 0 0 0 false 0 0 0 0 0 0).toList) := Lib.hid (BoxS.new rfl K5.size rfl)
                 try have Z5 := Lib.hid ((show BoxS (w3.alloc (.cells (stC none none none none 0 0 0 0 0 0 0 0 0 false 0 0 0 0 0 0) 40)).drew w3.heap.size w3.heap.size (stC none none none none 0 0 0 0 0 0 0 0 0 false 0 0 0 0 0 0).toList from BoxS.new rfl (Nat.le_refl _) rfl).go hb5)))
          all_goals (go_wp2_with fail; go_meet)
          all_goals first
            | (have hz := Z6.lt.1
               apply Exists.intro
               apply Exists.intro
               refine ⟨rfl, K6.trans ((keeps_put12 ..).below K6.size fun b hb e => by subst e; omega), Z6.put .., HO6.out.keeps (keeps_put12 ..) fun b hb e => HO6.out.apart Z6 (by rw [← e]; exact hb)⟩)
            | (apply Exists.intro
               apply Exists.intro
               exact ⟨rfl, K6.alloc K6.size _, BoxS.new rfl K6.size rfl, HO6.out.below ((Below.refl _ _).alloc (Nat.le_refl _) _)⟩)
        case rest =>
          obtain ⟨g, cs, rfl, K, X, O⟩ := hcut
          have T4 := H3.out.step K
          have HGD : Hid (stOkB d (applyR s r) = goodR d s r) := Lib.hid (by simp [goodR, HK.out, HT.out])
          have HA : Hid (appliedS d s r = if goodR d s r then (applyR s r, true) else (s, false)) := Lib.hid (by unfold appliedS; rw [HOK.out]; rfl)
          generalize applyR s r = t2 at O HGD HA
          obtain ⟨u0, u1, u2, u3, hv, z0, z1, z2, z3⟩ := O.it
          injection hv with hv
          subst hv
          obtain ⟨G0, m0, rfl, -⟩ := open_rowR z0
          obtain ⟨G1, m1, rfl, -⟩ := open_rowR z1
          obtain ⟨G2, m2, rfl, -⟩ := open_rowR z2
          obtain ⟨G3, m3, rfl, -⟩ := open_rowR z3
          clear z0 z1 z2 z3 K S0 KD KA HS3 HRI
          have hP := T4.P.C
          have hX := X.C
          go_wp2_with fail
          refine (specStateOk_any _ _ d t2 _ ((HP.out.below T4.P.K (Nat.le_refl _)).more T4.P.K.size) O.st).mono ?_
          rintro e w5 ⟨rfl, hb⟩
          have T5 := T4.step hb
          have X5 := X.go hb
          have O5 := O.below hb
          have hw35 : w.heap.size + 4 ≤ w3.heap.size := H3.out.O.z
          clear hb hP hX T4 X O H3
          have hP := T5.P.C
          have hS := T5.S.C
          have hR := T5.R.C
          have hD := T5.O.C
          have hG := T5.O.F
          cases h3 : stOkB d t2
          · have he : appliedS d s r = (s, false) := by rw [HA.out, ← HGD.out, h3]; rfl
            have HE := Lib.hid he
            clear he h3
            go_wp2_with fail
            refine (l5Copy_any _ s _ ((HS.out.below T5.P.K (Nat.le_refl _)).more T5.P.K.size)).mono ?_
            rintro e wc ⟨vc, rfl, Oc, hb⟩
            have hw4 : w.heap.size + 4 ≤ wc.heap.size := Nat.le_trans T5.O.z hb.size
            have hw5 : w.heap.size + 4 ≤ _ := T5.O.z
            have Tc := T5.step hb
            obtain ⟨u0, u1, u2, u3, rfl, q0, q1, q2, q3⟩ := Oc.it
            have Q0 := Lib.hid (ownsRow_base q0 hw5)
            have Q1 := Lib.hid (ownsRow_base q1 hw5)
            have Q2 := Lib.hid (ownsRow_base q2 hw5)
            have Q3 := Lib.hid (ownsRow_base q3 hw5)
            obtain ⟨B0, e0, rfl, -⟩ := open_rowR q0
            obtain ⟨B1, e1, rfl, -⟩ := open_rowR q1
            obtain ⟨B2, e2, rfl, -⟩ := open_rowR q2
            obtain ⟨B3, e3, rfl, -⟩ := open_rowR q3
            clear hb T5 hP hS hR hD hG q0 q1 q2 q3 Oc hw4 hw5
            have hP := Tc.P.C
            have hS := Tc.S.C
            have hR := Tc.R.C
            have hD := Tc.O.C
            have hG := Tc.O.F
            go_wp2
            refine bodyPost_ret (v := .tuple #[.agg (stC B0 B1 B2 B3 s.pods.length e0 s.mnts.length e1 s.devs.length e2 s.lks.length e3 s.ph s.co s.ck s.bo s.ba s.lb s.gd s.pr), .bool false]) ?_ rfl ?_
            · simp [results, Tryz.results9, go_sem, hD]
            · rw [HE.out]
              refine ⟨_, rfl, ⟨_, _, _, _, rfl, ?_, ?_, ?_, ?_⟩, ?_⟩
              · refine ownsRow_base (base := w.heap.size + 4) ?_ (by omega)
                iterate 12 (refine ownsRow_setCell_below ?_ (by simp) _)
                exact Q0.out
              · refine ownsRow_base (base := w.heap.size + 4) ?_ (by omega)
                iterate 12 (refine ownsRow_setCell_below ?_ (by simp) _)
                exact Q1.out
              · refine ownsRow_base (base := w.heap.size + 4) ?_ (by omega)
                iterate 12 (refine ownsRow_setCell_below ?_ (by simp) _)
                exact Q2.out
              · refine ownsRow_base (base := w.heap.size + 4) ?_ (by omega)
                iterate 12 (refine ownsRow_setCell_below ?_ (by simp) _)
                exact Q3.out
              · iterate 12 (refine Below.setCell ?_ (by simp <;> omega) _)
                exact Tc.P.K
          · have he : appliedS d s r = (t2, true) := by rw [HA.out, ← HGD.out, h3]; rfl
            have HE := Lib.hid he
            clear he h3
            have hX := X5.C
            go_wp2
            refine bodyPost_ret (v := .tuple #[.agg (stC G0 G1 G2 G3 t2.pods.length m0 t2.mnts.length m1 t2.devs.length m2 t2.lks.length m3 t2.ph t2.co t2.ck t2.bo t2.ba t2.lb t2.gd t2.pr), .bool true]) ?_ rfl ?_
            · simp [results, Tryz.results9, go_sem, hD]
            · rw [HE.out]
              refine ⟨_, rfl, (O5.keeps (keeps_put12 ..) fun r hr e => by subst e; have := (O5.blocks hr).1; omega).base (by omega), ?_⟩
              iterate 12 (refine Below.setCell ?_ (by simp <;> omega) _)
              exact T5.P.K
end Go.Proofs.YtdphpjnecjofeaaGreatDoor
/- Yd -/
set_option linter.unusedVariables false
namespace Go.Proofs.YtdphpjnecjofeaaGreatDoor
open Go.RowKit

set_option maxRecDepth 100000 in
set_option maxHeartbeats 16000000 in
theorem lawRec (pv sv : Value) (d : PlanD) (s : StD) (r : RecD) (w : World) (hp : IsPlan w w.heap.size pv d) (hs : IsSt w w.heap.size sv s) (hN : Names w) :
    Calls Tryz.prog 3 #[pv, sv, recC r] w fun e w' => e = .returned (.bool true) ∧ Below w.heap.size w w' := by
  have H := Lib.hid hp
  have HS := Lib.hid hs
  have HN := Lib.hid hN
  clear hN
  unfold recC
  obtain ⟨⟨A0, A1, A2, A3, c0, c1, c2, c3, rfl, -, -, -, -⟩, b0, b1, b2, b3⟩ := hp
  obtain ⟨⟨E0, E1, E2, E3, k0, k1, k2, k3, rfl, -, -, -, -⟩, -, -, -, -⟩ := hs
  have B0 := Lib.hid b0
  have B1 := Lib.hid b1
  have B2 := Lib.hid b2
  have B3 := Lib.hid b3
  clear b0 b1 b2 b3
  go_enter Tryz.func3, Tryz.ntmps3
  go_wp2_with fail
  have T := TP.start w (planC A0 A1 A2 A3 d.n0 c0 d.n1 c1 d.n2 c2 d.n3 c3 d.l d.p d.t) (stC E0 E1 E2 E3 s.pods.length k0 s.mnts.length k1 s.devs.length k2 s.lks.length k3 s.ph s.co s.ck s.bo s.ba s.lb s.gd s.pr) (#[.int .i64 r.k, .int .i64 r.a, .int .i64 r.b]) 27 32 34
  refine (szPlan_any _ d _ ((H.out.below T.A.K (Nat.le_refl _)).more T.A.K.size)).mono ?_
  rintro e w2 ⟨rfl, hb⟩
  replace T := T.step hb
  have hC := T.A.C
  have hD := T.Z.C
  clear hb
  by_cases hsz : d.n0 + d.n1 + d.n2 + d.n3 ≤ 1048576
  · have e0 : szP d = 1048576 - d.n0 - d.n1 - d.n2 - d.n3 := if_pos hsz
    have l0 : 0 ≤ szP d := by omega
    have l1 : szP d ≤ 1048576 := by omega
    clear e0
    generalize szP d = left at *
    go_wp2_with fail
    refine (szState_any _ s left _ ((HS.out.below T.A.K (Nat.le_refl _)).more T.A.K.size) l0 l1).mono ?_
    rintro e w3 ⟨rfl, hb⟩
    replace T := T.step hb
    clear hb hC hD
    by_cases hsz2 : (s.pods.length + s.mnts.length + s.devs.length + s.lks.length : Nat) ≤ left
    · have e0 : szS left s = left - (s.pods.length + s.mnts.length + s.devs.length + s.lks.length : Nat) := if_pos hsz2
      have l2 : 0 ≤ szS left s := by omega
      have l3 : szS left s ≤ 1048576 := by omega
      have hfit : StFits s 1048576 := ⟨by omega, by omega, by omega, by omega⟩
      have F := Lib.hid hfit
      have TS : Hid ((totS s : Int) ≤ 2097152) := Lib.hid (by have := tot_half hsz2; omega)
      clear e0 hsz2 hfit
      generalize szS left s = left2 at *
      have l4 := l2
      have q0 : Hid (d.n0 ≤ 1048576) := Lib.hid (by omega)
      have q1 : Hid (d.n1 ≤ 1048576) := Lib.hid (by omega)
      have q2 : Hid (d.n2 ≤ 1048576) := Lib.hid (by omega)
      have q3 : Hid (d.n3 ≤ 1048576) := Lib.hid (by omega)
      have PS : Hid ((1 + 4 * d.n0 + d.n1 + 2 * d.n2 + d.n3 : Int) ≤ 4194305) := Lib.hid (by omega)
      clear hsz l0 l1 l3
      obtain ⟨x, b, hxb⟩ : ∃ x b, appliedS d s r = (x, b) := by
        generalize appliedS d s r = q
        exact ⟨q.1, q.2, rfl⟩
      have HXB := Lib.hid hxb
      have FX : Hid (StFits x 1048576) := Lib.hid (by have := appliedS_fits (d := d) (r := r) F.out; rw [hxb] at this; exact this)
      have TX : Hid ((totS x : Int) ≤ 6291456) := Lib.hid (by have := fits_tot FX.out; omega)
      clear hxb
      go_upto_region 8 with fail
      have K0 : Below w3.heap.size w3 w3 := Below.refl _ _
      have S0 : (∀ o, w3.cell? ⟨w.heap.size, o, none⟩ = (planC A0 A1 A2 A3 d.n0 c0 d.n1 c1 d.n2 c2 d.n3 c3 d.l d.p d.t)[o]?) ∧ (∀ o, w3.cell? ⟨w.heap.size + 1, o, none⟩ = (stC E0 E1 E2 E3 s.pods.length k0 s.mnts.length k1 s.devs.length k2 s.lks.length k3 s.ph s.co s.ck s.bo s.ba s.lb s.gd s.pr)[o]?) ∧ (∀ o, w3.cell? ⟨w.heap.size + 1 + 1, o, none⟩ = (#[.int .i64 r.k, .int .i64 r.a, .int .i64 r.b])[o]?) ∧ Below w3.heap.size w3 w3 := ⟨T.A.C, T.Z.C, T.O.C, K0⟩
      have hw0 : w.heap.size < w3.heap.size := T.A.z
      have hw1 : w.heap.size + 1 < w3.heap.size := T.Z.z
      have hw2 : w.heap.size + 1 + 1 < w3.heap.size := T.O.z
      go_cut [8, 9] from 29 to 38 (fun s8 s9 wx => ∃ (g : Nat) (cs : Array Value), s8 = .pointer (some ⟨g, 0, none⟩) ∧ s9 = .bool b ∧ Below w3.heap.size w3 wx ∧ BoxS wx w3.heap.size g cs.toList ∧ OwnSt wx w3.heap.size (.agg cs) x)
      case first =>
        go_region_held3 (fun w' => (∀ o, w'.cell? ⟨w.heap.size, o, none⟩ = (planC A0 A1 A2 A3 d.n0 c0 d.n1 c1 d.n2 c2 d.n3 c3 d.l d.p d.t)[o]?) ∧ (∀ o, w'.cell? ⟨w.heap.size + 1, o, none⟩ = (stC E0 E1 E2 E3 s.pods.length k0 s.mnts.length k1 s.devs.length k2 s.lks.length k3 s.ph s.co s.ck s.bo s.ba s.lb s.gd s.pr)[o]?) ∧ (∀ o, w'.cell? ⟨w.heap.size + 1 + 1, o, none⟩ = (#[.int .i64 r.k, .int .i64 r.a, .int .i64 r.b])[o]?) ∧ Below w3.heap.size w3 w')
          (first | (with_reducible exact S4) | (with_reducible exact S3) | (with_reducible exact S2) | (with_reducible exact S1) | (with_reducible exact S0) | (refine ⟨fun o => (Below.cell (B := w3.heap.size) (w := w3) ?_ hw0).trans (S0.1 o), fun o => (Below.cell (B := w3.heap.size) (w := w3) ?_ hw1).trans (S0.2.1 o), fun o => (Below.cell (B := w3.heap.size) (w := w3) ?_ hw2).trans (S0.2.2.1 o), ?_⟩ <;> (repeat (first | (with_reducible exact K4) | (with_reducible exact K3) | (with_reducible exact K2) | (with_reducible exact K1) | (with_reducible exact Below.refl _ _) | (with_reducible refine Below.drew ?_) | (with_reducible refine (fun h => Below.alloc h h.size _) ?_) | (with_reducible refine Below.setCell ?_ (by first | exact Z.lt.1 | exact Nat.le_refl _) _)))))
          (first
          | (go_at_call 9
             have hq := K3
             clear hq
             first
             | (with_reducible refine calls_at (fun W' => Below w3_.heap.size w3_ W' ∧ BoxS W' w3.heap.size w3_.heap.size (stC none none none none 0 0 0 0 0 0 0 0 0 false 0 0 0 0 0 0).toList) ⟨(Below.refl _ _).alloc (Nat.le_refl _) (.cells (stC none none none none 0 0 0 0 0 0 0 0 0 false 0 0 0 0 0 0) 40), BoxS.new rfl K3.size rfl⟩ ?_
                rintro W' ⟨hW, Z⟩)
             | (with_reducible refine calls_at (fun W' => Below w3_.heap.size w3_ W' ∧ BoxS W' w3.heap.size w3_.heap.size (stC none none none none 0 0 0 0 0 0 0 0 0 false 0 0 0 0 0 0).toList) ⟨((Below.refl _ _).alloc (Nat.le_refl _) (.cells (stC none none none none 0 0 0 0 0 0 0 0 0 false 0 0 0 0 0 0) 40)).drew, BoxS.go (BoxS.new rfl K3.size rfl) (Below.refl _ _).drew⟩ ?_
                rintro W' ⟨hW, Z⟩)
             | (with_reducible refine calls_at (fun W' => Below w3_.heap.size w3_ W') (Below.refl _ _) ?_
                intro W' hW
                try replace Z := Z.go hW)
             | (with_reducible refine calls_at (fun W' => Below w3_.heap.size w3_ W') (Below.refl _ _).drew ?_
                intro W' hW
                try replace Z := Z.go hW)
             have hall := specRec_any _ _ d s r W' (P1.out.go (((K12.trans (K23.mono K12.size)).trans (hW.mono (K12.trans (K23.mono K12.size)).size)))) (Q2.out.go (K23.trans (hW.mono K23.size)))
             rw [HXB.out] at hall
             refine hall.mono ?_
             clear hall
             rintro e w4_ ⟨v4_, h4_, O4_, hb⟩
             dsimp only at h4_ O4_
             subst h4_
             have K4 : Below w3.heap.size w3 w4_ := K3.trans ((hW.trans (hb.mono hW.size)).mono K3.size)
             try replace Z := Z.go hb
             have S4 := And.intro (T.step K4).A.C (And.intro (T.step K4).Z.C (And.intro (T.step K4).O.C K4))
             try have zC := Z.C
             try have zF := Z.frozen
             replace O4_ := O4_.base (Nat.le_trans K3.size hW.size)
             have HO4 := Lib.hid O4_
             obtain ⟨u0, u1, u2, u3, rfl, y0, y1, y2, y3⟩ := O4_.it
             obtain ⟨G0, m0, rfl, -⟩ := open_rowR y0
             obtain ⟨G1, m1, rfl, -⟩ := open_rowR y1
             obtain ⟨G2, m2, rfl, -⟩ := open_rowR y2
             obtain ⟨G3, m3, rfl, -⟩ := open_rowR y3
             clear y0 y1 y2 y3 O4_ hb hW)
          | (go_at_call 12
             have hq := K2
             clear hq
             first
             | (with_reducible refine calls_at (fun W' => Below w2_.heap.size w2_ W' ∧ BoxS W' w3.heap.size w2_.heap.size (stC none none none none 0 0 0 0 0 0 0 0 0 false 0 0 0 0 0 0).toList) ⟨(Below.refl _ _).alloc (Nat.le_refl _) (.cells (stC none none none none 0 0 0 0 0 0 0 0 0 false 0 0 0 0 0 0) 40), BoxS.new rfl K2.size rfl⟩ ?_
                rintro W' ⟨hW, Z⟩)
             | (with_reducible refine calls_at (fun W' => Below w2_.heap.size w2_ W' ∧ BoxS W' w3.heap.size w2_.heap.size (stC none none none none 0 0 0 0 0 0 0 0 0 false 0 0 0 0 0 0).toList) ⟨((Below.refl _ _).alloc (Nat.le_refl _) (.cells (stC none none none none 0 0 0 0 0 0 0 0 0 false 0 0 0 0 0 0) 40)).drew, BoxS.go (BoxS.new rfl K2.size rfl) (Below.refl _ _).drew⟩ ?_
                rintro W' ⟨hW, Z⟩)
             | (with_reducible refine calls_at (fun W' => Below w2_.heap.size w2_ W') (Below.refl _ _) ?_
                intro W' hW
                try replace Z := Z.go hW)
             | (with_reducible refine calls_at (fun W' => Below w2_.heap.size w2_ W') (Below.refl _ _).drew ?_
                intro W' hW
                try replace Z := Z.go hW)
             refine (toRec_any r.k r.a r.b W').mono ?_
             rintro e w3_ ⟨rfl, hb⟩
             have K23 : Below w2_.heap.size w2_ w3_ := hW.trans (hb.mono hW.size)
             have K3 : Below w3.heap.size w3 w3_ := K2.trans ((hW.trans (hb.mono hW.size)).mono K2.size)
             try replace Z := Z.go hb
             have S3 := And.intro (T.step K3).A.C (And.intro (T.step K3).Z.C (And.intro (T.step K3).O.C K3))
             clear hb hW)
          | (go_at_call 11
             have hq := K1
             clear hq
             first
             | (with_reducible refine calls_at (fun W' => Below w1_.heap.size w1_ W' ∧ BoxS W' w3.heap.size w1_.heap.size (stC none none none none 0 0 0 0 0 0 0 0 0 false 0 0 0 0 0 0).toList) ⟨(Below.refl _ _).alloc (Nat.le_refl _) (.cells (stC none none none none 0 0 0 0 0 0 0 0 0 false 0 0 0 0 0 0) 40), BoxS.new rfl K1.size rfl⟩ ?_
                rintro W' ⟨hW, Z⟩)
             | (with_reducible refine calls_at (fun W' => Below w1_.heap.size w1_ W' ∧ BoxS W' w3.heap.size w1_.heap.size (stC none none none none 0 0 0 0 0 0 0 0 0 false 0 0 0 0 0 0).toList) ⟨((Below.refl _ _).alloc (Nat.le_refl _) (.cells (stC none none none none 0 0 0 0 0 0 0 0 0 false 0 0 0 0 0 0) 40)).drew, BoxS.go (BoxS.new rfl K1.size rfl) (Below.refl _ _).drew⟩ ?_
                rintro W' ⟨hW, Z⟩)
             | (with_reducible refine calls_at (fun W' => Below w1_.heap.size w1_ W') (Below.refl _ _) ?_
                intro W' hW
                try replace Z := Z.go hW)
             | (with_reducible refine calls_at (fun W' => Below w1_.heap.size w1_ W') (Below.refl _ _).drew ?_
                intro W' hW
                try replace Z := Z.go hW)
             refine (toState_any _ s W' ((HS.out.below (T.step (K1.trans (hW.mono K1.size))).A.K (Nat.le_refl _)).more (T.step (K1.trans (hW.mono K1.size))).A.K.size) F.out).mono ?_
             rintro e w2_ ⟨q0_, q1_, q2_, q3_, rfl, N2, hb⟩
             have Q2 := Lib.hid (N2.isR F.out)
             have K12 : Below w1_.heap.size w1_ w2_ := hW.trans (hb.mono hW.size)
             have K2 : Below w3.heap.size w3 w2_ := K1.trans ((hW.trans (hb.mono hW.size)).mono K1.size)
             try replace Z := Z.go hb
             have S2 := And.intro (T.step K2).A.C (And.intro (T.step K2).Z.C (And.intro (T.step K2).O.C K2))
             clear hb hW N2)
          | (go_at_call 10
             first
             | (with_reducible refine calls_at (fun W' => Below w3.heap.size w3 W' ∧ BoxS W' w3.heap.size w3.heap.size (stC none none none none 0 0 0 0 0 0 0 0 0 false 0 0 0 0 0 0).toList) ⟨(Below.refl _ _).alloc (Nat.le_refl _) (.cells (stC none none none none 0 0 0 0 0 0 0 0 0 false 0 0 0 0 0 0) 40), BoxS.new rfl K0.size rfl⟩ ?_
                rintro W' ⟨hW, Z⟩)
             | (with_reducible refine calls_at (fun W' => Below w3.heap.size w3 W' ∧ BoxS W' w3.heap.size w3.heap.size (stC none none none none 0 0 0 0 0 0 0 0 0 false 0 0 0 0 0 0).toList) ⟨((Below.refl _ _).alloc (Nat.le_refl _) (.cells (stC none none none none 0 0 0 0 0 0 0 0 0 false 0 0 0 0 0 0) 40)).drew, BoxS.go (BoxS.new rfl K0.size rfl) (Below.refl _ _).drew⟩ ?_
                rintro W' ⟨hW, Z⟩)
             | (with_reducible refine calls_at (fun W' => Below w3.heap.size w3 W') (Below.refl _ _) ?_
                intro W' hW
                try replace Z := Z.go hW)
             | (with_reducible refine calls_at (fun W' => Below w3.heap.size w3 W') (Below.refl _ _).drew ?_
                intro W' hW
                try replace Z := Z.go hW)
             refine (toPlan_any _ d W' ((H.out.below (T.step hW).A.K (Nat.le_refl _)).more (T.step hW).A.K.size) q0.out q1.out q2.out q3.out).mono ?_
             rintro e w1_ ⟨p0_, p1_, p2_, p3_, rfl, N1, hb⟩
             have P1 := Lib.hid (N1.is B0.out B1.out B2.out B3.out)
             have K1 : Below w3.heap.size w3 w1_ := K0.trans ((hW.trans (hb.mono hW.size)).mono K0.size)
             try replace Z := Z.go hb
             have S1 := And.intro (T.step K1).A.C (And.intro (T.step K1).Z.C (And.intro (T.step K1).O.C K1))
             clear hb hW N1))
        all_goals (go_wp2_with fail; go_meet)
        all_goals first
          | (have hz := Z.lt.1
             apply Exists.intro
             apply Exists.intro
             refine ⟨rfl, rfl, K4.trans ((keeps_put12 ..).below K4.size fun b hb e => by subst e; omega), Z.put .., HO4.out.keeps (keeps_put12 ..) fun b hb e => HO4.out.apart Z (by rw [← e]; exact hb)⟩)
          | (apply Exists.intro
             apply Exists.intro
             exact ⟨rfl, rfl, K4.alloc K4.size _, BoxS.new rfl K4.size rfl, HO4.out.below ((Below.refl _ _).alloc (Nat.le_refl _) _)⟩)
      case rest =>
        obtain ⟨g, cs, rfl, rfl, K, BX, O⟩ := hcut
        have hα := hw2
        replace T := T.step K
        have V0 := BX.own T.A.K
        obtain ⟨hg0, hg1⟩ := BX.lt
        obtain ⟨u0, u1, u2, u3, hv, y0, y1, y2, y3⟩ := O.it
        injection hv with hv
        subst hv
        obtain ⟨G0, m0, rfl, -⟩ := open_rowR y0
        obtain ⟨G1, m1, rfl, -⟩ := open_rowR y1
        obtain ⟨G2, m2, rfl, -⟩ := open_rowR y2
        obtain ⟨G3, m3, rfl, -⟩ := open_rowR y3
        have Z0 := RowsIn.of O K.size
        clear y0 y1 y2 y3 O BX S0 K0 hw0 hw1 hw2
        have hαβ := K.size
        clear K
        generalize w3.heap.size = α at hα hg0 hαβ Z0
        have hC := T.A.C
        go_wp2_with fail
        refine (toPlan_any _ d _ ((H.out.below T.A.K (Nat.le_refl _)).more T.A.K.size) q0.out q1.out q2.out q3.out).mono ?_
        rintro e w5 ⟨a0, a1, a2, a3, rfl, N, hb⟩
        have hβa := N.l0
        have a01 := N.l1
        have a12 := N.l2
        have a23 := N.l3
        have a3z := N.l4
        have P := Lib.hid (N.is B0.out B1.out B2.out B3.out)
        replace T := T.step hb
        replace V0 := V0.step hb
        replace Z0 := Z0.go hb
        clear hb
        generalize wc.heap.size = β at Z0 hg1 hαβ hβa
        clear hC
        have hC := T.A.C
        have hD := T.Z.C
        have hz := T.A.z
        have hz1 := T.Z.z
        go_wp2_with fail
        clear hC hD hz hz1
        have hb : Below w5.heap.size w5 (w5.alloc (.cells (planC (some ⟨a0, 0, none⟩) (some ⟨a1, 0, none⟩) (some ⟨a2, 0, none⟩) (some ⟨a3, 0, none⟩) d.n0 d.n0 d.n1 d.n1 d.n2 d.n2 d.n3 d.n3 d.l d.p d.t) 47)) := (Below.refl _ _).alloc (Nat.le_refl _) _
        have U := Own.box2 T.A.K (planC (some ⟨a0, 0, none⟩) (some ⟨a1, 0, none⟩) (some ⟨a2, 0, none⟩) (some ⟨a3, 0, none⟩) d.n0 d.n0 d.n1 d.n1 d.n2 d.n2 d.n3 d.n3 d.l d.p d.t) 47
        have Ul : w5.heap.size < (w5.alloc (.cells (planC (some ⟨a0, 0, none⟩) (some ⟨a1, 0, none⟩) (some ⟨a2, 0, none⟩) (some ⟨a3, 0, none⟩) d.n0 d.n0 d.n1 d.n1 d.n2 d.n2 d.n3 d.n3 d.l d.p d.t) 47)).heap.size := by rw [heap_size_alloc_]; omega
        replace T := T.step hb
        replace V0 := V0.step hb
        replace Z0 := Z0.go hb
        replace N := N.below hb
        replace P := Lib.hid (P.out.go hb)
        clear hb
        generalize hw : w5.alloc (.cells (planC (some ⟨a0, 0, none⟩) (some ⟨a1, 0, none⟩) (some ⟨a2, 0, none⟩) (some ⟨a3, 0, none⟩) d.n0 d.n0 d.n1 d.n1 d.n2 d.n2 d.n3 d.n3 d.l d.p d.t) 47) = w6 at T V0 Z0 N P U Ul ⊢
        generalize hg : w5.heap.size = γ at U Ul a3z ⊢
        clear hw hg
        refine (toState_any _ s _ ((HS.out.below T.A.K (Nat.le_refl _)).more T.A.K.size) F.out).mono ?_
        rintro e w7 ⟨r0, r1, r2, r3, rfl, M, hb⟩
        have Y := M.rowsIn
        have Q := Lib.hid (M.isR F.out)
        have hδ := hb.size
        replace T := T.step hb
        replace V0 := V0.step hb
        replace Z0 := Z0.go hb
        replace N := N.below hb
        replace P := Lib.hid (P.out.go hb)
        replace U := U.step hb
        clear hb
        clear M
        generalize w6.heap.size = δ at Ul Y hδ
        unfold newStV
        go_wp2_with fail
        have hb : Below w7.heap.size w7 (w7.alloc (.cells (stC (some ⟨r0, 0, none⟩) (some ⟨r1, 0, none⟩) (some ⟨r2, 0, none⟩) (some ⟨r3, 0, none⟩) s.pods.length s.pods.length s.mnts.length s.mnts.length s.devs.length s.devs.length s.lks.length s.lks.length s.ph s.co s.ck s.bo s.ba s.lb s.gd s.pr) 40)) := (Below.refl _ _).alloc (Nat.le_refl _) _
        have V1 := Own.box2 T.A.K (stC (some ⟨r0, 0, none⟩) (some ⟨r1, 0, none⟩) (some ⟨r2, 0, none⟩) (some ⟨r3, 0, none⟩) s.pods.length s.pods.length s.mnts.length s.mnts.length s.devs.length s.devs.length s.lks.length s.lks.length s.ph s.co s.ck s.bo s.ba s.lb s.gd s.pr) 40
        have V1l : w7.heap.size < (w7.alloc (.cells (stC (some ⟨r0, 0, none⟩) (some ⟨r1, 0, none⟩) (some ⟨r2, 0, none⟩) (some ⟨r3, 0, none⟩) s.pods.length s.pods.length s.mnts.length s.mnts.length s.devs.length s.devs.length s.lks.length s.lks.length s.ph s.co s.ck s.bo s.ba s.lb s.gd s.pr) 40)).heap.size := by rw [heap_size_alloc_]; omega
        replace T := T.step hb
        replace V0 := V0.step hb
        replace Z0 := Z0.go hb
        replace N := N.below hb
        replace P := Lib.hid (P.out.go hb)
        replace U := U.step hb
        replace Y := Y.go hb
        replace Q := Lib.hid (Q.out.go hb)
        clear hb
        generalize hw : w7.alloc (.cells (stC (some ⟨r0, 0, none⟩) (some ⟨r1, 0, none⟩) (some ⟨r2, 0, none⟩) (some ⟨r3, 0, none⟩) s.pods.length s.pods.length s.mnts.length s.mnts.length s.devs.length s.devs.length s.lks.length s.lks.length s.ph s.co s.ck s.bo s.ba s.lb s.gd s.pr) 40) = w8 at T V0 Z0 N P U Y Q V1 V1l ⊢
        generalize hg : w7.heap.size = ζ at V1 V1l Y hδ ⊢
        clear hw hg
        go_upto_region 11 with fail
        have K0 : Below w8.heap.size w8 w8 := Below.refl _ _
        have S0 : (∀ o, w8.cell? ⟨γ, o, none⟩ = (planC (some ⟨a0, 0, none⟩) (some ⟨a1, 0, none⟩) (some ⟨a2, 0, none⟩) (some ⟨a3, 0, none⟩) d.n0 d.n0 d.n1 d.n1 d.n2 d.n2 d.n3 d.n3 d.l d.p d.t)[o]?) ∧ (∀ o, w8.cell? ⟨ζ, o, none⟩ = (stC (some ⟨r0, 0, none⟩) (some ⟨r1, 0, none⟩) (some ⟨r2, 0, none⟩) (some ⟨r3, 0, none⟩) s.pods.length s.pods.length s.mnts.length s.mnts.length s.devs.length s.devs.length s.lks.length s.lks.length s.ph s.co s.ck s.bo s.ba s.lb s.gd s.pr)[o]?) ∧ (∀ o, w8.cell? ⟨w.heap.size + 1 + 1, o, none⟩ = (#[.int .i64 r.k, .int .i64 r.a, .int .i64 r.b])[o]?) ∧ Below w8.heap.size w8 w8 := ⟨U.C, V1.C, T.O.C, K0⟩
        have hw0 : γ < w8.heap.size := U.z
        have hw1 : ζ < w8.heap.size := V1.z
        have hw2 : w.heap.size + 1 + 1 < w8.heap.size := T.O.z
        go_cut [12, 13] from 43 to 50 (fun s8 s9 wx => ∃ (g : Nat) (cs : Array Value), s8 = .pointer (some ⟨g, 0, none⟩) ∧ s9 = .bool b ∧ Below w8.heap.size w8 wx ∧ BoxS wx w8.heap.size g cs.toList ∧ OwnSt wx w8.heap.size (.agg cs) x)
        case first =>
          go_region_held3 (fun w' => (∀ o, w'.cell? ⟨γ, o, none⟩ = (planC (some ⟨a0, 0, none⟩) (some ⟨a1, 0, none⟩) (some ⟨a2, 0, none⟩) (some ⟨a3, 0, none⟩) d.n0 d.n0 d.n1 d.n1 d.n2 d.n2 d.n3 d.n3 d.l d.p d.t)[o]?) ∧ (∀ o, w'.cell? ⟨ζ, o, none⟩ = (stC (some ⟨r0, 0, none⟩) (some ⟨r1, 0, none⟩) (some ⟨r2, 0, none⟩) (some ⟨r3, 0, none⟩) s.pods.length s.pods.length s.mnts.length s.mnts.length s.devs.length s.devs.length s.lks.length s.lks.length s.ph s.co s.ck s.bo s.ba s.lb s.gd s.pr)[o]?) ∧ (∀ o, w'.cell? ⟨w.heap.size + 1 + 1, o, none⟩ = (#[.int .i64 r.k, .int .i64 r.a, .int .i64 r.b])[o]?) ∧ Below w8.heap.size w8 w')
            (first | (with_reducible exact S2) | (with_reducible exact S1) | (with_reducible exact S0) | (refine ⟨fun o => (Below.cell (B := w8.heap.size) (w := w8) ?_ hw0).trans (S0.1 o), fun o => (Below.cell (B := w8.heap.size) (w := w8) ?_ hw1).trans (S0.2.1 o), fun o => (Below.cell (B := w8.heap.size) (w := w8) ?_ hw2).trans (S0.2.2.1 o), ?_⟩ <;> (repeat (first | (with_reducible exact K2) | (with_reducible exact K1) | (with_reducible exact Below.refl _ _) | (with_reducible refine Below.drew ?_) | (with_reducible refine (fun h => Below.alloc h h.size _) ?_) | (with_reducible refine Below.setCell ?_ (by first | exact Z.lt.1 | exact Nat.le_refl _) _)))))
            (first
            | (go_at_call 13
               have hq := K1
               clear hq
               first
               | (with_reducible refine calls_at (fun W' => Below w1_.heap.size w1_ W' ∧ BoxS W' w8.heap.size w1_.heap.size (stC none none none none 0 0 0 0 0 0 0 0 0 false 0 0 0 0 0 0).toList) ⟨(Below.refl _ _).alloc (Nat.le_refl _) (.cells (stC none none none none 0 0 0 0 0 0 0 0 0 false 0 0 0 0 0 0) 40), BoxS.new rfl K1.size rfl⟩ ?_
                  rintro W' ⟨hW, Z⟩)
               | (with_reducible refine calls_at (fun W' => Below w1_.heap.size w1_ W' ∧ BoxS W' w8.heap.size w1_.heap.size (stC none none none none 0 0 0 0 0 0 0 0 0 false 0 0 0 0 0 0).toList) ⟨((Below.refl _ _).alloc (Nat.le_refl _) (.cells (stC none none none none 0 0 0 0 0 0 0 0 0 false 0 0 0 0 0 0) 40)).drew, BoxS.go (BoxS.new rfl K1.size rfl) (Below.refl _ _).drew⟩ ?_
                  rintro W' ⟨hW, Z⟩)
               | (with_reducible refine calls_at (fun W' => Below w1_.heap.size w1_ W') (Below.refl _ _) ?_
                  intro W' hW
                  try replace Z := Z.go hW)
               | (with_reducible refine calls_at (fun W' => Below w1_.heap.size w1_ W') (Below.refl _ _).drew ?_
                  intro W' hW
                  try replace Z := Z.go hW)
               have hall := implRec_any _ _ d s r W' (P.out.go (K1.trans (hW.mono K1.size))) (Q.out.go (K1.trans (hW.mono K1.size))) (HN.out.go (T.A.K.trans ((K1.trans (hW.mono K1.size)).mono T.A.K.size)))
               rw [HXB.out] at hall
               refine hall.mono ?_
               clear hall
               rintro e w2_ ⟨v4_, h4_, O4_, hb⟩
               dsimp only at h4_ O4_
               subst h4_
               have K2 : Below w8.heap.size w8 w2_ := K1.trans ((hW.trans (hb.mono hW.size)).mono K1.size)
               try replace Z := Z.go hb
               have S2 := And.intro (U.step K2).C (And.intro (V1.step K2).C (And.intro (T.step K2).O.C K2))
               try have zC := Z.C
               try have zF := Z.frozen
               replace O4_ := O4_.base (Nat.le_trans K1.size hW.size)
               have HO4 := Lib.hid O4_
               obtain ⟨u0, u1, u2, u3, rfl, y0, y1, y2, y3⟩ := O4_.it
               obtain ⟨J0, j0, rfl, -⟩ := open_rowR y0
               obtain ⟨J1, j1, rfl, -⟩ := open_rowR y1
               obtain ⟨J2, j2, rfl, -⟩ := open_rowR y2
               obtain ⟨J3, j3, rfl, -⟩ := open_rowR y3
               clear y0 y1 y2 y3 O4_ hb hW)
            | (go_at_call 12
               first
               | (with_reducible refine calls_at (fun W' => Below w8.heap.size w8 W' ∧ BoxS W' w8.heap.size w8.heap.size (stC none none none none 0 0 0 0 0 0 0 0 0 false 0 0 0 0 0 0).toList) ⟨(Below.refl _ _).alloc (Nat.le_refl _) (.cells (stC none none none none 0 0 0 0 0 0 0 0 0 false 0 0 0 0 0 0) 40), BoxS.new rfl K0.size rfl⟩ ?_
                  rintro W' ⟨hW, Z⟩)
               | (with_reducible refine calls_at (fun W' => Below w8.heap.size w8 W' ∧ BoxS W' w8.heap.size w8.heap.size (stC none none none none 0 0 0 0 0 0 0 0 0 false 0 0 0 0 0 0).toList) ⟨((Below.refl _ _).alloc (Nat.le_refl _) (.cells (stC none none none none 0 0 0 0 0 0 0 0 0 false 0 0 0 0 0 0) 40)).drew, BoxS.go (BoxS.new rfl K0.size rfl) (Below.refl _ _).drew⟩ ?_
                  rintro W' ⟨hW, Z⟩)
               | (with_reducible refine calls_at (fun W' => Below w8.heap.size w8 W') (Below.refl _ _) ?_
                  intro W' hW
                  try replace Z := Z.go hW)
               | (with_reducible refine calls_at (fun W' => Below w8.heap.size w8 W') (Below.refl _ _).drew ?_
                  intro W' hW
                  try replace Z := Z.go hW)
               refine (toRec_any r.k r.a r.b W').mono ?_
               rintro e w1_ ⟨rfl, hb⟩
               have K1 : Below w8.heap.size w8 w1_ := K0.trans ((hW.trans (hb.mono hW.size)).mono K0.size)
               try replace Z := Z.go hb
               have S1 := And.intro (U.step K1).C (And.intro (V1.step K1).C (And.intro (T.step K1).O.C K1))
               clear hb hW))
          all_goals (go_wp2_with fail; go_meet)
          all_goals first
            | (have hz := Z.lt.1
               apply Exists.intro
               apply Exists.intro
               refine ⟨rfl, rfl, K2.trans ((keeps_put12 ..).below K2.size fun b hb e => by subst e; omega), Z.put .., HO4.out.keeps (keeps_put12 ..) fun b hb e => HO4.out.apart Z (by rw [← e]; exact hb)⟩)
            | (apply Exists.intro
               apply Exists.intro
               exact ⟨rfl, rfl, K2.alloc K2.size _, BoxS.new rfl K2.size rfl, HO4.out.below ((Below.refl _ _).alloc (Nat.le_refl _) _)⟩)
        case rest =>
          obtain ⟨κ, cs, rfl, rfl, hb, BX, O⟩ := hcut
          have hκ := BX.lt.1
          have Z1 := RowsR.of O BX hb.size
          obtain ⟨u0, u1, u2, u3, hv, y0, y1, y2, y3⟩ := O.it
          injection hv with hv
          subst hv
          obtain ⟨J0, j0, rfl, -⟩ := open_rowR y0
          obtain ⟨J1, j1, rfl, -⟩ := open_rowR y1
          obtain ⟨J2, j2, rfl, -⟩ := open_rowR y2
          obtain ⟨J3, j3, rfl, -⟩ := open_rowR y3
          clear y0 y1 y2 y3 O S0 K0 hw0 hw1 hw2
          replace T := T.step hb
          replace V0 := V0.step hb
          replace Z0 := Z0.go hb
          replace N := N.below hb
          replace P := Lib.hid (P.out.go hb)
          replace U := U.step hb
          replace Y := Y.go hb
          replace Q := Lib.hid (Q.out.go hb)
          replace V1 := V1.step hb
          clear hb
          have W1 := BX.own T.A.K
          clear BX
          generalize wc.heap.size = ε' at Z1
          generalize w8.heap.size = ε at V1l hκ Z1
          have hW := W1.C
          have hC := V0.C
          go_wp2_with fail
          clear hC hW
          refine (eqState_same _ _ x _ (Z1.is FX.out) (Z0.is FX.out)).mono ?_
          rintro e w12 ⟨rfl, hb⟩
          replace T := T.step hb
          replace V0 := V0.step hb
          replace Z0 := Z0.go hb
          replace N := N.below hb
          replace P := Lib.hid (P.out.go hb)
          replace U := U.step hb
          replace Y := Y.go hb
          replace Q := Lib.hid (Q.out.go hb)
          replace V1 := V1.step hb
          replace Z1 := Z1.go hb
          replace W1 := W1.step hb
          clear hb
          go_wp2_with fail
          -- the plan is as it was
          have S0 : (∀ o, w12.cell? ⟨w.heap.size, o, none⟩ = (planC A0 A1 A2 A3 d.n0 c0 d.n1 c1 d.n2 c2 d.n3 c3 d.l d.p d.t)[o]?) ∧ (∀ o, w12.cell? ⟨γ, o, none⟩ = (planC (some ⟨a0, 0, none⟩) (some ⟨a1, 0, none⟩) (some ⟨a2, 0, none⟩) (some ⟨a3, 0, none⟩) d.n0 d.n0 d.n1 d.n1 d.n2 d.n2 d.n3 d.n3 d.l d.p d.t)[o]?) ∧ Below w12.heap.size w12 w12 := ⟨T.A.C, U.C, Below.refl _ _⟩
          go_region_held3 (fun w' => (∀ o, w'.cell? ⟨w.heap.size, o, none⟩ = (planC A0 A1 A2 A3 d.n0 c0 d.n1 c1 d.n2 c2 d.n3 c3 d.l d.p d.t)[o]?) ∧ (∀ o, w'.cell? ⟨γ, o, none⟩ = (planC (some ⟨a0, 0, none⟩) (some ⟨a1, 0, none⟩) (some ⟨a2, 0, none⟩) (some ⟨a3, 0, none⟩) d.n0 d.n0 d.n1 d.n1 d.n2 d.n2 d.n3 d.n3 d.l d.p d.t)[o]?) ∧ Below w12.heap.size w12 w')
            (first | exact S0 | exact S1 | exact S2 | (exact ⟨S0.1, S0.2.1, S0.2.2.drew⟩))
            (first
              | (go_at_call 15
                 have hq := S1
                 clear hq
                 refine (eqPlan_same _ _ d _ ((P.out.below K1 (Nat.le_refl _)).more K1.size) P1.out).mono ?_
                 rintro e w2a ⟨rfl, hb⟩
                 have K2 : Below w12.heap.size w12 w2a := K1.trans (hb.mono K1.size)
                 have S2 := And.intro (T.step K2).A.C (And.intro (U.step K2).C K2))
              | (go_at_call 10
                 have K0 : Below w12.heap.size w12 w12.drew := (Below.refl _ _).drew
                 refine (toPlan_any _ d _ ((H.out.below (T.step K0).A.K (Nat.le_refl _)).more (T.step K0).A.K.size) q0.out q1.out q2.out q3.out).mono ?_
                 rintro e w1a ⟨z0, z1, z2, z3, rfl, N1, hb⟩
                 have P1 := Lib.hid (N1.is B0.out B1.out B2.out B3.out)
                 have K1 : Below w12.heap.size w12 w1a := K0.trans hb
                 clear hb
                 have S1 := And.intro (T.step K1).A.C (And.intro (U.step K1).C K1)))
          clear S0 S1 S2 K0 K1 hb
          have hb := K2
          clear K2
          clear N1 P1
          replace T := T.step hb
          replace V0 := V0.step hb
          replace Z0 := Z0.go hb
          replace N := N.below hb
          replace P := Lib.hid (P.out.go hb)
          replace U := U.step hb
          replace Y := Y.go hb
          replace Q := Lib.hid (Q.out.go hb)
          replace V1 := V1.step hb
          replace Z1 := Z1.go hb
          replace W1 := W1.step hb
          clear hb
          rename_i hHeld
          clear hHeld
          go_wp2_with fail
          -- the state is as it was
          have S0 : (∀ o, w2a.cell? ⟨w.heap.size + 1, o, none⟩ = (stC E0 E1 E2 E3 s.pods.length k0 s.mnts.length k1 s.devs.length k2 s.lks.length k3 s.ph s.co s.ck s.bo s.ba s.lb s.gd s.pr)[o]?) ∧ (∀ o, w2a.cell? ⟨ζ, o, none⟩ = (stC (some ⟨r0, 0, none⟩) (some ⟨r1, 0, none⟩) (some ⟨r2, 0, none⟩) (some ⟨r3, 0, none⟩) s.pods.length s.pods.length s.mnts.length s.mnts.length s.devs.length s.devs.length s.lks.length s.lks.length s.ph s.co s.ck s.bo s.ba s.lb s.gd s.pr)[o]?) ∧ Below w2a.heap.size w2a w2a := ⟨T.Z.C, V1.C, Below.refl _ _⟩
          go_region_held3 (fun w' => (∀ o, w'.cell? ⟨w.heap.size + 1, o, none⟩ = (stC E0 E1 E2 E3 s.pods.length k0 s.mnts.length k1 s.devs.length k2 s.lks.length k3 s.ph s.co s.ck s.bo s.ba s.lb s.gd s.pr)[o]?) ∧ (∀ o, w'.cell? ⟨ζ, o, none⟩ = (stC (some ⟨r0, 0, none⟩) (some ⟨r1, 0, none⟩) (some ⟨r2, 0, none⟩) (some ⟨r3, 0, none⟩) s.pods.length s.pods.length s.mnts.length s.mnts.length s.devs.length s.devs.length s.lks.length s.lks.length s.ph s.co s.ck s.bo s.ba s.lb s.gd s.pr)[o]?) ∧ Below w2a.heap.size w2a w')
            (first | exact S0 | exact S1 | exact S2 | (exact ⟨S0.1, S0.2.1, S0.2.2.drew⟩))
            (first
              | (go_at_call 14
                 have hq := S1
                 clear hq
                 refine (eqState_same _ _ s _ ((Q.out.is.below K1 (Nat.le_refl _)).more K1.size) Q1.out).mono ?_
                 rintro e w2b ⟨rfl, hb⟩
                 have K2 : Below w2a.heap.size w2a w2b := K1.trans (hb.mono K1.size)
                 have S2 := And.intro (T.step K2).Z.C (And.intro (V1.step K2).C K2))
              | (go_at_call 11
                 have K0 : Below w2a.heap.size w2a w2a.drew := (Below.refl _ _).drew
                 refine (toState_any _ s _ ((HS.out.below (T.step K0).A.K (Nat.le_refl _)).more (T.step K0).A.K.size) F.out).mono ?_
                 rintro e w1b ⟨z0, z1, z2, z3, rfl, N1, hb⟩
                 have Q1 := Lib.hid (N1.is F.out)
                 have K1 : Below w2a.heap.size w2a w1b := K0.trans hb
                 clear hb
                 have S1 := And.intro (T.step K1).Z.C (And.intro (V1.step K1).C K1)))
          clear S0 S1 S2 K0 K1 hb
          have hb := K2
          clear K2
          clear N1 Q1
          replace T := T.step hb
          replace V0 := V0.step hb
          replace Z0 := Z0.go hb
          replace N := N.below hb
          replace P := Lib.hid (P.out.go hb)
          replace U := U.step hb
          replace Y := Y.go hb
          replace Q := Lib.hid (Q.out.go hb)
          replace V1 := V1.step hb
          replace Z1 := Z1.go hb
          replace W1 := W1.step hb
          clear hb
          rename_i hHeld
          clear hHeld
          have hU := U.C
          go_wp2_with fail
          -- the arguments are marked
          refine (markPlan_num d a0 a1 a2 a3 _ _ N q0.out q1.out q2.out q3.out).mono ?_
          rintro e w15 ⟨rfl, hk⟩
          clear hU
          clear N P Q U
          replace T := T.keeps hk (by rintro b ⟨hb1, hb2⟩; omega)
          replace V0 := V0.keeps hk (by rintro b ⟨hb1, hb2⟩; omega) (by rintro ⟨hb1, hb2⟩; omega)
          replace Z0 := Z0.keeps hk (by rintro b p1 p2 ⟨hb1, hb2⟩; omega)
          replace Y := Y.keeps hk (by rintro b p1 p2 ⟨hb1, hb2⟩; omega)
          replace V1 := V1.keeps hk (by rintro b ⟨hb1, hb2⟩; omega) (by rintro ⟨hb1, hb2⟩; omega)
          replace Z1 := Z1.keeps hk (by rintro b ⟨p1, p2, p3⟩ ⟨hb1, hb2⟩; omega)
          replace W1 := W1.keeps hk (by rintro b ⟨hb1, hb2⟩; omega) (by rintro ⟨hb1, hb2⟩; omega)
          clear hk
          have p0 : (0 : Int) ≤ 1 + 4 * d.n0 + d.n1 + 2 * d.n2 + d.n3 := by omega
          have p1 := PS.out
          generalize (1 + 4 * d.n0 + d.n1 + 2 * d.n2 + d.n3 : Int) = kk at p0 p1 ⊢
          have hV := V1.C
          go_wp2_with fail
          refine (markIn_any _ s _ _ kk _ Y F.out p0 (by have := TS.out; omega)).mono ?_
          rintro e w16 ⟨rfl, -, hk⟩
          clear hV
          clear Y V1
          replace T := T.keeps hk (by rintro b ⟨hb1, hb2⟩; omega)
          replace V0 := V0.keeps hk (by rintro b ⟨hb1, hb2⟩; omega) (by rintro ⟨hb1, hb2⟩; omega)
          replace Z0 := Z0.keeps hk (by rintro b p1 p2 ⟨hb1, hb2⟩; omega)
          replace Z1 := Z1.keeps hk (by rintro b ⟨p1, p2, p3⟩ ⟨hb1, hb2⟩; omega)
          replace W1 := W1.keeps hk (by rintro b ⟨hb1, hb2⟩; omega) (by rintro ⟨hb1, hb2⟩; omega)
          clear hk
          have p2 : (0 : Int) ≤ kk + totS s := by omega
          have p3 : kk + totS s ≤ 6291457 := by have := TS.out; omega
          generalize (kk + totS s : Int) = kq at p2 p3 ⊢
          clear p0 p1
          have p4 : ¬ (kq < 0) := by omega
          have p5 : decide (kq < 0) = false := by simp [p4]
          clear p2 p3
          have hW := W1.C
          have hC := V0.C
          go_wp2_with fail
          refine (eqState_same _ _ x _ (Z1.is FX.out) (Z0.is FX.out)).mono ?_
          rintro e w18 ⟨rfl, hb⟩
          clear p4 p5 hW hC
          replace T := T.step hb
          replace V0 := V0.step hb
          replace Z0 := Z0.go hb
          replace Z1 := Z1.go hb
          replace W1 := W1.step hb
          clear hb
          have hW := W1.C
          go_wp2_with fail
          -- the answer is marked
          refine (markR_any _ x _ 1 _ Z1 FX.out (by omega) (by have := TX.out; omega)).mono ?_
          rintro e w19 ⟨rfl, Zm, hk⟩
          clear hW
          clear Z1
          replace T := T.keeps hk (by rintro b ⟨hb1, hb2, hb3⟩; omega)
          replace V0 := V0.keeps hk (by rintro b ⟨hb1, hb2, hb3⟩; omega) (by rintro ⟨hb1, hb2, hb3⟩; omega)
          replace Z0 := Z0.keeps hk (by rintro b p1 p2 ⟨hb1, hb2, hb3⟩; omega)
          replace W1 := W1.keeps hk (by rintro b ⟨hb1, hb2, hb3⟩; omega) (by rintro ⟨hb1, hb2, hb3⟩; omega)
          clear hk
          have Z1 := Zm
          clear Zm
          have hW := W1.C
          go_wp2_with fail
          refine (heldR_any _ x _ 1 _ Z1 FX.out (by omega) (by have := TX.out; omega)).mono ?_
          rintro e w20 ⟨rfl, hb⟩
          clear hW
          replace T := T.step hb
          replace V0 := V0.step hb
          replace Z0 := Z0.go hb
          replace W1 := W1.step hb
          replace Z1 := Z1.go hb
          clear hb
          have nn : ¬ ((1 : Int) + (totS x : Int) < 0) := by omega
          -- once more, of other copies
          go_upto_region 31 with fail
          have K0 : Below w20.heap.size w20 w20 := Below.refl _ _
          have S0 : (∀ o, w20.cell? ⟨w.heap.size, o, none⟩ = (planC A0 A1 A2 A3 d.n0 c0 d.n1 c1 d.n2 c2 d.n3 c3 d.l d.p d.t)[o]?) ∧ (∀ o, w20.cell? ⟨w.heap.size + 1, o, none⟩ = (stC E0 E1 E2 E3 s.pods.length k0 s.mnts.length k1 s.devs.length k2 s.lks.length k3 s.ph s.co s.ck s.bo s.ba s.lb s.gd s.pr)[o]?) ∧ (∀ o, w20.cell? ⟨w.heap.size + 1 + 1, o, none⟩ = (#[.int .i64 r.k, .int .i64 r.a, .int .i64 r.b])[o]?) ∧ Below w20.heap.size w20 w20 := ⟨T.A.C, T.Z.C, T.O.C, K0⟩
          have hw0 : w.heap.size < w20.heap.size := T.A.z
          have hw1 : w.heap.size + 1 < w20.heap.size := T.Z.z
          have hw2 : w.heap.size + 1 + 1 < w20.heap.size := T.O.z
          go_cut [17, 18] from 100 to 109 (fun s8 s9 wx => ∃ (g : Nat) (cs : Array Value), s8 = .pointer (some ⟨g, 0, none⟩) ∧ s9 = .bool b ∧ Below w20.heap.size w20 wx ∧ BoxS wx w20.heap.size g cs.toList ∧ OwnSt wx w20.heap.size (.agg cs) x)
          case first =>
            go_region_held3 (fun w' => (∀ o, w'.cell? ⟨w.heap.size, o, none⟩ = (planC A0 A1 A2 A3 d.n0 c0 d.n1 c1 d.n2 c2 d.n3 c3 d.l d.p d.t)[o]?) ∧ (∀ o, w'.cell? ⟨w.heap.size + 1, o, none⟩ = (stC E0 E1 E2 E3 s.pods.length k0 s.mnts.length k1 s.devs.length k2 s.lks.length k3 s.ph s.co s.ck s.bo s.ba s.lb s.gd s.pr)[o]?) ∧ (∀ o, w'.cell? ⟨w.heap.size + 1 + 1, o, none⟩ = (#[.int .i64 r.k, .int .i64 r.a, .int .i64 r.b])[o]?) ∧ Below w20.heap.size w20 w')
              (first | (with_reducible exact S4) | (with_reducible exact S3) | (with_reducible exact S2) | (with_reducible exact S1) | (with_reducible exact S0) | (refine ⟨fun o => (Below.cell (B := w20.heap.size) (w := w20) ?_ hw0).trans (S0.1 o), fun o => (Below.cell (B := w20.heap.size) (w := w20) ?_ hw1).trans (S0.2.1 o), fun o => (Below.cell (B := w20.heap.size) (w := w20) ?_ hw2).trans (S0.2.2.1 o), ?_⟩ <;> (repeat (first | (with_reducible exact K4) | (with_reducible exact K3) | (with_reducible exact K2) | (with_reducible exact K1) | (with_reducible exact Below.refl _ _) | (with_reducible refine Below.drew ?_) | (with_reducible refine (fun h => Below.alloc h h.size _) ?_) | (with_reducible refine Below.setCell ?_ (by first | exact Z.lt.1 | exact Nat.le_refl _) _)))))
              (first
              | (go_at_call 13
                 have hq := K3
                 clear hq
                 first
                 | (with_reducible refine calls_at (fun W' => Below w3_.heap.size w3_ W' ∧ BoxS W' w20.heap.size w3_.heap.size (stC none none none none 0 0 0 0 0 0 0 0 0 false 0 0 0 0 0 0).toList) ⟨(Below.refl _ _).alloc (Nat.le_refl _) (.cells (stC none none none none 0 0 0 0 0 0 0 0 0 false 0 0 0 0 0 0) 40), BoxS.new rfl K3.size rfl⟩ ?_
                    rintro W' ⟨hW, Z⟩)
                 | (with_reducible refine calls_at (fun W' => Below w3_.heap.size w3_ W' ∧ BoxS W' w20.heap.size w3_.heap.size (stC none none none none 0 0 0 0 0 0 0 0 0 false 0 0 0 0 0 0).toList) ⟨((Below.refl _ _).alloc (Nat.le_refl _) (.cells (stC none none none none 0 0 0 0 0 0 0 0 0 false 0 0 0 0 0 0) 40)).drew, BoxS.go (BoxS.new rfl K3.size rfl) (Below.refl _ _).drew⟩ ?_
                    rintro W' ⟨hW, Z⟩)
                 | (with_reducible refine calls_at (fun W' => Below w3_.heap.size w3_ W') (Below.refl _ _) ?_
                    intro W' hW
                    try replace Z := Z.go hW)
                 | (with_reducible refine calls_at (fun W' => Below w3_.heap.size w3_ W') (Below.refl _ _).drew ?_
                    intro W' hW
                    try replace Z := Z.go hW)
                 have hall := implRec_any _ _ d s r W' (P1.out.go (((K12.trans (K23.mono K12.size)).trans (hW.mono (K12.trans (K23.mono K12.size)).size)))) (Q2.out.go (K23.trans (hW.mono K23.size))) (HN.out.go (T.A.K.trans ((K3.trans (hW.mono K3.size)).mono T.A.K.size)))
                 rw [HXB.out] at hall
                 refine hall.mono ?_
                 clear hall
                 rintro e w4_ ⟨v4_, h4_, O4_, hb⟩
                 dsimp only at h4_ O4_
                 subst h4_
                 have K4 : Below w20.heap.size w20 w4_ := K3.trans ((hW.trans (hb.mono hW.size)).mono K3.size)
                 try replace Z := Z.go hb
                 have S4 := And.intro (T.step K4).A.C (And.intro (T.step K4).Z.C (And.intro (T.step K4).O.C K4))
                 try have zC := Z.C
                 try have zF := Z.frozen
                 replace O4_ := O4_.base (Nat.le_trans K3.size hW.size)
                 have HO4 := Lib.hid O4_
                 obtain ⟨u0, u1, u2, u3, rfl, y0, y1, y2, y3⟩ := O4_.it
                 obtain ⟨D0, h0, rfl, -⟩ := open_rowR y0
                 obtain ⟨D1, h1, rfl, -⟩ := open_rowR y1
                 obtain ⟨D2, h2, rfl, -⟩ := open_rowR y2
                 obtain ⟨D3, h3, rfl, -⟩ := open_rowR y3
                 clear y0 y1 y2 y3 O4_ hb hW)
              | (go_at_call 12
                 have hq := K2
                 clear hq
                 first
                 | (with_reducible refine calls_at (fun W' => Below w2_.heap.size w2_ W' ∧ BoxS W' w20.heap.size w2_.heap.size (stC none none none none 0 0 0 0 0 0 0 0 0 false 0 0 0 0 0 0).toList) ⟨(Below.refl _ _).alloc (Nat.le_refl _) (.cells (stC none none none none 0 0 0 0 0 0 0 0 0 false 0 0 0 0 0 0) 40), BoxS.new rfl K2.size rfl⟩ ?_
                    rintro W' ⟨hW, Z⟩)
                 | (with_reducible refine calls_at (fun W' => Below w2_.heap.size w2_ W' ∧ BoxS W' w20.heap.size w2_.heap.size (stC none none none none 0 0 0 0 0 0 0 0 0 false 0 0 0 0 0 0).toList) ⟨((Below.refl _ _).alloc (Nat.le_refl _) (.cells (stC none none none none 0 0 0 0 0 0 0 0 0 false 0 0 0 0 0 0) 40)).drew, BoxS.go (BoxS.new rfl K2.size rfl) (Below.refl _ _).drew⟩ ?_
                    rintro W' ⟨hW, Z⟩)
                 | (with_reducible refine calls_at (fun W' => Below w2_.heap.size w2_ W') (Below.refl _ _) ?_
                    intro W' hW
                    try replace Z := Z.go hW)
                 | (with_reducible refine calls_at (fun W' => Below w2_.heap.size w2_ W') (Below.refl _ _).drew ?_
                    intro W' hW
                    try replace Z := Z.go hW)
                 refine (toRec_any r.k r.a r.b W').mono ?_
                 rintro e w3_ ⟨rfl, hb⟩
                 have K23 : Below w2_.heap.size w2_ w3_ := hW.trans (hb.mono hW.size)
                 have K3 : Below w20.heap.size w20 w3_ := K2.trans ((hW.trans (hb.mono hW.size)).mono K2.size)
                 try replace Z := Z.go hb
                 have S3 := And.intro (T.step K3).A.C (And.intro (T.step K3).Z.C (And.intro (T.step K3).O.C K3))
                 clear hb hW)
              | (go_at_call 11
                 have hq := K1
                 clear hq
                 first
                 | (with_reducible refine calls_at (fun W' => Below w1_.heap.size w1_ W' ∧ BoxS W' w20.heap.size w1_.heap.size (stC none none none none 0 0 0 0 0 0 0 0 0 false 0 0 0 0 0 0).toList) ⟨(Below.refl _ _).alloc (Nat.le_refl _) (.cells (stC none none none none 0 0 0 0 0 0 0 0 0 false 0 0 0 0 0 0) 40), BoxS.new rfl K1.size rfl⟩ ?_
                    rintro W' ⟨hW, Z⟩)
                 | (with_reducible refine calls_at (fun W' => Below w1_.heap.size w1_ W' ∧ BoxS W' w20.heap.size w1_.heap.size (stC none none none none 0 0 0 0 0 0 0 0 0 false 0 0 0 0 0 0).toList) ⟨((Below.refl _ _).alloc (Nat.le_refl _) (.cells (stC none none none none 0 0 0 0 0 0 0 0 0 false 0 0 0 0 0 0) 40)).drew, BoxS.go (BoxS.new rfl K1.size rfl) (Below.refl _ _).drew⟩ ?_
                    rintro W' ⟨hW, Z⟩)
                 | (with_reducible refine calls_at (fun W' => Below w1_.heap.size w1_ W') (Below.refl _ _) ?_
                    intro W' hW
                    try replace Z := Z.go hW)
                 | (with_reducible refine calls_at (fun W' => Below w1_.heap.size w1_ W') (Below.refl _ _).drew ?_
                    intro W' hW
                    try replace Z := Z.go hW)
                 refine (toState_any _ s W' ((HS.out.below (T.step (K1.trans (hW.mono K1.size))).A.K (Nat.le_refl _)).more (T.step (K1.trans (hW.mono K1.size))).A.K.size) F.out).mono ?_
                 rintro e w2_ ⟨q0_, q1_, q2_, q3_, rfl, N2, hb⟩
                 have Q2 := Lib.hid (N2.isR F.out)
                 have K12 : Below w1_.heap.size w1_ w2_ := hW.trans (hb.mono hW.size)
                 have K2 : Below w20.heap.size w20 w2_ := K1.trans ((hW.trans (hb.mono hW.size)).mono K1.size)
                 try replace Z := Z.go hb
                 have S2 := And.intro (T.step K2).A.C (And.intro (T.step K2).Z.C (And.intro (T.step K2).O.C K2))
                 clear hb hW N2)
              | (go_at_call 10
                 first
                 | (with_reducible refine calls_at (fun W' => Below w20.heap.size w20 W' ∧ BoxS W' w20.heap.size w20.heap.size (stC none none none none 0 0 0 0 0 0 0 0 0 false 0 0 0 0 0 0).toList) ⟨(Below.refl _ _).alloc (Nat.le_refl _) (.cells (stC none none none none 0 0 0 0 0 0 0 0 0 false 0 0 0 0 0 0) 40), BoxS.new rfl K0.size rfl⟩ ?_
                    rintro W' ⟨hW, Z⟩)
                 | (with_reducible refine calls_at (fun W' => Below w20.heap.size w20 W' ∧ BoxS W' w20.heap.size w20.heap.size (stC none none none none 0 0 0 0 0 0 0 0 0 false 0 0 0 0 0 0).toList) ⟨((Below.refl _ _).alloc (Nat.le_refl _) (.cells (stC none none none none 0 0 0 0 0 0 0 0 0 false 0 0 0 0 0 0) 40)).drew, BoxS.go (BoxS.new rfl K0.size rfl) (Below.refl _ _).drew⟩ ?_
                    rintro W' ⟨hW, Z⟩)
                 | (with_reducible refine calls_at (fun W' => Below w20.heap.size w20 W') (Below.refl _ _) ?_
                    intro W' hW
                    try replace Z := Z.go hW)
                 | (with_reducible refine calls_at (fun W' => Below w20.heap.size w20 W') (Below.refl _ _).drew ?_
                    intro W' hW
                    try replace Z := Z.go hW)
                 refine (toPlan_any _ d W' ((H.out.below (T.step hW).A.K (Nat.le_refl _)).more (T.step hW).A.K.size) q0.out q1.out q2.out q3.out).mono ?_
                 rintro e w1_ ⟨p0_, p1_, p2_, p3_, rfl, N1, hb⟩
                 have P1 := Lib.hid (N1.is B0.out B1.out B2.out B3.out)
                 have K1 : Below w20.heap.size w20 w1_ := K0.trans ((hW.trans (hb.mono hW.size)).mono K0.size)
                 try replace Z := Z.go hb
                 have S1 := And.intro (T.step K1).A.C (And.intro (T.step K1).Z.C (And.intro (T.step K1).O.C K1))
                 clear hb hW N1))
            all_goals (go_wp2_with fail; go_meet)
            all_goals first
              | (have hz := Z.lt.1
                 apply Exists.intro
                 apply Exists.intro
                 refine ⟨rfl, rfl, K4.trans ((keeps_put12 ..).below K4.size fun b hb e => by subst e; omega), Z.put .., HO4.out.keeps (keeps_put12 ..) fun b hb e => HO4.out.apart Z (by rw [← e]; exact hb)⟩)
              | (apply Exists.intro
                 apply Exists.intro
                 exact ⟨rfl, rfl, K4.alloc K4.size _, BoxS.new rfl K4.size rfl, HO4.out.below ((Below.refl _ _).alloc (Nat.le_refl _) _)⟩)
          case rest =>
            obtain ⟨g5, cs, rfl, rfl, hb, BX, O⟩ := hcut
            have Z2 := RowsIn.of O hb.size
            obtain ⟨u0, u1, u2, u3, hv, y0, y1, y2, y3⟩ := O.it
            injection hv with hv
            subst hv
            obtain ⟨D0, h0, rfl, -⟩ := open_rowR y0
            obtain ⟨D1, h1, rfl, -⟩ := open_rowR y1
            obtain ⟨D2, h2, rfl, -⟩ := open_rowR y2
            obtain ⟨D3, h3, rfl, -⟩ := open_rowR y3
            clear y0 y1 y2 y3 O S0 K0 hw0 hw1 hw2
            replace T := T.step hb
            replace V0 := V0.step hb
            replace Z0 := Z0.go hb
            replace W1 := W1.step hb
            replace Z1 := Z1.go hb
            clear hb
            have V2 := BX.own T.A.K
            clear BX
            have hC := V0.C
            have hV := V2.C
            go_wp2_with fail
            refine (eqState_same _ _ x _ (Z2.is FX.out) (Z0.is FX.out)).mono ?_
            rintro e w21 ⟨rfl, hb⟩
            clear hC hV V2 Z2
            replace T := T.step hb
            replace V0 := V0.step hb
            replace Z0 := Z0.go hb
            replace W1 := W1.step hb
            replace Z1 := Z1.go hb
            clear hb
            have hW := W1.C
            go_wp2_with fail
            refine (heldR_any _ x _ 1 _ Z1 FX.out (by omega) (by have := TX.out; omega)).mono ?_
            rintro e w22 ⟨rfl, hb⟩
            clear hW
            replace T := T.step hb
            replace V0 := V0.step hb
            replace Z0 := Z0.go hb
            replace W1 := W1.step hb
            replace Z1 := Z1.go hb
            clear hb
            go_wp2_with fail
            go_ret
            exact ⟨rfl, T.A.K⟩
    · have e0 : szS left s = -1 := if_neg hsz2
      rw [e0]
      clear e0
      go_wp2_with fail
      go_ret
      exact ⟨rfl, T.A.K⟩
  · have e0 : szP d = -1 := if_neg hsz
    rw [e0]
    clear e0
    go_wp2_with fail
    go_ret
    exact ⟨rfl, T.A.K⟩
end Go.Proofs.YtdphpjnecjofeaaGreatDoor
/- YdCard -/
set_option linter.unusedVariables false
namespace Go.Proofs.YtdphpjnecjofeaaGreatDoor
open Go.ChangeShapes Go.WideShapes Go.ChangeAt Go.RowKit Go.Deep

namespace fnExactAppliedRecRow
set_option maxRecDepth 100000 in
theorem contract (H : Type) (enc : TypeId × Value → H) (W : World) (base : Nat) (args : Array Value) (ds gs : List (DataW H)) (before : List MemPlace)
    (hval : ∀ (j : Nat) t v, Tryz.f3.params[j]? = some t → args[j]? = some v → Value.okWide Tryz.prog W .any base t v)
    (hW : DataW.Whole enc Tryz.prog Tryz.f3.params.toList Rows.fnExactAppliedRecSpec.vars false W args.toList ds gs before)
    (hL : laidMetH Tryz.prog Rows.fnExactAppliedRecRow.laid W) :
    Calls Tryz.prog 3 args W fun e W' => ∃ v, e = .returned v ∧ Rows.fnExactAppliedRecSpec.post enc Tryz.prog Tryz.f3 false true false false W args v W' := by
  have hW' := hW
  obtain ⟨p, q, hA0, hV, rfl, hfz, hnd⟩ := hW
  have hA : DataW.TrodAll enc Tryz.prog W 0 (fun _ => true) true Tryz.f3.params.toList args.toList ds p := hA0
  rw [Tryz.params3] at hA hval
  obtain ⟨v0, v1, v2, d0, d1, d2, p0, p1, p2, rfl, rfl, rfl, h0, h1, h2⟩ := trodAll_three hA
  have hN := names_of_laid hL
  have hlt0 : ∀ x ∈ p0, x.block < W.heap.size := fun x hx => hW'.lt x (List.mem_append_left _ (List.mem_append_left _ (List.mem_append_left _ hx)))
  have hlt1 : ∀ x ∈ p1, x.block < W.heap.size := fun x hx => hW'.lt x (List.mem_append_left _ (List.mem_append_left _ (List.mem_append_right _ hx)))
  have hlt2 : ∀ x ∈ p2, x.block < W.heap.size := fun x hx => hW'.lt x (List.mem_append_left _ (List.mem_append_right _ hx))
  obtain ⟨dv, rfl⟩ : ∃ dv, gs = [dv] := by obtain ⟨_, _, _, _, dv, _, e, _⟩ := trodVars_one hV; exact ⟨dv, e⟩
  obtain ⟨D, hD⟩ := open_plan (hval 0 27 v0 rfl rfl) h0
  obtain ⟨s, hS⟩ := open_state (hval 1 32 v1 rfl rfl) h1
  obtain ⟨a, b, c, rfl⟩ := open_rec (hval 2 34 v2 rfl rfl) h2
  clear hA0
  refine (lawRec v0 v1 D s ⟨a, b, c⟩ W hD hS hN).mono fun e W' ⟨he, K⟩ => ?_
  subst he
  refine ⟨_, rfl, ⟨_, _, _, [], p0 ++ p1 ++ p2, q, hW', ?_, ?_, ?_, K.frame _, fun h => by cases h⟩⟩
  · exact trodAll_mk1 (shut_bool Tryz.underlying4 _)
  · rw [List.append_assoc]
    exact trodAll_mk3 (Below.trod laid_ (by kernel_rfl) (of_decide_eq_true (by kernel_rfl)) h0 K hlt0) (Below.trod laid_ (by kernel_rfl) (of_decide_eq_true (by kernel_rfl)) h1 K hlt1) (Below.trod laid_ (by kernel_rfl) (of_decide_eq_true (by kernel_rfl)) h2 K hlt2)
  · exact Below.trodVars laid_ K (by kernel_rfl) hV

set_option maxRecDepth 100000 in
theorem lifted (os : Os) (started : os.Started) (H : Type) (enc : TypeId × Value → H) :
    ReturnsInHanded {} Tryz.checked os 3 .any (fun w args => (Rows.fnExactAppliedRecSpec.pre enc Tryz.prog Tryz.f3 Rows.fnExactAppliedRecRow.domain false w args ∧ laidMetH Tryz.prog Rows.fnExactAppliedRecRow.laid w) ∧ sizedMet enc Tryz.prog Tryz.f3 (OpenSpec.ofChange Rows.fnExactAppliedRecSpec) false w args)
      (Rows.fnExactAppliedRecSpec.post enc Tryz.prog Tryz.f3 false true false false) := by
  refine returnsInHanded_of_change_and (C := Tryz.checked) (X := fun w _ => laidMetH Tryz.prog Rows.fnExactAppliedRecRow.laid w) (fun _ _ _ hh h => h.of_heap hh) own_ started (by kernel_rfl) Tryz.func3
    (ChangeSpec.witness_at (enc := enc) (C := Tryz.checked) (os := os) (X := fun w _ => laidMetH Tryz.prog Rows.fnExactAppliedRecRow.laid w) false (laidWorld os) #[planV none none none none 0 0 0 0 0 0 0 0 0 0 0, .agg (stC none none none none 0 0 0 0 0 0 0 0 0 false 0 0 0 0 0 0), .agg #[.int .i64 0, .int .i64 0, .int .i64 0]] 8 rfl (by kernel_rfl) (by kernel_rfl) (by kernel_rfl) (by kernel_rfl) (by kernel_rfl) (laidWorld_met os _)) ?_
  intro W base args ds gs before hval hW _ _ hL _
  exact contract H enc W base args ds gs before hval hW hL
end fnExactAppliedRecRow

theorem fnExactAppliedRec_row : Rows.FnExactAppliedRecSaid :=
  OpenClaim.holds_of_wide 3 Tryz.f3 rfl rfl rfl rfl rfl rfl rfl ⟨rfl, rfl, rfl, rfl, rfl⟩ rfl rfl rfl rfl rfl (by kernel_rfl) Tryz.func3 (by kernel_rfl)
    (of_decide_eq_true (by kernel_rfl)) (by unfold Func.isWrapper; first | (rw [if_pos (by decide +kernel)]; kernel_rfl) | (rw [if_neg (by decide +kernel)]; exact ⟨rfl, rfl⟩))
    (fun os started H enc _ => fnExactAppliedRecRow.lifted os started H enc)
theorem fnExactAppliedRec_holds : Rows.FnExactAppliedRecCardSaid :=
  Claim7.holds_tied_plain_at .later [] [.data] true (true, "15bf401f4c702e812a6d36bd633aefde72431cc50e7deb406c5532528cc5f13f") true
    fnExactAppliedRec_row (fun _ h => by cases h) (by kernel_rfl) (fun _ h => by cases h) fnExactAppliedRec_row_tie rfl ⟨rfl, rfl⟩ (by kernel_rfl) rfl
    (fun f fn hf hfn => by
      obtain rfl : f = 3 := Option.some.inj ((show Tryz.prog.funcNamed "loop.example/g00767/laws.FnExactAppliedRec" = some 3 by kernel_rfl).symm.trans hf) |>.symm
      obtain rfl : fn = Tryz.f3 := (Option.some.inj (Tryz.func3.symm.trans hfn)).symm
      exact ⟨by kernel_rfl, fun j t ht => by
        rw [Tryz.params3] at ht
        have h3 : t = 27 ∨ t = 32 ∨ t = 34 := by
          rcases j with _ | _ | _ | j
          · exact .inl (by simpa using ht.symm)
          · exact .inr (.inl (by simpa using ht.symm))
          · exact .inr (.inr (by simpa using ht.symm))
          · simp at ht
        rcases h3 with rfl | rfl | rfl
        · exact (show Tryz.prog.wantsStandIn 27 = false by kernel_rfl)
        · exact (show Tryz.prog.wantsStandIn 32 = false by kernel_rfl)
        · exact (show Tryz.prog.wantsStandIn 34 = false by kernel_rfl)⟩)
    (by kernel_rfl)
#print axioms fnExactAppliedRec_holds
end Go.Proofs.YtdphpjnecjofeaaGreatDoor
