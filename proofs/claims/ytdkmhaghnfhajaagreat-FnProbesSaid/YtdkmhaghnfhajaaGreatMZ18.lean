/-
  The model's AppliedAll.
-/
import Derived.Test.YtdkmhaghnfhajaaGreatMZ17
import Derived.Test.YtdkmhaghnfhajaaGreatMZxVbS
import Derived.Test.YtdkmhaghnfhajaaGreatMZxWc
import Derived.Test.YtdkmhaghnfhajaaGreatMZ5
import Derived.Test.YtdkmhaghnfhajaaGreatMZ6
import Derived.Deep.DeepCutAuto
import Derived.Deep.RegionLaw
/- Xj -/
set_option linter.unusedVariables false
namespace Go.Proofs.YtdkmhaghnfhajaaGreat
open Go.RowKit

theorem appliedL_no {d : PlanD} {s : StD} {l : List RecD} (h : stOkB d s = false) : appliedL d s l = (zeroS, false) := by unfold appliedL; rw [h]; rfl
theorem appliedL_all {d : PlanD} {s : StD} {l : List RecD} (h : stOkB d s = true) : appliedL d s l = allS d s l := by unfold appliedL allS; rw [h]; rfl
end Go.Proofs.YtdkmhaghnfhajaaGreat
/- Uv -/
set_option linter.unusedVariables false
namespace Go.Proofs.YtdkmhaghnfhajaaGreat
open Go.RowKit

/-- Four blocks of the call's own. -/
structure Four (w w1 : World) (c0 c1 c2 c3 : Array Value) : Prop where
  P : Own w w1 w.heap.size c0
  S : Own w w1 (w.heap.size + 1) c1
  R : Own w w1 (w.heap.size + 2) c2
  O : Own w w1 (w.heap.size + 3) c3
theorem Four.start (w : World) (c0 c1 c2 c3 : Array Value) (t0 t1 t2 t3 : TypeId) : Four w ((((w.alloc (.cells c0 t0)).alloc (.cells c1 t1)).alloc (.cells c2 t2)).alloc (.cells c3 t3)) c0 c1 c2 c3 := by
  have h0 := Own.box w c0 t0
  have h1 := Own.box2 h0.K c1 t1
  have h2 := Own.box2 h1.K c2 t2
  have h3 := Own.box2 h2.K c3 t3
  simp only [heap_size_alloc_] at h1 h2 h3
  exact ⟨((h0.alloc _).alloc _).alloc _, (h1.alloc _).alloc _, h2.alloc _, h3⟩
theorem Four.step {w w1 w2 : World} {c0 c1 c2 c3 : Array Value} (h : Four w w1 c0 c1 c2 c3) (hb : Below w1.heap.size w1 w2) : Four w w2 c0 c1 c2 c3 := ⟨h.P.step hb, h.S.step hb, h.R.step hb, h.O.step hb⟩

/-- What AppliedRec answers. -/
def Appl2 (w : World) (t : StD × Bool) (e : Ending) (w' : World) : Prop := ∃ v', e = .returned (.tuple #[v', .bool t.2]) ∧ OwnSt w' w.heap.size v' t.1 ∧ Below w.heap.size w w'

end Go.Proofs.YtdkmhaghnfhajaaGreat
/- Xk -/
set_option linter.unusedVariables false
namespace Go.Proofs.YtdkmhaghnfhajaaGreat
open Go.RowKit

set_option maxRecDepth 4000 in
set_option maxHeartbeats 4000000 in
theorem specAll_any (pv sv rv : Value) (d : PlanD) (s : StD) (l : List RecD) (w : World) (hp : IsPlan w w.heap.size pv d) (hs : IsStR w w.heap.size sv s) (hr : Rt w w.heap.size rv l) :
    Calls Tryz.prog 41 #[pv, sv, rv] w (MadeSB w (appliedL d s l)) := by
  have HP := Lib.hid hp
  have HS := Lib.hid hs
  have HR := Lib.hid hr
  obtain ⟨⟨P0, P1, P2, P3, k0, k1, k2, k3, rfl, -, -, -, -⟩, -, -, -, -⟩ := hp
  obtain ⟨⟨A0, A1, A2, A3, c0, c1, c2, c3, rfl, -, -⟩, -⟩ := hs
  obtain ⟨⟨L0, cl, rfl, -⟩, hlen⟩ := hr
  unfold maxLen at hlen
  have T0 := TP.start w (planC P0 P1 P2 P3 d.n0 k0 d.n1 k1 d.n2 k2 d.n3 k3 d.l d.p d.t) (stC A0 A1 A2 A3 s.pods.length c0 s.mnts.length c1 s.devs.length c2 s.lks.length c3 s.ph s.co s.ck s.bo s.ba s.lb s.gd s.pr) (stC none none none none 0 0 0 0 0 0 0 0 0 false 0 0 0 0 0 0) 29 38 38
  go_enter Tryz.func41, Tryz.ntmps41
  go_wp2_with fail
  refine (specStateOk_any _ _ d s _ ((HP.out.below T0.A.K (Nat.le_refl _)).more T0.A.K.size) ((HS.out.below T0.A.K (Nat.le_refl _)).more T0.A.K.size).is).mono ?_
  rintro e w1 ⟨rfl, hb⟩
  have T1 := T0.step hb
  clear hb T0
  cases hok : stOkB d s
  · have HE := Lib.hid (appliedL_no (l := l) hok)
    clear hok
    have hD := T1.O.C
    have hG := T1.O.F
    go_wp2
    refine bodyPost_ret (v := .tuple #[.agg (stC none none none none 0 0 0 0 0 0 0 0 0 false 0 0 0 0 0 0), .bool false]) ?_ rfl ?_
    · simp [results, Tryz.results41, go_sem, hD]
    · rw [HE.out]
      refine ⟨_, rfl, OwnSt.zero _ _, ?_⟩
      iterate 12 (refine Below.setCell ?_ (by simp <;> omega) _)
      exact T1.A.K
  · have HE := Lib.hid (appliedL_all (l := l) hok)
    have HOK := Lib.hid (stOkB_iff.1 hok)
    clear hok
    have hC := T1.A.C
    have hS := T1.Z.C
    go_wp2_with fail
    obtain ⟨x, b, hxb⟩ : ∃ x b, appliedL d s l = (x, b) := by
      generalize appliedL d s l = q
      exact ⟨q.1, q.2, rfl⟩
    have hall := l6All_any _ _ _ d s l _ ((HP.out.below T1.A.K (Nat.le_refl _)).more T1.A.K.size) ((HS.out.below T1.A.K (Nat.le_refl _)).more T1.A.K.size) ((HR.out.below T1.A.K (Nat.le_refl _)).more T1.A.K.size) HOK.out
    rw [← HE.out, hxb] at hall
    have HXB := Lib.hid hxb
    clear hxb HE
    refine hall.mono ?_
    rintro e wc ⟨vc, h1, Oc, hb⟩
    dsimp only at h1 Oc
    subst h1
    have Tc := T1.step hb
    have hB2 := T1.O.z
    obtain ⟨u0, u1, u2, u3, rfl, z0, z1, z2, z3⟩ := Oc.it
    obtain ⟨D0, h0, rfl, -⟩ := open_rowR z0
    obtain ⟨D1, h1, rfl, -⟩ := open_rowR z1
    obtain ⟨D2, h2, rfl, -⟩ := open_rowR z2
    obtain ⟨D3, h3, rfl, -⟩ := open_rowR z3
    have HOc := Lib.hid Oc
    clear z0 z1 z2 z3 Oc hS hC
    have hD := Tc.O.C
    have hG := Tc.O.F
    go_wp2
    refine bodyPost_ret (v := .tuple #[.agg (stC D0 D1 D2 D3 x.pods.length h0 x.mnts.length h1 x.devs.length h2 x.lks.length h3 x.ph x.co x.ck x.bo x.ba x.lb x.gd x.pr), .bool b]) ?_ rfl ?_
    · simp [results, Tryz.results41, go_sem, hD]
    · rw [HXB.out]
      refine ⟨_, rfl, (HOc.out.keeps (keeps_put12 ..) fun r hr e => by subst e; have := (HOc.out.blocks hr).1; omega).base (by omega), ?_⟩
      iterate 12 (refine Below.setCell ?_ (by simp <;> omega) _)
      exact Tc.A.K

end Go.Proofs.YtdkmhaghnfhajaaGreat
