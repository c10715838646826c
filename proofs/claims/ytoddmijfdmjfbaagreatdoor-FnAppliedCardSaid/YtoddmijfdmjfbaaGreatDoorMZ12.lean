/-
  The program's AppliedRec.
-/
import Derived.Test.YtoddmijfdmjfbaaGreatDoorMZxXj
import Derived.Test.YtoddmijfdmjfbaaGreatDoorMZ9
/- Xk -/
set_option linter.unusedVariables false
namespace Go.Proofs.YtoddmijfdmjfbaaGreatDoor
open Go.RowKit

set_option maxRecDepth 4000 in
set_option maxHeartbeats 4000000 in
theorem specAll_any (pv sv rv : Value) (d : PlanD) (s : StD) (l : List RecD) (w : World) (hp : IsPlan w w.heap.size pv d) (hs : IsStR w w.heap.size sv s) (hr : Rt w w.heap.size rv l) :
    Calls Tryz.prog 7 #[pv, sv, rv] w (MadeSB w (appliedL d s l)) := by
  have HP := Lib.hid hp
  have HS := Lib.hid hs
  have HR := Lib.hid hr
  obtain ⟨⟨P0, P1, P2, P3, k0, k1, k2, k3, rfl, -, -, -, -⟩, -, -, -, -⟩ := hp
  obtain ⟨⟨A0, A1, A2, A3, c0, c1, c2, c3, rfl, -, -⟩, -⟩ := hs
  obtain ⟨⟨L0, cl, rfl, -⟩, hlen⟩ := hr
  unfold maxLen at hlen
  have T0 := TP.start w (planC P0 P1 P2 P3 d.n0 k0 d.n1 k1 d.n2 k2 d.n3 k3 d.l d.p d.t) (stC A0 A1 A2 A3 s.pods.length c0 s.mnts.length c1 s.devs.length c2 s.lks.length c3 s.ph s.co s.ck s.bo s.ba s.lb s.gd s.pr) (stC none none none none 0 0 0 0 0 0 0 0 0 false 0 0 0 0 0 0) 29 34 34
  go_enter Tryz.func7, Tryz.ntmps7
  go_wp2_with fail
  refine (specStateOk_any _ _ d s _ ((HP.out.below T0.A.K (Nat.le_refl _)).more T0.A.K.size) ((HS.out.below T0.A.K (Nat.le_refl _)).more T0.A.K.size).is).mono ?_
  rintro e w1 ⟨rfl, hb⟩
  have T1 := T0.step hb
  clear hb T0
  cases hok : stOkB d s
  · have HE := Lib.hid (appliedL_no (l := l) hok)
    clear hok
    have hD := T1.O.C
    have hG := T1.O.F
    go_wp2
    refine bodyPost_ret (v := .tuple #[.agg (stC none none none none 0 0 0 0 0 0 0 0 0 false 0 0 0 0 0 0), .bool false]) ?_ rfl ?_
    · simp [results, Tryz.results7, go_sem, hD]
    · rw [HE.out]
      refine ⟨_, rfl, OwnSt.zero _ _, ?_⟩
      iterate 12 (refine Below.setCell ?_ (by simp <;> omega) _)
      exact T1.A.K
  · have HE := Lib.hid (appliedL_all (l := l) hok)
    have HOK := Lib.hid (stOkB_iff.1 hok)
    clear hok
    have hC := T1.A.C
    have hS := T1.Z.C
    go_wp2_with fail
    obtain ⟨x, b, hxb⟩ : ∃ x b, appliedL d s l = (x, b) := by
      generalize appliedL d s l = q
      exact ⟨q.1, q.2, rfl⟩
    have hall := l6All_any _ _ _ d s l _ ((HP.out.below T1.A.K (Nat.le_refl _)).more T1.A.K.size) ((HS.out.below T1.A.K (Nat.le_refl _)).more T1.A.K.size) ((HR.out.below T1.A.K (Nat.le_refl _)).more T1.A.K.size) HOK.out
    rw [← HE.out, hxb] at hall
    have HXB := Lib.hid hxb
    clear hxb HE
    refine hall.mono ?_
    rintro e wc ⟨vc, h1, Oc, hb⟩
    dsimp only at h1 Oc
    subst h1
    have Tc := T1.step hb
    have hB2 := T1.O.z
    obtain ⟨u0, u1, u2, u3, rfl, z0, z1, z2, z3⟩ := Oc.it
    obtain ⟨D0, h0, rfl, -⟩ := open_rowR z0
    obtain ⟨D1, h1, rfl, -⟩ := open_rowR z1
    obtain ⟨D2, h2, rfl, -⟩ := open_rowR z2
    obtain ⟨D3, h3, rfl, -⟩ := open_rowR z3
    have HOc := Lib.hid Oc
    clear z0 z1 z2 z3 Oc hS hC
    have hD := Tc.O.C
    have hG := Tc.O.F
    go_wp2
    refine bodyPost_ret (v := .tuple #[.agg (stC D0 D1 D2 D3 x.pods.length h0 x.mnts.length h1 x.devs.length h2 x.lks.length h3 x.ph x.co x.ck x.bo x.ba x.lb x.gd x.pr), .bool b]) ?_ rfl ?_
    · simp [results, Tryz.results7, go_sem, hD]
    · rw [HXB.out]
      refine ⟨_, rfl, (HOc.out.keeps (keeps_put12 ..) fun r hr e => by subst e; have := (HOc.out.blocks hr).1; omega).base (by omega), ?_⟩
      iterate 12 (refine Below.setCell ?_ (by simp <;> omega) _)
      exact Tc.A.K

end Go.Proofs.YtoddmijfdmjfbaaGreatDoor
/- Xl -/
set_option linter.unusedVariables false
namespace Go.Proofs.YtoddmijfdmjfbaaGreatDoor
open Go.RowKit

theorem appliedL_one (d : PlanD) (s : StD) (r : RecD) : appliedL d s [r] = appliedS d s r := by
  unfold appliedL appliedS
  split
  · simp only [runR]
    cases goodR d s r <;> rfl
  · rfl
theorem rt_one {w : World} {g : Nat} {r : RecD} (h : w.heap[g]? = some (.cells #[.int .i64 r.k, .int .i64 r.a, .int .i64 r.b] 41)) {B : Nat} (hB : g < B) : Rt w B (.slice (some ⟨g, 0, none⟩) 1 1) [r] := by
  refine ⟨⟨some ⟨g, 0, none⟩, 1, rfl, fun _ => ⟨g, 0, rfl, hB, fun j hj => ?_⟩⟩, by unfold maxLen; simp⟩
  rw [cell_of_row _ _ _ _ _ _ h]
  rw [Nat.zero_add]
  match j, hj with
  | 0, _ => rfl
  | 1, _ => rfl
  | 2, _ => rfl
  | k + 3, hk => simp at hk; omega

set_option maxRecDepth 4000 in
set_option maxHeartbeats 4000000 in
theorem implRec_any (pv sv : Value) (d : PlanD) (s : StD) (r : RecD) (w : World) (hp : IsPlan w w.heap.size pv d) (hs : IsStR w w.heap.size sv s) (N : Names w) :
    Calls Tryz.prog 9 #[pv, sv, recC r] w (MadeSB w (appliedS d s r)) := by
  have HE := Lib.hid (appliedL_one d s r)
  have HP := Lib.hid hp
  have HS := Lib.hid hs
  have HN := Lib.hid N
  obtain ⟨⟨P0, P1, P2, P3, k0, k1, k2, k3, rfl, -, -, -, -⟩, -, -, -, -⟩ := hp
  obtain ⟨⟨A0, A1, A2, A3, c0, c1, c2, c3, rfl, -, -⟩, -⟩ := hs
  clear N
  unfold recC
  have T0 := Four.start w (planC P0 P1 P2 P3 d.n0 k0 d.n1 k1 d.n2 k2 d.n3 k3 d.l d.p d.t) (stC A0 A1 A2 A3 s.pods.length c0 s.mnts.length c1 s.devs.length c2 s.lks.length c3 s.ph s.co s.ck s.bo s.ba s.lb s.gd s.pr) #[.int .i64 r.k, .int .i64 r.a, .int .i64 r.b] (stC none none none none 0 0 0 0 0 0 0 0 0 false 0 0 0 0 0 0) 29 34 41 34
  go_enter Tryz.func9, Tryz.ntmps9
  go_wp2_with fail
  have hs4 : ((((w.alloc (.cells (planC P0 P1 P2 P3 d.n0 k0 d.n1 k1 d.n2 k2 d.n3 k3 d.l d.p d.t) 29)).alloc (.cells (stC A0 A1 A2 A3 s.pods.length c0 s.mnts.length c1 s.devs.length c2 s.lks.length c3 s.ph s.co s.ck s.bo s.ba s.lb s.gd s.pr) 34)).alloc (.cells #[.int .i64 r.k, .int .i64 r.a, .int .i64 r.b] 41)).alloc (.cells (stC none none none none 0 0 0 0 0 0 0 0 0 false 0 0 0 0 0 0) 34)).heap.size = w.heap.size + 1 + 1 + 1 + 1 := by simp
  generalize (((w.alloc (.cells (planC P0 P1 P2 P3 d.n0 k0 d.n1 k1 d.n2 k2 d.n3 k3 d.l d.p d.t) 29)).alloc (.cells (stC A0 A1 A2 A3 s.pods.length c0 s.mnts.length c1 s.devs.length c2 s.lks.length c3 s.ph s.co s.ck s.bo s.ba s.lb s.gd s.pr) 34)).alloc (.cells #[.int .i64 r.k, .int .i64 r.a, .int .i64 r.b] 41)).alloc (.cells (stC none none none none 0 0 0 0 0 0 0 0 0 false 0 0 0 0 0 0) 34) = w4 at T0 hs4 ⊢
  have hb : Below w4.heap.size w4 (w4.alloc (.cells #[.int .i64 r.k, .int .i64 r.a, .int .i64 r.b] 41)) := (Below.refl _ _).alloc (Nat.le_refl _) _
  have T1 := T0.step hb
  have hnew : (w4.alloc (.cells #[.int .i64 r.k, .int .i64 r.a, .int .i64 r.b] 41)).heap[w4.heap.size]? = some (.cells #[.int .i64 r.k, .int .i64 r.a, .int .i64 r.b] 41) := heap_alloc_new w4 _
  rw [hs4] at hnew
  have hR : Rt _ (w4.alloc (.cells #[.int .i64 r.k, .int .i64 r.a, .int .i64 r.b] 41)).heap.size (.slice (some ⟨w.heap.size + 1 + 1 + 1 + 1, 0, none⟩) 1 1) [r] := rt_one hnew (by rw [heap_size_alloc_]; omega)
  clear hb hs4 hnew T0
  generalize w4.alloc (.cells #[.int .i64 r.k, .int .i64 r.a, .int .i64 r.b] 41) = w5 at T1 hR ⊢
  obtain ⟨x, b, hxb⟩ : ∃ x b, appliedS d s r = (x, b) := by
      generalize appliedS d s r = q
      exact ⟨q.1, q.2, rfl⟩
  have hall := implAll_any _ _ _ d s [r] _ ((HP.out.below T1.P.K (Nat.le_refl _)).more T1.P.K.size) ((HS.out.below T1.P.K (Nat.le_refl _)).more T1.P.K.size) hR (HN.out.go T1.P.K)
  rw [HE.out, hxb] at hall
  have HXB := Lib.hid hxb
  clear hxb HE
  refine hall.mono ?_
  rintro e wc ⟨vc, h1, Oc, hb⟩
  dsimp only at h1 Oc
  subst h1
  have Tc := T1.step hb
  have hB2 := T1.O.z
  obtain ⟨u0, u1, u2, u3, rfl, z0, z1, z2, z3⟩ := Oc.it
  obtain ⟨D0, h0, rfl, -⟩ := open_rowR z0
  obtain ⟨D1, h1, rfl, -⟩ := open_rowR z1
  obtain ⟨D2, h2, rfl, -⟩ := open_rowR z2
  obtain ⟨D3, h3, rfl, -⟩ := open_rowR z3
  have HOc := Lib.hid Oc
  clear z0 z1 z2 z3 Oc hall
  have hD := Tc.O.C
  have hG := Tc.O.F
  go_wp2
  refine bodyPost_ret (v := .tuple #[.agg (stC D0 D1 D2 D3 x.pods.length h0 x.mnts.length h1 x.devs.length h2 x.lks.length h3 x.ph x.co x.ck x.bo x.ba x.lb x.gd x.pr), .bool b]) ?_ rfl ?_
  · simp [results, Tryz.results9, go_sem, hD]
  · rw [HXB.out]
    refine ⟨_, rfl, (HOc.out.keeps (keeps_put12 ..) fun r hr e => by subst e; have := (HOc.out.blocks hr).1; omega).base (by omega), ?_⟩
    iterate 12 (refine Below.setCell ?_ (by simp <;> omega) _)
    exact Tc.P.K
end Go.Proofs.YtoddmijfdmjfbaaGreatDoor
