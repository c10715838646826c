/-
  The model's draw of an order.
-/
import Derived.Test.YtdkmhaghnfhajaaGreatMZ13
import Derived.Test.YtdkmhaghnfhajaaGreatMZ7
/- Zj -/
set_option linter.unusedVariables false
namespace Go.Proofs.YtdkmhaghnfhajaaGreat
open Go.RowKit

theorem OwnSt.shapes {w : World} {B : Nat} {s : StD} {s0 s1 s2 s3 : Value} (h : OwnSt w B (.agg #[.int .i64 s.ph, .bool s.co, .int .i64 s.ck, .int .i64 s.bo, .int .i64 s.ba, .int .i64 s.lb, s0, s1, s2, s3, .int .i64 s.gd, .int .i64 s.pr]) s) :
    (∃ Y f, s0 = .slice Y s.pods.length f) ∧ (∃ Y f, s1 = .slice Y s.mnts.length f) ∧ (∃ Y f, s2 = .slice Y s.devs.length f) ∧ (∃ Y f, s3 = .slice Y s.lks.length f) := by
  obtain ⟨y0, y1, y2, y3, hy, z0, z1, z2, z3⟩ := h.it
  injection hy with hy
  injection hy with hy
  injection hy with _ hy
  injection hy with _ hy
  injection hy with _ hy
  injection hy with _ hy
  injection hy with _ hy
  injection hy with _ hy
  injection hy with i0 hy
  injection hy with i1 hy
  injection hy with i2 hy
  injection hy with i3 hy
  subst i0 i1 i2 i3
  obtain ⟨Y0, f0, e0, -⟩ := open_rowR z0
  obtain ⟨Y1, f1, e1, -⟩ := open_rowR z1
  obtain ⟨Y2, f2, e2, -⟩ := open_rowR z2
  obtain ⟨Y3, f3, e3, -⟩ := open_rowR z3
  exact ⟨⟨Y0, f0, e0⟩, ⟨Y1, f1, e1⟩, ⟨Y2, f2, e2⟩, ⟨Y3, f3, e3⟩⟩
/-- Behind an order obeyed. -/
def ObeyedA (w : World) (d : PlanD) (a : (StD × List Nat) × Int) (e : Ending) (w' : World) : Prop := ∃ v', e = .returned (.tuple #[v', .int .i64 a.2]) ∧ OwnAg w' w.heap.size v' d a.1.1 a.1.2 ∧ Below w.heap.size w w'

set_option maxRecDepth 100000 in
set_option maxHeartbeats 8000000 in
theorem l15Obey_any (v : Value) (d : PlanD) (s : StD) (st : List Nat) (k a b0 : Int) (w : World) (h : IsAg w w.heap.size v d s st) (hok : StOk d s) (hst : st.length ≤ 1200) :
    Calls Tryz.prog 53 #[v, .agg (ordC k a b0)] w (ObeyedA w d (obeyD d s st k a b0)) := by
  have HAG := Lib.hid h
  obtain ⟨p0, p1, p2, p3, s0, s1, s2, s3, b, rfl, hp, hs, -, -⟩ := h.it
  have HP := Lib.hid hp
  have HS := Lib.hid hs
  have HOK := Lib.hid hok
  have HSM := Lib.hid (st_small hok)
  have HI : Hid ((Tryz.prog.info? 49).map (·.size) = some 20) := Lib.hid (by kernel_rfl)
  obtain ⟨L, c, hlc⟩ : ∃ L c, plannedD d s k a b0 = (L, c) := by
    generalize plannedD d s k a b0 = q
    exact ⟨q.1, q.2, rfl⟩
  have HLC := Lib.hid hlc
  obtain ⟨ans, hans⟩ : ∃ ans, obeyD d s st k a b0 = ans := ⟨_, rfl⟩
  rw [hans]
  have HA0 := Lib.hid hans
  have T0 := TP.start w (agC p0 p1 p2 p3 d.l d.p d.t s.ph s.co s.ck s.bo s.ba s.lb s0 s1 s2 s3 s.gd s.pr b) (ordC k a b0) (agC (.slice none 0 0) (.slice none 0 0) (.slice none 0 0) (.slice none 0 0) 0 0 0 0 false 0 0 0 0 (.slice none 0 0) (.slice none 0 0) (.slice none 0 0) (.slice none 0 0) 0 0 (.slice none 0 0)) 49 55 49
  have Ha : (((w.alloc (.cells (agC p0 p1 p2 p3 d.l d.p d.t s.ph s.co s.ck s.bo s.ba s.lb s0 s1 s2 s3 s.gd s.pr b) 49)).alloc (.cells (ordC k a b0) 55)).alloc (.cells (agC (.slice none 0 0) (.slice none 0 0) (.slice none 0 0) (.slice none 0 0) 0 0 0 0 false 0 0 0 0 (.slice none 0 0) (.slice none 0 0) (.slice none 0 0) (.slice none 0 0) 0 0 (.slice none 0 0)) 49)).heap[w.heap.size]? = some (.cells (agC p0 p1 p2 p3 d.l d.p d.t s.ph s.co s.ck s.bo s.ba s.lb s0 s1 s2 s3 s.gd s.pr b) 49) := by
    have hb := ((Below.refl (w.alloc (.cells (agC p0 p1 p2 p3 d.l d.p d.t s.ph s.co s.ck s.bo s.ba s.lb s0 s1 s2 s3 s.gd s.pr b) 49)).heap.size (w.alloc (.cells (agC p0 p1 p2 p3 d.l d.p d.t s.ph s.co s.ck s.bo s.ba s.lb s0 s1 s2 s3 s.gd s.pr b) 49))).alloc (Nat.le_refl _) (.cells (ordC k a b0) 55)).alloc (by simp) (.cells (agC (.slice none 0 0) (.slice none 0 0) (.slice none 0 0) (.slice none 0 0) 0 0 0 0 false 0 0 0 0 (.slice none 0 0) (.slice none 0 0) (.slice none 0 0) (.slice none 0 0) 0 0 (.slice none 0 0)) 49)
    exact (hb.block w.heap.size (by simp)).trans (heap_alloc_new w _)
  have H4 : (((w.alloc (.cells (agC p0 p1 p2 p3 d.l d.p d.t s.ph s.co s.ck s.bo s.ba s.lb s0 s1 s2 s3 s.gd s.pr b) 49)).alloc (.cells (ordC k a b0) 55)).alloc (.cells (agC (.slice none 0 0) (.slice none 0 0) (.slice none 0 0) (.slice none 0 0) 0 0 0 0 false 0 0 0 0 (.slice none 0 0) (.slice none 0 0) (.slice none 0 0) (.slice none 0 0) 0 0 (.slice none 0 0)) 49)).heap[w.heap.size + 1 + 1]? = some (.cells (agC (.slice none 0 0) (.slice none 0 0) (.slice none 0 0) (.slice none 0 0) 0 0 0 0 false 0 0 0 0 (.slice none 0 0) (.slice none 0 0) (.slice none 0 0) (.slice none 0 0) 0 0 (.slice none 0 0)) 49) := by
    have := heap_alloc_new ((w.alloc (.cells (agC p0 p1 p2 p3 d.l d.p d.t s.ph s.co s.ck s.bo s.ba s.lb s0 s1 s2 s3 s.gd s.pr b) 49)).alloc (.cells (ordC k a b0) 55)) (.cells (agC (.slice none 0 0) (.slice none 0 0) (.slice none 0 0) (.slice none 0 0) 0 0 0 0 false 0 0 0 0 (.slice none 0 0) (.slice none 0 0) (.slice none 0 0) (.slice none 0 0) 0 0 (.slice none 0 0)) 49)
    simpa only [heap_size_alloc_] using this
  clear h hp hs hok hlc hans
  go_enter Tryz.func53, Tryz.ntmps53
  go_wp2_with fail
  generalize ((w.alloc (.cells (agC p0 p1 p2 p3 d.l d.p d.t s.ph s.co s.ck s.bo s.ba s.lb s0 s1 s2 s3 s.gd s.pr b) 49)).alloc (.cells (ordC k a b0) 55)).alloc (.cells (agC (.slice none 0 0) (.slice none 0 0) (.slice none 0 0) (.slice none 0 0) 0 0 0 0 false 0 0 0 0 (.slice none 0 0) (.slice none 0 0) (.slice none 0 0) (.slice none 0 0) 0 0 (.slice none 0 0)) 49) = w0 at T0 Ha H4 ⊢
  have hpl := planned_any _ _ d s k a b0 w0 ((HP.out.below T0.A.K (Nat.le_refl _)).more T0.A.K.size).is ((HS.out.below T0.A.K (Nat.le_refl _)).more T0.A.K.size).is
  rw [HLC.out] at hpl
  refine hpl.mono ?_
  clear hpl
  rintro e w1 ⟨v1, h1, O1, hb⟩
  dsimp only at h1 O1
  subst h1
  have RT := Lib.hid O1.rt
  obtain ⟨A1, c1, rfl, -, -⟩ := O1.slv
  have T1 := T0.step hb
  replace Ha := (hb.block _ T0.A.z).trans Ha
  replace H4 := (hb.block _ T0.O.z).trans H4
  clear hb T0 O1
  by_cases hc : c = 0
  · subst hc
    cases hwd : writeD s st L with
    | none =>
      have HANS : Hid (ans = ((s, st), 8)) := Lib.hid (by rw [← HA0.out]; unfold obeyD; rw [HLC.out]; dsimp only; rw [if_pos rfl, hwd])
      have HW := Lib.hid hwd
      clear hwd
      go_upto_region 6 with (first
        | (go_at_call 96
           have hwr := l15Write_any _ _ d s st L _ ((HAG.out.below T1.A.K (Nat.le_refl _)).more T1.A.K.size) RT.out HSM.out hst
           rw [HW.out] at hwr
           refine hwr.mono ?_
           clear hwr
           rintro e w2 ⟨hb2, v2, rfl⟩)
        | ((with_reducible refine load_agent (x := 2) (g := w.heap.size) (cs := agC p0 p1 p2 p3 d.l d.p d.t s.ph s.co s.ck s.bo s.ba s.lb s0 s1 s2 s3 s.gd s.pr b) ?_ Ha ?_ ?_)
           · rfl
           · exact HI.out))
      have T2 := T1.step hb2
      replace Ha := (hb2.block _ T1.A.z).trans Ha
      replace H4 := (hb2.block _ T1.O.z).trans H4
      clear hb2 T1
      go_wp2_with (first
        | (have hq := H49
           clear hq
           (with_reducible refine store_agent (x := 4) (y := 38) (g := w.heap.size + 1 + 1) (cs := agC (.slice Q0 d.n0 e0) (.slice Q1 d.n1 e1) (.slice Q2 d.n2 e2) (.slice Q3 d.n3 e3) d.l d.p d.t s.ph s.co s.ck s.bo s.ba s.lb (.slice Y0 s.pods.length f0) (.slice Y1 s.mnts.length f1) (.slice Y2 s.devs.length f2) (.slice Y3 s.lks.length f3) s.gd s.pr (.slice Ab st.length cb)) ?_ ?_ H49 ?_ ?_ ?_ ?_)
           · rfl
           · rfl
           · exact HI.out
           · rfl
           · simp [Value.oneCell'])
        | (go_at_call 95
           refine (l15Copy_any _ d s st _ ((HAG.out.below T2.A.K (Nat.le_refl _)).more T2.A.K.size) (by omega)).mono ?_
           rintro e w9 ⟨v9, rfl, Oa, hb9⟩
           replace Oa := Oa.base T2.A.K.size
           have T9 := T2.step hb9
           have Ha9 := (hb9.block _ T2.A.z).trans Ha
           have H49 := (hb9.block _ T2.O.z).trans H4
           obtain ⟨p0_, p1_, p2_, p3_, s0_, s1_, s2_, s3_, b_, rfl, Lp, Os, Ob, AP⟩ := Oa.it
           obtain ⟨⟨Y0, f0, rfl⟩, ⟨Y1, f1, rfl⟩, ⟨Y2, f2, rfl⟩, ⟨Y3, f3, rfl⟩⟩ := Os.shapes
           obtain ⟨Q0, e0, rfl, -, -⟩ := Lp.o0.formR
           obtain ⟨Q1, e1, rfl, -, -⟩ := Lp.o1.formR
           obtain ⟨Q2, e2, rfl, -, -⟩ := Lp.o2.formR
           obtain ⟨Q3, e3, rfl, -, -⟩ := Lp.o3.formR
           obtain ⟨Ab, cb, -, rfl, -⟩ := Ob.open_
           clear Oa)
        | ((with_reducible refine load_agent (x := 2) (g := w.heap.size) (cs := agC p0 p1 p2 p3 d.l d.p d.t s.ph s.co s.ck s.bo s.ba s.lb s0 s1 s2 s3 s.gd s.pr b) ?_ Ha ?_ ?_)
           · rfl
           · exact HI.out))
      have KS : Keeps (· = w.heap.size + 1 + 1) w9 (w9.setRow (w.heap.size + 1 + 1) (agC (.slice Q0 d.n0 e0) (.slice Q1 d.n1 e1) (.slice Q2 d.n2 e2) (.slice Q3 d.n3 e3) d.l d.p d.t s.ph s.co s.ck s.bo s.ba s.lb (.slice Y0 s.pods.length f0) (.slice Y1 s.mnts.length f1) (.slice Y2 s.devs.length f2) (.slice Y3 s.lks.length f3) s.gd s.pr (.slice Ab st.length cb))) := keeps_setRow ..
      rw [HANS.out]
      exact bodyPost_ret (v := .tuple #[.agg (agC (.slice Q0 d.n0 e0) (.slice Q1 d.n1 e1) (.slice Q2 d.n2 e2) (.slice Q3 d.n3 e3) d.l d.p d.t s.ph s.co s.ck s.bo s.ba s.lb (.slice Y0 s.pods.length f0) (.slice Y1 s.mnts.length f1) (.slice Y2 s.devs.length f2) (.slice Y3 s.lks.length f3) s.gd s.pr (.slice Ab st.length cb)), .int .i64 8]) (results_two_row Tryz.results53 _ _ _ _ _ _ _ _ rfl rfl (setRow_heap w9 _ _ _ _ _ H49) Tryz.underlying49 rfl HI.out) rfl ⟨_, rfl, ⟨_, _, _, _, _, _, _, _, _, rfl, Lp.keeps KS H49 (by decide), Os.keepsT KS H49 (by decide), Ob.keepsT KS H49 (by decide), AP⟩, below_setRow T9.O.K (by omega) _⟩
    | some xk =>
      obtain ⟨xb, n⟩ := xk
      obtain ⟨x, bb, hall⟩ : ∃ x bb, allS d s L = (x, bb) := by
        generalize allS d s L = q
        exact ⟨q.1, q.2, rfl⟩
      have HANS : Hid (ans = ((x, xb), 0)) := Lib.hid (by rw [← HA0.out]; unfold obeyD; rw [HLC.out]; dsimp only; rw [if_pos rfl, hwd, hall])
      have HW := Lib.hid hwd
      have HALL := Lib.hid hall
      clear hwd hall
      go_upto_region 7 with (first
        | (go_at_call 96
           have hwr := l15Write_any _ _ d s st L _ ((HAG.out.below T1.A.K (Nat.le_refl _)).more T1.A.K.size) RT.out HSM.out hst
           rw [HW.out] at hwr
           refine hwr.mono ?_
           clear hwr
           rintro e w2 ⟨hb2, v2, rfl, O2⟩)
        | ((with_reducible refine load_agent (x := 2) (g := w.heap.size) (cs := agC p0 p1 p2 p3 d.l d.p d.t s.ph s.co s.ck s.bo s.ba s.lb s0 s1 s2 s3 s.gd s.pr b) ?_ Ha ?_ ?_)
           · rfl
           · exact HI.out))
      have T2 := T1.step hb2
      replace Ha := (hb2.block _ T1.A.z).trans Ha
      replace H4 := (hb2.block _ T1.O.z).trans H4
      replace O2 := O2.base T1.A.K.size
      obtain ⟨Bb, ce, -, rfl, -⟩ := O2.open_
      go_upto_region 8 with (first
        | (have hq := H49
           clear hq
           (with_reducible refine store_agent (x := 11) (y := 40) (g := w9.heap.size) (cs := agC (.slice Q0 d.n0 e0) (.slice Q1 d.n1 e1) (.slice Q2 d.n2 e2) (.slice Q3 d.n3 e3) d.l d.p d.t s.ph s.co s.ck s.bo s.ba s.lb (.slice Y0 s.pods.length f0) (.slice Y1 s.mnts.length f1) (.slice Y2 s.devs.length f2) (.slice Y3 s.lks.length f3) s.gd s.pr (.slice Ab st.length cb)) ?_ ?_ (heap_alloc_new w9 _) ?_ ?_ ?_ ?_)
           · rfl
           · rfl
           · exact HI.out
           · rfl
           · simp [Value.oneCell'])
        | (go_at_call 95
           refine (l15Copy_any _ d s st _ ((HAG.out.below T2.A.K (Nat.le_refl _)).more T2.A.K.size) (by omega)).mono ?_
           rintro e w9 ⟨v9, rfl, Oa, hb9⟩
           replace Oa := Oa.base T2.A.K.size
           have T9 := T2.step hb9
           have Ha9 := (hb9.block _ T2.A.z).trans Ha
           have H49 := (hb9.block _ T2.O.z).trans H4
           obtain ⟨p0_, p1_, p2_, p3_, s0_, s1_, s2_, s3_, b_, rfl, Lp, Os, Ob, AP⟩ := Oa.it
           obtain ⟨⟨Y0, f0, rfl⟩, ⟨Y1, f1, rfl⟩, ⟨Y2, f2, rfl⟩, ⟨Y3, f3, rfl⟩⟩ := Os.shapes
           obtain ⟨Q0, e0, rfl, -, -⟩ := Lp.o0.formR
           obtain ⟨Q1, e1, rfl, -, -⟩ := Lp.o1.formR
           obtain ⟨Q2, e2, rfl, -, -⟩ := Lp.o2.formR
           obtain ⟨Q3, e3, rfl, -, -⟩ := Lp.o3.formR
           obtain ⟨Ab, cb, -, rfl, -⟩ := Ob.open_
           clear Oa)
        | ((with_reducible refine load_agent (x := 2) (g := w.heap.size) (cs := agC p0 p1 p2 p3 d.l d.p d.t s.ph s.co s.ck s.bo s.ba s.lb s0 s1 s2 s3 s.gd s.pr b) ?_ Ha ?_ ?_)
           · rfl
           · exact HI.out))
      have hb3 : Below w9.heap.size w9 ((w9.alloc (.cells (agC (.slice none 0 0) (.slice none 0 0) (.slice none 0 0) (.slice none 0 0) 0 0 0 0 false 0 0 0 0 (.slice none 0 0) (.slice none 0 0) (.slice none 0 0) (.slice none 0 0) 0 0 (.slice none 0 0)) 49)).setRow w9.heap.size (agC (.slice Q0 d.n0 e0) (.slice Q1 d.n1 e1) (.slice Q2 d.n2 e2) (.slice Q3 d.n3 e3) d.l d.p d.t s.ph s.co s.ck s.bo s.ba s.lb (.slice Y0 s.pods.length f0) (.slice Y1 s.mnts.length f1) (.slice Y2 s.devs.length f2) (.slice Y3 s.lks.length f3) s.gd s.pr (.slice Ab st.length cb))) := below_setRow ((Below.refl _ _).alloc (Nat.le_refl _) _) (Nat.le_refl _) _
      have H11 : ((w9.alloc (.cells (agC (.slice none 0 0) (.slice none 0 0) (.slice none 0 0) (.slice none 0 0) 0 0 0 0 false 0 0 0 0 (.slice none 0 0) (.slice none 0 0) (.slice none 0 0) (.slice none 0 0) 0 0 (.slice none 0 0)) 49)).setRow w9.heap.size (agC (.slice Q0 d.n0 e0) (.slice Q1 d.n1 e1) (.slice Q2 d.n2 e2) (.slice Q3 d.n3 e3) d.l d.p d.t s.ph s.co s.ck s.bo s.ba s.lb (.slice Y0 s.pods.length f0) (.slice Y1 s.mnts.length f1) (.slice Y2 s.devs.length f2) (.slice Y3 s.lks.length f3) s.gd s.pr (.slice Ab st.length cb))).heap[w9.heap.size]? = some (.cells (agC (.slice Q0 d.n0 e0) (.slice Q1 d.n1 e1) (.slice Q2 d.n2 e2) (.slice Q3 d.n3 e3) d.l d.p d.t s.ph s.co s.ck s.bo s.ba s.lb (.slice Y0 s.pods.length f0) (.slice Y1 s.mnts.length f1) (.slice Y2 s.devs.length f2) (.slice Y3 s.lks.length f3) s.gd s.pr (.slice Ab st.length cb)) 49) := setRow_heap _ _ _ _ _ _ (heap_alloc_new w9 _)
      have hg11 := T9.O.z
      have hz11 : w9.heap.size < ((w9.alloc (.cells (agC (.slice none 0 0) (.slice none 0 0) (.slice none 0 0) (.slice none 0 0) 0 0 0 0 false 0 0 0 0 (.slice none 0 0) (.slice none 0 0) (.slice none 0 0) (.slice none 0 0) 0 0 (.slice none 0 0)) 49)).setRow w9.heap.size (agC (.slice Q0 d.n0 e0) (.slice Q1 d.n1 e1) (.slice Q2 d.n2 e2) (.slice Q3 d.n3 e3) d.l d.p d.t s.ph s.co s.ck s.bo s.ba s.lb (.slice Y0 s.pods.length f0) (.slice Y1 s.mnts.length f1) (.slice Y2 s.devs.length f2) (.slice Y3 s.lks.length f3) s.gd s.pr (.slice Ab st.length cb))).heap.size := (Array.getElem?_eq_some_iff.1 H11).1
      have T3 := T9.step hb3
      have Ha3 := (hb3.block _ T9.A.z).trans Ha9
      have H43 := (hb3.block _ T9.O.z).trans H49
      replace Lp := Lp.below hb3
      replace O2 := (O2.below hb9).below hb3
      have K13 := (hb2.trans (hb9.mono hb2.size)).trans (hb3.mono (hb2.trans (hb9.mono hb2.size)).size)
      have hle1 := (hb2.trans (hb9.mono hb2.size)).size
      have X11 : Own w _ w9.heap.size (agC (.slice Q0 d.n0 e0) (.slice Q1 d.n1 e1) (.slice Q2 d.n2 e2) (.slice Q3 d.n3 e3) d.l d.p d.t s.ph s.co s.ck s.bo s.ba s.lb (.slice Y0 s.pods.length f0) (.slice Y1 s.mnts.length f1) (.slice Y2 s.devs.length f2) (.slice Y3 s.lks.length f3) s.gd s.pr (.slice Ab st.length cb)) := ⟨T3.A.K, hz11, fun o => cell_of_row _ _ _ _ _ _ H11, fun o => frozen_of_row _ _ _ _ _ H11⟩
      clear hb2 hb9 hb3 T2 T9 Ha9 H49 Ha H4 Os Ob
      generalize (w9.alloc (.cells (agC (.slice none 0 0) (.slice none 0 0) (.slice none 0 0) (.slice none 0 0) 0 0 0 0 false 0 0 0 0 (.slice none 0 0) (.slice none 0 0) (.slice none 0 0) (.slice none 0 0) 0 0 (.slice none 0 0)) 49)).setRow w9.heap.size (agC (.slice Q0 d.n0 e0) (.slice Q1 d.n1 e1) (.slice Q2 d.n2 e2) (.slice Q3 d.n3 e3) d.l d.p d.t s.ph s.co s.ck s.bo s.ba s.lb (.slice Y0 s.pods.length f0) (.slice Y1 s.mnts.length f1) (.slice Y2 s.devs.length f2) (.slice Y3 s.lks.length f3) s.gd s.pr (.slice Ab st.length cb)) = w3 at H11 hz11 T3 Ha3 H43 Lp O2 K13 X11 ⊢
      generalize w9.heap.size = g11 at H11 hz11 hg11 hle1 X11 ⊢
      have hC11 := X11.C
      have hF11 := X11.F
      go_upto_region 9 with fail
      have kk : Keeps (· = g11) w3 (w3.setCell ⟨g11, 19, none⟩ (.slice Bb xb.length ce)) := (Keeps.refl (· = g11) w3).set (p := ⟨g11, 19, none⟩) rfl _
      have H114 := heap_setCell_same w3 g11 19 _ _ (.slice Bb xb.length ce) H11
      simp only [List.setIfInBounds_toArray, List.set_cons_zero, List.set_cons_succ] at H114
      have TA4 := T3.A.farKeeps kk (by omega) (by omega)
      have TO4 := T3.O.farKeeps kk (by omega) (by omega)
      have Ha4 := (kk.block _ T3.A.z (by show ¬ w.heap.size = g11; omega)).trans Ha3
      have H44 := (kk.block _ T3.O.z (by show ¬ w.heap.size + 1 + 1 = g11; omega)).trans H43
      have Lp4 := Lp.keeps kk H11 (by decide)
      have O24 := O2.keepsT kk H11 (by decide)
      have K14 : Below w1.heap.size w1 (w3.setCell ⟨g11, 19, none⟩ (.slice Bb xb.length ce)) := K13.setCell hle1 _
      have hz14 : g11 < (w3.setCell ⟨g11, 19, none⟩ (.slice Bb xb.length ce)).heap.size := by simpa [World.setCell] using hz11
      clear T3 Ha3 H43 Lp O2 K13 X11 hC11 hF11 kk H11 hz11
      generalize w3.setCell ⟨g11, 19, none⟩ (.slice Bb xb.length ce) = w4 at H114 TA4 TO4 Ha4 H44 Lp4 O24 K14 hz14 ⊢
      have hC4 := TA4.C
      go_wp2_with fail
      have hl6 := l6All_any _ _ _ d s L w4 ((HP.out.below TA4.K (Nat.le_refl _)).more TA4.K.size).is ((HS.out.below TA4.K (Nat.le_refl _)).more TA4.K.size) ((RT.out.below K14 (Nat.le_refl _)).more K14.size) HOK.out
      rw [HALL.out] at hl6
      refine hl6.mono ?_
      clear hl6
      rintro e w5 ⟨v5, h5, O5, hb5⟩
      dsimp only at h5 O5
      subst h5
      have O5b := O5.base TA4.K.size
      obtain ⟨u0, u1, u2, u3, rfl, z0, z1, z2, z3⟩ := O5.it
      have AP5 := apart_of Lp4.o1 z3
      clear O5
      have O5 := O5b
      clear O5b
      obtain ⟨Z0, h0, rfl, -⟩ := open_rowR z0
      obtain ⟨Z1, h1, rfl, -⟩ := open_rowR z1
      obtain ⟨Z2, h2, rfl, -⟩ := open_rowR z2
      obtain ⟨Z3, h3, rfl, -⟩ := open_rowR z3
      clear z0 z1 z2 z3 hC4
      have H115 := (hb5.block _ hz14).trans H114
      have hC11 : ∀ o, w5.cell? ⟨g11, o, none⟩ = (agC (.slice Q0 d.n0 e0) (.slice Q1 d.n1 e1) (.slice Q2 d.n2 e2) (.slice Q3 d.n3 e3) d.l d.p d.t s.ph s.co s.ck s.bo s.ba s.lb (.slice Y0 s.pods.length f0) (.slice Y1 s.mnts.length f1) (.slice Y2 s.devs.length f2) (.slice Y3 s.lks.length f3) s.gd s.pr (.slice Bb xb.length ce))[o]? := fun o => cell_of_row _ _ _ _ _ _ H115
      have hF11 : ∀ o, w5.frozen? ⟨g11, o, none⟩ = false := fun o => frozen_of_row _ _ _ _ _ H115
      have hz15 : g11 < w5.heap.size := Nat.lt_of_lt_of_le hz14 hb5.size
      go_upto_region 11 with fail
      have kk := keeps_put7 w5 g11 (.int .i64 x.ph) (.bool x.co) (.int .i64 x.ck) (.int .i64 x.bo) (.int .i64 x.ba) (.int .i64 x.lb) (.slice Z0 x.pods.length h0) (.slice Z1 x.mnts.length h1) (.slice Z2 x.devs.length h2) (.slice Z3 x.lks.length h3) (.int .i64 x.gd) (.int .i64 x.pr)
      have H117_ := heap_put7 (y0 := .int .i64 x.ph) (y1 := .bool x.co) (y2 := .int .i64 x.ck) (y3 := .int .i64 x.bo) (y4 := .int .i64 x.ba) (y5 := .int .i64 x.lb) (y6 := .slice Z0 x.pods.length h0) (y7 := .slice Z1 x.mnts.length h1) (y8 := .slice Z2 x.devs.length h2) (y9 := .slice Z3 x.lks.length h3) (y10 := .int .i64 x.gd) (y11 := .int .i64 x.pr) H115
      have hz17 := (Array.getElem?_eq_some_iff.1 H117_).1
      have TO6_ := (TO4.step hb5).farKeeps kk (by omega) (by omega)
      have H46_ := (kk.block _ (TO4.step hb5).z (by show ¬ w.heap.size + 1 + 1 = g11; omega)).trans ((hb5.block _ TO4.z).trans H44)
      have Lp6_ := (Lp4.below hb5).keeps kk H115 (by decide)
      have O26_ := (O24.below hb5).keepsT kk H115 (by decide)
      have O56_ := O5.keepsT kk H115 (by decide)
      have hb6 : Below (put7 w5 g11 (.int .i64 x.ph) (.bool x.co) (.int .i64 x.ck) (.int .i64 x.bo) (.int .i64 x.ba) (.int .i64 x.lb) (.slice Z0 x.pods.length h0) (.slice Z1 x.mnts.length h1) (.slice Z2 x.devs.length h2) (.slice Z3 x.lks.length h3) (.int .i64 x.gd) (.int .i64 x.pr)).heap.size (put7 w5 g11 (.int .i64 x.ph) (.bool x.co) (.int .i64 x.ck) (.int .i64 x.bo) (.int .i64 x.ba) (.int .i64 x.lb) (.slice Z0 x.pods.length h0) (.slice Z1 x.mnts.length h1) (.slice Z2 x.devs.length h2) (.slice Z3 x.lks.length h3) (.int .i64 x.gd) (.int .i64 x.pr)) ((put7 w5 g11 (.int .i64 x.ph) (.bool x.co) (.int .i64 x.ck) (.int .i64 x.bo) (.int .i64 x.ba) (.int .i64 x.lb) (.slice Z0 x.pods.length h0) (.slice Z1 x.mnts.length h1) (.slice Z2 x.devs.length h2) (.slice Z3 x.lks.length h3) (.int .i64 x.gd) (.int .i64 x.pr)).alloc (.cells (stC Z0 Z1 Z2 Z3 x.pods.length h0 x.mnts.length h1 x.devs.length h2 x.lks.length h3 x.ph x.co x.ck x.bo x.ba x.lb x.gd x.pr) 38)) := (Below.refl _ _).alloc (Nat.le_refl _) _
      have H117 := (hb6.block _ hz17).trans H117_
      have TO6 := TO6_.step hb6
      have H46 := (hb6.block _ TO6_.z).trans H46_
      have Lp6 := Lp6_.below hb6
      have O26 := O26_.below hb6
      have O56 := O56_.below hb6
      clear hb6 TA4 TO4 Ha4 H44 Lp4 O24 K14 hz14 H114 H115 hC11 hF11 hz15 O5 hb5 kk H117_ hz17 TO6_ H46_ Lp6_ O26_ O56_
      obtain ⟨w6, hw6⟩ : ∃ W, (put7 w5 g11 (.int .i64 x.ph) (.bool x.co) (.int .i64 x.ck) (.int .i64 x.bo) (.int .i64 x.ba) (.int .i64 x.lb) (.slice Z0 x.pods.length h0) (.slice Z1 x.mnts.length h1) (.slice Z2 x.devs.length h2) (.slice Z3 x.lks.length h3) (.int .i64 x.gd) (.int .i64 x.pr)).alloc (.cells (stC Z0 Z1 Z2 Z3 x.pods.length h0 x.mnts.length h1 x.devs.length h2 x.lks.length h3 x.ph x.co x.ck x.bo x.ba x.lb x.gd x.pr) 38) = W := ⟨_, rfl⟩
      rw [hw6] at H117 TO6 H46 Lp6 O26 O56
      dsimp only [put7] at hw6
      rw [hw6]
      clear hw6
      go_wp2_with (first
        | ((with_reducible refine store_agent (x := 4) (y := 54) (g := w.heap.size + 1 + 1) (cs := agC (.slice Q0 d.n0 e0) (.slice Q1 d.n1 e1) (.slice Q2 d.n2 e2) (.slice Q3 d.n3 e3) d.l d.p d.t x.ph x.co x.ck x.bo x.ba x.lb (.slice Z0 x.pods.length h0) (.slice Z1 x.mnts.length h1) (.slice Z2 x.devs.length h2) (.slice Z3 x.lks.length h3) x.gd x.pr (.slice Bb xb.length ce)) ?_ ?_ H46 ?_ ?_ ?_ ?_)
           · rfl
           · rfl
           · exact HI.out
           · rfl
           · simp [Value.oneCell'])
        | ((with_reducible refine load_agent (x := 11) (g := g11) (cs := agC (.slice Q0 d.n0 e0) (.slice Q1 d.n1 e1) (.slice Q2 d.n2 e2) (.slice Q3 d.n3 e3) d.l d.p d.t x.ph x.co x.ck x.bo x.ba x.lb (.slice Z0 x.pods.length h0) (.slice Z1 x.mnts.length h1) (.slice Z2 x.devs.length h2) (.slice Z3 x.lks.length h3) x.gd x.pr (.slice Bb xb.length ce)) ?_ H117 ?_ ?_)
           · rfl
           · exact HI.out))
      have KS : Keeps (· = w.heap.size + 1 + 1) w6 (w6.setRow (w.heap.size + 1 + 1) (agC (.slice Q0 d.n0 e0) (.slice Q1 d.n1 e1) (.slice Q2 d.n2 e2) (.slice Q3 d.n3 e3) d.l d.p d.t x.ph x.co x.ck x.bo x.ba x.lb (.slice Z0 x.pods.length h0) (.slice Z1 x.mnts.length h1) (.slice Z2 x.devs.length h2) (.slice Z3 x.lks.length h3) x.gd x.pr (.slice Bb xb.length ce))) := keeps_setRow ..
      rw [HANS.out]
      exact bodyPost_ret (v := .tuple #[.agg (agC (.slice Q0 d.n0 e0) (.slice Q1 d.n1 e1) (.slice Q2 d.n2 e2) (.slice Q3 d.n3 e3) d.l d.p d.t x.ph x.co x.ck x.bo x.ba x.lb (.slice Z0 x.pods.length h0) (.slice Z1 x.mnts.length h1) (.slice Z2 x.devs.length h2) (.slice Z3 x.lks.length h3) x.gd x.pr (.slice Bb xb.length ce)), .int .i64 0]) (results_two_row Tryz.results53 _ _ _ _ _ _ _ _ rfl rfl (setRow_heap w6 _ _ _ _ _ H46) Tryz.underlying49 rfl HI.out) rfl ⟨_, rfl, ⟨_, _, _, _, _, _, _, _, _, rfl, Lp6.keeps KS H46 (by decide), O56.keepsT KS H46 (by decide), O26.keepsT KS H46 (by decide), AP5⟩, below_setRow TO6.K (by omega) _⟩
  · have hcb : (c != 0) = true := by simp [hc]
    have HANS : Hid (ans = ((s, st), c)) := Lib.hid (by rw [← HA0.out]; unfold obeyD; rw [HLC.out]; exact if_neg hc)
    clear hc
    go_upto_region 3 with fail
    go_wp2_with (first
      | (have hq := H49
         clear hq
         (with_reducible refine store_agent (x := 4) (y := 26) (g := w.heap.size + 1 + 1) (cs := agC (.slice Q0 d.n0 e0) (.slice Q1 d.n1 e1) (.slice Q2 d.n2 e2) (.slice Q3 d.n3 e3) d.l d.p d.t s.ph s.co s.ck s.bo s.ba s.lb (.slice Y0 s.pods.length f0) (.slice Y1 s.mnts.length f1) (.slice Y2 s.devs.length f2) (.slice Y3 s.lks.length f3) s.gd s.pr (.slice Ab st.length cb)) ?_ ?_ H49 ?_ ?_ ?_ ?_)
         · rfl
         · rfl
         · exact HI.out
         · rfl
         · simp [Value.oneCell'])
      | (go_at_call 95
         refine (l15Copy_any _ d s st _ ((HAG.out.below T1.A.K (Nat.le_refl _)).more T1.A.K.size) (by omega)).mono ?_
         rintro e w9 ⟨v9, rfl, Oa, hb9⟩
         replace Oa := Oa.base T1.A.K.size
         have T9 := T1.step hb9
         have Ha9 := (hb9.block _ T1.A.z).trans Ha
         have H49 := (hb9.block _ T1.O.z).trans H4
         obtain ⟨p0_, p1_, p2_, p3_, s0_, s1_, s2_, s3_, b_, rfl, Lp, Os, Ob, AP⟩ := Oa.it
         obtain ⟨⟨Y0, f0, rfl⟩, ⟨Y1, f1, rfl⟩, ⟨Y2, f2, rfl⟩, ⟨Y3, f3, rfl⟩⟩ := Os.shapes
         obtain ⟨Q0, e0, rfl, -, -⟩ := Lp.o0.formR
         obtain ⟨Q1, e1, rfl, -, -⟩ := Lp.o1.formR
         obtain ⟨Q2, e2, rfl, -, -⟩ := Lp.o2.formR
         obtain ⟨Q3, e3, rfl, -, -⟩ := Lp.o3.formR
         obtain ⟨Ab, cb, -, rfl, -⟩ := Ob.open_
         clear Oa)
      | ((with_reducible refine load_agent (x := 2) (g := w.heap.size) (cs := agC p0 p1 p2 p3 d.l d.p d.t s.ph s.co s.ck s.bo s.ba s.lb s0 s1 s2 s3 s.gd s.pr b) ?_ Ha ?_ ?_)
         · rfl
         · exact HI.out))
    have KS : Keeps (· = w.heap.size + 1 + 1) w9 (w9.setRow (w.heap.size + 1 + 1) (agC (.slice Q0 d.n0 e0) (.slice Q1 d.n1 e1) (.slice Q2 d.n2 e2) (.slice Q3 d.n3 e3) d.l d.p d.t s.ph s.co s.ck s.bo s.ba s.lb (.slice Y0 s.pods.length f0) (.slice Y1 s.mnts.length f1) (.slice Y2 s.devs.length f2) (.slice Y3 s.lks.length f3) s.gd s.pr (.slice Ab st.length cb))) := keeps_setRow ..
    rw [HANS.out]
    exact bodyPost_ret (v := .tuple #[.agg (agC (.slice Q0 d.n0 e0) (.slice Q1 d.n1 e1) (.slice Q2 d.n2 e2) (.slice Q3 d.n3 e3) d.l d.p d.t s.ph s.co s.ck s.bo s.ba s.lb (.slice Y0 s.pods.length f0) (.slice Y1 s.mnts.length f1) (.slice Y2 s.devs.length f2) (.slice Y3 s.lks.length f3) s.gd s.pr (.slice Ab st.length cb)), .int .i64 c]) (results_two_row Tryz.results53 _ _ _ _ _ _ _ _ rfl rfl (setRow_heap w9 _ _ _ _ _ H49) Tryz.underlying49 rfl HI.out) rfl ⟨_, rfl, ⟨_, _, _, _, _, _, _, _, _, rfl, Lp.keeps KS H49 (by decide), Os.keepsT KS H49 (by decide), Ob.keepsT KS H49 (by decide), AP⟩, below_setRow T9.O.K (by omega) _⟩

end Go.Proofs.YtdkmhaghnfhajaaGreat
/- Zb -/
set_option linter.unusedVariables false
namespace Go.Proofs.YtdkmhaghnfhajaaGreat
open Go.RowKit

/-- Behind a draw of an order, whichever. -/
def DrawnOrd (g : Nat) (w : World) (e : Ending) (w' : World) : Prop :=
  ∃ k a b : Int, e = .returned (.agg (ordC k a b)) ∧ Cur 112 .i64 w' g ∧ Keeps (· = g) w w'
theorem Blk.three {W : World} {g0 : Nat} (X : Blk W g0 #[.int .i64 0, .int .i64 0, .int .i64 0]) (k a b : Int) : Blk (((W.setCell ⟨g0, 0, none⟩ (.int .i64 k)).setCell ⟨g0, 1, none⟩ (.int .i64 a)).setCell ⟨g0, 2, none⟩ (.int .i64 b)) g0 (ordC k a b) :=
  ((X.set (i := 0) (by decide) (.int .i64 k)).set (i := 1) (by simp) (.int .i64 a)).set (i := 2) (by simp) (.int .i64 b)
theorem Cur.three {W : World} {g g0 : Nat} (h : Cur 112 .i64 W g) (hl : g < g0) (x y z : Value) : Cur 112 .i64 (((W.setCell ⟨g0, 0, none⟩ x).setCell ⟨g0, 1, none⟩ y).setCell ⟨g0, 2, none⟩ z) g :=
  ((h.far (p := ⟨g0, 0, none⟩) hl x).far (p := ⟨g0, 1, none⟩) hl y).far (p := ⟨g0, 2, none⟩) hl z
theorem Keeps.three {S : Nat → Prop} {w W : World} (h : Keeps S w W) (x y z : Value) : Keeps S w (((W.setCell ⟨w.heap.size, 0, none⟩ x).setCell ⟨w.heap.size, 1, none⟩ y).setCell ⟨w.heap.size, 2, none⟩ z) :=
  ((h.far (p := ⟨w.heap.size, 0, none⟩) (Nat.le_refl _) x).far (p := ⟨w.heap.size, 1, none⟩) (Nat.le_refl _) y).far (p := ⟨w.heap.size, 2, none⟩) (Nat.le_refl _) z

set_option maxRecDepth 100000 in
set_option maxHeartbeats 16000000 in
theorem l13Draw_any (g : Nat) (w : World) (h : Cur 112 .i64 w g) : Calls Tryz.prog 104 #[.pointer (some ⟨g, 0, none⟩)] w (DrawnOrd g w) := by
  have hl := h.lt
  have hne : ¬ w.heap.size = g := by omega
  have X0 := Blk.new w #[.int .i64 0, .int .i64 0, .int .i64 0] 55
  have hc0 : Cur 112 .i64 (w.alloc (.cells #[.int .i64 0, .int .i64 0, .int .i64 0] 55)) g := h.alloc _
  have hK0 : Keeps (· = g) w (w.alloc (.cells #[.int .i64 0, .int .i64 0, .int .i64 0] 55)) := (Keeps.refl _ _).alloc _
  clear h
  go_enter Tryz.func104, Tryz.ntmps104
  go_wp2_with fail
  refine (l1Below_any g 30 _ hc0 (by omega) (by omega)).mono ?_
  rintro e w1 ⟨x, rfl, x0, x1, hc1, hk1⟩
  have K1 := hK0.trans hk1
  have X1 := X0.keeps hk1 hne
  obtain ⟨x, rfl⟩ := Int.eq_ofNat_of_zero_le x0
  have hx : x < 30 := by omega
  clear hc0 hK0 hk1 X0 x0 x1
  rcases (by omega : x = 0 ∨ x = 1 ∨ x = 2 ∨ x = 3 ∨ x = 4 ∨ x = 5 ∨ x = 6 ∨ x = 7 ∨ x = 8 ∨ x = 9 ∨ x = 10 ∨ x = 11 ∨ x = 12 ∨ x = 13 ∨ x = 14 ∨ x = 15 ∨ x = 16 ∨ x = 17 ∨ x = 18 ∨ 19 ≤ x) with rfl | rfl | rfl | rfl | rfl | rfl | rfl | rfl | rfl | rfl | rfl | rfl | rfl | rfl | rfl | rfl | rfl | rfl | rfl | hge
  · clear hx
    have q0 := X1.C
    have q1 := X1.F
    go_wp2_with fail
    have r := (X1.three 1 0 0).C
    refine bodyPost_ret (v := .agg (ordC 1 0 0)) ?_ rfl ⟨_, _, _, rfl, hc1.three hl _ _ _, K1.three _ _ _⟩
    simp [results, Tryz.results104, go_sem, r]
  · clear hx
    have q0 := X1.C
    have q1 := X1.F
    go_wp2_with fail
    have r := (X1.three 1 0 0).C
    refine bodyPost_ret (v := .agg (ordC 1 0 0)) ?_ rfl ⟨_, _, _, rfl, hc1.three hl _ _ _, K1.three _ _ _⟩
    simp [results, Tryz.results104, go_sem, r]
  · clear hx
    have q0 := X1.C
    have q1 := X1.F
    go_wp2_with fail
    have r := (X1.three 1 0 0).C
    refine bodyPost_ret (v := .agg (ordC 1 0 0)) ?_ rfl ⟨_, _, _, rfl, hc1.three hl _ _ _, K1.three _ _ _⟩
    simp [results, Tryz.results104, go_sem, r]
  · clear hx
    have q0 := X1.C
    have q1 := X1.F
    go_wp2_with fail
    have r := (X1.three 2 0 0).C
    refine bodyPost_ret (v := .agg (ordC 2 0 0)) ?_ rfl ⟨_, _, _, rfl, hc1.three hl _ _ _, K1.three _ _ _⟩
    simp [results, Tryz.results104, go_sem, r]
  · clear hx
    have q0 := X1.C
    have q1 := X1.F
    go_wp2_with fail
    have r := (X1.three 2 0 0).C
    refine bodyPost_ret (v := .agg (ordC 2 0 0)) ?_ rfl ⟨_, _, _, rfl, hc1.three hl _ _ _, K1.three _ _ _⟩
    simp [results, Tryz.results104, go_sem, r]
  · clear hx
    go_wp2_with fail
    refine (l1Below_any g 5 _ hc1 (by omega) (by omega)).mono ?_
    rintro e w2 ⟨a, rfl, a0, a1, hc2, hk⟩
    have K2 := K1.trans hk
    have X2 := X1.keeps hk hne
    clear hc1 K1 X1 hk
    have q0 := X2.C
    have q1 := X2.F
    go_wp2_with fail
    have r := (X2.three 3 a 0).C
    refine bodyPost_ret (v := .agg (ordC 3 a 0)) ?_ rfl ⟨_, _, _, rfl, hc2.three hl _ _ _, K2.three _ _ _⟩
    simp [results, Tryz.results104, go_sem, r]
  · clear hx
    go_wp2_with fail
    refine (l1Below_any g 5 _ hc1 (by omega) (by omega)).mono ?_
    rintro e w2 ⟨a, rfl, a0, a1, hc2, hk⟩
    have K2 := K1.trans hk
    have X2 := X1.keeps hk hne
    clear hc1 K1 X1 hk
    have q0 := X2.C
    have q1 := X2.F
    go_wp2_with fail
    have r := (X2.three 3 a 0).C
    refine bodyPost_ret (v := .agg (ordC 3 a 0)) ?_ rfl ⟨_, _, _, rfl, hc2.three hl _ _ _, K2.three _ _ _⟩
    simp [results, Tryz.results104, go_sem, r]
  · clear hx
    have q0 := X1.C
    have q1 := X1.F
    go_wp2_with fail
    have r := (X1.three 4 0 0).C
    refine bodyPost_ret (v := .agg (ordC 4 0 0)) ?_ rfl ⟨_, _, _, rfl, hc1.three hl _ _ _, K1.three _ _ _⟩
    simp [results, Tryz.results104, go_sem, r]
  · clear hx
    have q0 := X1.C
    have q1 := X1.F
    go_wp2_with fail
    have r := (X1.three 4 0 0).C
    refine bodyPost_ret (v := .agg (ordC 4 0 0)) ?_ rfl ⟨_, _, _, rfl, hc1.three hl _ _ _, K1.three _ _ _⟩
    simp [results, Tryz.results104, go_sem, r]
  · clear hx
    have q0 := X1.C
    have q1 := X1.F
    go_wp2_with fail
    have r := (X1.three 4 0 0).C
    refine bodyPost_ret (v := .agg (ordC 4 0 0)) ?_ rfl ⟨_, _, _, rfl, hc1.three hl _ _ _, K1.three _ _ _⟩
    simp [results, Tryz.results104, go_sem, r]
  · clear hx
    have q0 := X1.C
    have q1 := X1.F
    go_wp2_with fail
    have r := (X1.three 5 0 0).C
    refine bodyPost_ret (v := .agg (ordC 5 0 0)) ?_ rfl ⟨_, _, _, rfl, hc1.three hl _ _ _, K1.three _ _ _⟩
    simp [results, Tryz.results104, go_sem, r]
  · clear hx
    go_wp2_with fail
    refine (l1Below_any g 3 _ hc1 (by omega) (by omega)).mono ?_
    rintro e w2 ⟨a, rfl, a0, a1, hc2, hk⟩
    have K2 := K1.trans hk
    have X2 := X1.keeps hk hne
    clear hc1 K1 X1 hk
    have q0 := X2.C
    have q1 := X2.F
    go_wp2_with fail
    have r := (X2.three 6 a 0).C
    refine bodyPost_ret (v := .agg (ordC 6 a 0)) ?_ rfl ⟨_, _, _, rfl, hc2.three hl _ _ _, K2.three _ _ _⟩
    simp [results, Tryz.results104, go_sem, r]
  · clear hx
    go_wp2_with fail
    refine (l1Below_any g 3 _ hc1 (by omega) (by omega)).mono ?_
    rintro e w2 ⟨a, rfl, a0, a1, hc2, hk⟩
    have K2 := K1.trans hk
    have X2 := X1.keeps hk hne
    clear hc1 K1 X1 hk
    have q0 := X2.C
    have q1 := X2.F
    go_wp2_with fail
    have r := (X2.three 7 a 0).C
    refine bodyPost_ret (v := .agg (ordC 7 a 0)) ?_ rfl ⟨_, _, _, rfl, hc2.three hl _ _ _, K2.three _ _ _⟩
    simp [results, Tryz.results104, go_sem, r]
  · clear hx
    go_wp2_with fail
    refine (l1Below_any g 5 _ hc1 (by omega) (by omega)).mono ?_
    rintro e w2 ⟨a, rfl, a0, a1, hc2, hk⟩
    have K2 := K1.trans hk
    have X2 := X1.keeps hk hne
    clear hc1 K1 X1 hk
    have q0 := X2.C
    have q1 := X2.F
    go_wp2_with fail
    have r := (X2.three 8 a 0).C
    refine bodyPost_ret (v := .agg (ordC 8 a 0)) ?_ rfl ⟨_, _, _, rfl, hc2.three hl _ _ _, K2.three _ _ _⟩
    simp [results, Tryz.results104, go_sem, r]
  · clear hx
    go_wp2_with fail
    refine (l1Below_any g 5 _ hc1 (by omega) (by omega)).mono ?_
    rintro e w2 ⟨a, rfl, a0, a1, hc2, hk⟩
    have K2 := K1.trans hk
    have X2 := X1.keeps hk hne
    clear hc1 K1 X1 hk
    have q0 := X2.C
    have q1 := X2.F
    go_wp2_with fail
    have r := (X2.three 9 a 0).C
    refine bodyPost_ret (v := .agg (ordC 9 a 0)) ?_ rfl ⟨_, _, _, rfl, hc2.three hl _ _ _, K2.three _ _ _⟩
    simp [results, Tryz.results104, go_sem, r]
  · clear hx
    go_wp2_with fail
    refine (l1Below_any g 4 _ hc1 (by omega) (by omega)).mono ?_
    rintro e w2 ⟨a, rfl, a0, a1, hc2, hk⟩
    have K2 := K1.trans hk
    have X2 := X1.keeps hk hne
    clear hc1 K1 X1 hk
    go_wp2_with fail
    refine (l1Below_any g 5 _ hc2 (by omega) (by omega)).mono ?_
    rintro e w3 ⟨b, rfl, b0, b1, hc3, hk⟩
    have K3 := K2.trans hk
    have X3 := X2.keeps hk hne
    clear hc2 K2 X2 hk
    have q0 := X3.C
    have q1 := X3.F
    go_wp2_with fail
    have r := (X3.three 10 a (1 + b)).C
    refine bodyPost_ret (v := .agg (ordC 10 a (1 + b))) ?_ rfl ⟨_, _, _, rfl, hc3.three hl _ _ _, K3.three _ _ _⟩
    simp [results, Tryz.results104, go_sem, r]
  · clear hx
    go_wp2_with fail
    refine (l1Below_any g 6 _ hc1 (by omega) (by omega)).mono ?_
    rintro e w2 ⟨a, rfl, a0, a1, hc2, hk⟩
    have K2 := K1.trans hk
    have X2 := X1.keeps hk hne
    clear hc1 K1 X1 hk
    have q0 := X2.C
    have q1 := X2.F
    go_wp2_with fail
    have r := (X2.three 12 (1 + a) 0).C
    refine bodyPost_ret (v := .agg (ordC 12 (1 + a) 0)) ?_ rfl ⟨_, _, _, rfl, hc2.three hl _ _ _, K2.three _ _ _⟩
    simp [results, Tryz.results104, go_sem, r]
  · clear hx
    go_wp2_with fail
    refine (l1Below_any g 4 _ hc1 (by omega) (by omega)).mono ?_
    rintro e w2 ⟨a, rfl, a0, a1, hc2, hk⟩
    have K2 := K1.trans hk
    have X2 := X1.keeps hk hne
    clear hc1 K1 X1 hk
    go_wp2_with fail
    refine (l1Min_any a 1 _).mono ?_
    rintro e w' ⟨rfl, rfl⟩
    generalize hm : (if a < 1 then a else 1) = m
    have q0 := X2.C
    have q1 := X2.F
    go_wp2_with fail
    have r := (X2.three 13 m 0).C
    refine bodyPost_ret (v := .agg (ordC 13 m 0)) ?_ rfl ⟨_, _, _, rfl, hc2.three hl _ _ _, K2.three _ _ _⟩
    simp [results, Tryz.results104, go_sem, r]
  · clear hx
    go_wp2_with fail
    refine (l1Below_any g 4 _ hc1 (by omega) (by omega)).mono ?_
    rintro e w2 ⟨a, rfl, a0, a1, hc2, hk⟩
    have K2 := K1.trans hk
    have X2 := X1.keeps hk hne
    clear hc1 K1 X1 hk
    go_wp2_with fail
    refine (l1Min_any a 1 _).mono ?_
    rintro e w' ⟨rfl, rfl⟩
    generalize hm : (if a < 1 then a else 1) = m
    have q0 := X2.C
    have q1 := X2.F
    go_wp2_with fail
    have r := (X2.three 13 m 0).C
    refine bodyPost_ret (v := .agg (ordC 13 m 0)) ?_ rfl ⟨_, _, _, rfl, hc2.three hl _ _ _, K2.three _ _ _⟩
    simp [results, Tryz.results104, go_sem, r]
  · have e0 : (((x : Nat) : Int) == 0) = false := by simp; omega
    have e1 : (((x : Nat) : Int) == 1) = false := by simp; omega
    have e2 : (((x : Nat) : Int) == 2) = false := by simp; omega
    have e3 : (((x : Nat) : Int) == 3) = false := by simp; omega
    have e4 : (((x : Nat) : Int) == 4) = false := by simp; omega
    have e5 : (((x : Nat) : Int) == 5) = false := by simp; omega
    have e6 : (((x : Nat) : Int) == 6) = false := by simp; omega
    have e7 : (((x : Nat) : Int) == 7) = false := by simp; omega
    have e8 : (((x : Nat) : Int) == 8) = false := by simp; omega
    have e9 : (((x : Nat) : Int) == 9) = false := by simp; omega
    have e10 : (((x : Nat) : Int) == 10) = false := by simp; omega
    have e11 : (((x : Nat) : Int) == 11) = false := by simp; omega
    have e12 : (((x : Nat) : Int) == 12) = false := by simp; omega
    have e13 : (((x : Nat) : Int) == 13) = false := by simp; omega
    have e14 : (((x : Nat) : Int) == 14) = false := by simp; omega
    have e15 : (((x : Nat) : Int) == 15) = false := by simp; omega
    have e16 : (((x : Nat) : Int) == 16) = false := by simp; omega
    have e17 : (((x : Nat) : Int) == 17) = false := by simp; omega
    have e18 : (((x : Nat) : Int) == 18) = false := by simp; omega
    have q0 := X1.C
    have q1 := X1.F
    go_wp2_with fail
    have r := (X1.three 11 0 0).C
    refine bodyPost_ret (v := .agg (ordC 11 0 0)) ?_ rfl ⟨_, _, _, rfl, hc1.three hl _ _ _, K1.three _ _ _⟩
    simp [results, Tryz.results104, go_sem, r]
end Go.Proofs.YtdkmhaghnfhajaaGreat
