/-
  The model's draw of a plan and a state.
-/
import Derived.Test.YtdkmhaghnfhajaaGreatMZxZl
/- Zm -/
set_option linter.unusedVariables false
namespace Go.Proofs.YtdkmhaghnfhajaaGreat
open Go.RowKit

/-- The model's draw of whatever plan does as Pv tells. -/
def DrawsAny : Prop := ∀ (g : Nat) (w : World), Cur 112 .i64 w g → Calls Tryz.prog 80 #[.pointer (some ⟨g, 0, none⟩)] w (DrawnPlan 112 .i64 (fun d => d.n0 ≤ 13 ∧ d.n1 ≤ 4 ∧ d.n2 ≤ 5 ∧ d.n3 ≤ 3) g w)
/-- Behind a draw of a plan and a state. -/
def DrawnPS (g : Nat) (w : World) (e : Ending) (w' : World) : Prop :=
  ∃ v0 v1 v2 v3 d vs s, e = .returned (.tuple #[.agg #[v0, v1, v2, v3, .int .i64 d.l, .int .i64 d.p, .int .i64 d.t], vs]) ∧ Lists w' w.heap.size v0 v1 v2 v3 d ∧ OwnSt w' w.heap.size vs s ∧ PlSmall d ∧ StSmall s ∧ Cur 112 .i64 w' g ∧ Keeps (· = g) w w'

theorem store_plan {ops : Array Oper} {rest : List Oper} {dst : Option Tmp} {ty : TypeId} {pos : String} {after : Array Edge} {a : Act} {w : World} {Q : Exit → Act → World → Prop} {g x y : Nat} {cs old : Array Value}
    (hx : a.eval (.tmp x) = .pointer (some ⟨g, 0, none⟩)) (hy : a.eval (.tmp y) = .agg cs) (hg : w.heap[g]? = some (.cells old 29)) (hi : (Tryz.prog.info? 29).map (·.size) = some cs.size) (hold : old.size = cs.size) (h1 : cs.all (·.oneCell') = true)
    (h : wpList Tryz.prog ops Q rest (a.put dst undef) (w.setRow g cs)) : wpList Tryz.prog ops Q (Oper.mk dst (.store 29 (.tmp x) (.tmp y)) ty pos after none :: rest) a w :=
  wpList_store_row rfl 29 (.tmp x) (.tmp y) rfl g cs hx hy 29 old hg hi hold h1 h
theorem results_two_cells {P : Program} {fn : Func} {p q : Tmp} {ty ty' : TypeId} (h : fn.results = #[.cell p ty, .cell q ty']) (tmps : Array Value) (w : World) (g g' : Nat) (t t' : TypeId) (cs cs' : Array Value) (fr fr' : Nat × Nat) (d d' : TypeDesc)
    (hp : tmps.getD p undef = .pointer (some ⟨g, 0, none⟩)) (hq : tmps.getD q undef = .pointer (some ⟨g', 0, none⟩)) (hg : w.heap[g]? = some (.cells cs t fr)) (hg' : w.heap[g']? = some (.cells cs' t' fr'))
    (hu : P.underlying ty = some d) (hd : (match d with | .struct _ | .array _ _ => true | _ => false) = true) (hi : (P.info? ty).map (·.size) = some cs.size)
    (hu' : P.underlying ty' = some d') (hd' : (match d' with | .struct _ | .array _ _ => true | _ => false) = true) (hi' : (P.info? ty').map (·.size) = some cs'.size) :
    (results fn tmps).run P w = .ok (.tuple #[.agg cs, .agg cs']) w := by
  have hp' : tmps[p]?.getD undef = .pointer (some ⟨g, 0, none⟩) := by simpa using hp
  have hq' : tmps[q]?.getD undef = .pointer (some ⟨g', 0, none⟩) := by simpa using hq
  simp [results, h, hp', hq', asAddr, run_loadVar_row w g t ty cs fr d hg hu hd hi, run_loadVar_row w g' t' ty' cs' fr' d' hg' hu' hd' hi']
theorem OwnSt.rows_ {W : World} {B : Nat} {Y0 Y1 Y2 Y3 : Option Addr} {f0 f1 f2 f3 : Nat} {s : StD} (h : OwnSt W B (.agg (stC Y0 Y1 Y2 Y3 s.pods.length f0 s.mnts.length f1 s.devs.length f2 s.lks.length f3 s.ph s.co s.ck s.bo s.ba s.lb s.gd s.pr)) s) : W.ownsRow B 67 2 (.slice Y0 s.pods.length f0) s.pods.length (podCs s.pods) ∧ W.ownsRow B 46 2 (.slice Y1 s.mnts.length f1) s.mnts.length (mntCs s.mnts) ∧
    W.ownsRow B 4 1 (.slice Y2 s.devs.length f2) s.devs.length (devCs s.devs) ∧ W.ownsRow B 2 1 (.slice Y3 s.lks.length f3) s.lks.length (lkCs s.lks) := by
  obtain ⟨y0, y1, y2, y3, hy, z0, z1, z2, z3⟩ := h.it
  injection hy with hy
  injection hy with hy
  injection hy with _ hy
  injection hy with _ hy
  injection hy with _ hy
  injection hy with _ hy
  injection hy with _ hy
  injection hy with _ hy
  injection hy with i0 hy
  injection hy with i1 hy
  injection hy with i2 hy
  injection hy with i3 hy
  subst i0 i1 i2 i3
  exact ⟨z0, z1, z2, z3⟩
theorem OI.ge {w : World} {B e k n : Nat} {v : Value} {x : Nat → Int} (h : OI w B e k v n x) {r : Nat} (hr : v.ownBlock = some r) : B ≤ r := by
  obtain ⟨xs, hown, -⟩ := h
  exact (hown.lt r hr).1
theorem apart_new {W W' : World} {B e k n e' k' n' : Nat} {u v : Value} {x : Nat → Int} {xs : List Value} (h : W.ownsRow B e' k' v n' xs) (h' : OI W' W.heap.size e k u n x) : Apart u v := fun r h1 h2 => by
  have := (h.lt r h2).2
  have := h'.ge h1
  omega

theorem ne_types {W : World} {a b T T' : Nat} {c c' : Array Value} {f f' : Nat × Nat} (h : W.heap[a]? = some (.cells c T f)) (h' : W.heap[b]? = some (.cells c' T' f')) (hne : T ≠ T') : ¬ b = a := by
  rintro rfl
  rw [h] at h'
  injection h' with h'
  injection h' with _ h2 _
  exact hne h2
theorem row_block {W : World} {B e k n gr c : Nat} {xs : List Value} (h : W.ownsRow B e k (.slice (some ⟨gr, 0, none⟩) n c) n xs) : ∃ cs, W.heap[gr]? = some (.cells cs e) := by
  rcases h.2 with ⟨h', _⟩ | ⟨g', cap, cur, h', _, hh, _⟩
  · simp at h'
  · simp only [Value.slice.injEq, Option.some.injEq, Addr.mk.injEq, and_true, true_and] at h'
    obtain ⟨rfl, rfl⟩ := h'
    exact ⟨_, hh⟩
theorem podCs_set0 (l : List (Int × Int)) (r : Int) : podCs (l.set 0 (r, (podA l 0).2)) = (podCs l).set 0 (.int .i64 r) := by
  cases l <;> rfl
theorem mntCs_set0 (l : List (Bool × Int)) (r : Int) : mntCs (l.set 0 ((mntA l 0).1, r)) = (mntCs l).set 1 (.int .i64 r) := by
  cases l <;> rfl
theorem ps_pods {w W W' : World} {g g5 g6 gr : Nat} {Q0 Q1 Q2 Q3 : Option Addr} {e0 e1 e2 e3 : Nat} {d : PlanD} {Y1 Y2 Y3 : Option Addr} {f0 f1 f2 f3 : Nat} {s : StD} {P : List (Int × Int)} (H5 : W.heap[g5]? = some (.cells (planC Q0 Q1 Q2 Q3 d.n0 e0 d.n1 e1 d.n2 e2 d.n3 e3 d.l d.p d.t) 29)) (H6 : W.heap[g6]? = some (.cells (stC (some ⟨gr, 0, none⟩) Y1 Y2 Y3 s.pods.length f0 s.mnts.length f1 s.devs.length f2 s.lks.length f3 s.ph s.co s.ck s.bo s.ba s.lb s.gd s.pr) 38))
    (Lp : Lists W w.heap.size (.slice Q0 d.n0 e0) (.slice Q1 d.n1 e1) (.slice Q2 d.n2 e2) (.slice Q3 d.n3 e3) d) (Os : OwnSt W w.heap.size (.agg (stC (some ⟨gr, 0, none⟩) Y1 Y2 Y3 s.pods.length f0 s.mnts.length f1 s.devs.length f2 s.lks.length f3 s.ph s.co s.ck s.bo s.ba s.lb s.gd s.pr)) s) (hd : PlSmall d) (hs : StSmall s) (AP : Apart (.slice Q1 d.n1 e1) (.slice Y3 s.lks.length f3)) (CU : Cur 112 .i64 W g) (KP : Keeps (· = g) w W)
    (b2 : W.heap[w.heap.size]? = some (.cells (planC none none none none 0 0 0 0 0 0 0 0 0 0 0) 29)) (b3 : W.heap[w.heap.size + 1]? = some (.cells (stC none none none none 0 0 0 0 0 0 0 0 0 false 0 0 0 0 0 0) 38)) (hg : g < w.heap.size)
    (kk : Keeps (· = gr) W W') (P0 : W'.ownsRow w.heap.size 67 2 (.slice (some ⟨gr, 0, none⟩) s.pods.length f0) s.pods.length (podCs P)) (hl : P.length = s.pods.length) : BoxPS w W' g g5 g6 := by
  obtain ⟨cs, hgr⟩ := row_block Os.rows_.1
  obtain ⟨gcs, hgc⟩ := CU.cells
  have n5 := ne_types hgr H5 (by decide)
  have n6 := ne_types hgr H6 (by decide)
  have n2 := ne_types hgr b2 (by decide)
  have n3 := ne_types hgr b3 (by decide)
  have hB : w.heap.size ≤ gr := (World.ownsRow.lt Os.rows_.1 gr rfl).1
  have x6 := (kk.block _ (Array.getElem?_eq_some_iff.1 H6).1 (by show ¬ g6 = gr; exact n6)).trans H6
  refine ⟨⟨Q0, Q1, Q2, Q3, e0, e1, e2, e3, d, (some ⟨gr, 0, none⟩), Y1, Y2, Y3, f0, f1, f2, f3, ⟨s.ph, s.co, s.ck, s.bo, s.ba, s.lb, P, s.mnts, s.devs, s.lks, s.gd, s.pr⟩, (kk.block _ (Array.getElem?_eq_some_iff.1 H5).1 (by show ¬ g5 = gr; exact n5)).trans H5, ?_, Lp.keeps kk hgr (by decide), ?_, hd, ⟨(by show P.length ≤ 12; rw [hl]; exact hs.s0), hs.s1, hs.s2, hs.s3⟩, AP⟩,
    CU.keeps kk (fun b hb e => by omega), ⟨kk.os.trans KP.os, kk.tape.trans KP.tape, kk.output.trans KP.output, Nat.le_trans KP.size kk.size, fun b hb hn => (kk.block b (Nat.lt_of_lt_of_le hb KP.size) (by show ¬ b = gr; omega)).trans (KP.block b hb hn)⟩,
    (kk.block _ (Array.getElem?_eq_some_iff.1 b2).1 (by show ¬ w.heap.size = gr; exact n2)).trans b2, (kk.block _ (Array.getElem?_eq_some_iff.1 b3).1 (by show ¬ w.heap.size + 1 = gr; exact n3)).trans b3⟩
  · dsimp only
    rw [hl]
    exact x6
  · dsimp only
    rw [hl]
    exact ⟨_, _, _, _, rfl, (by rw [hl]; exact P0), ownsRow_keeps Os.rows_.2.1 kk (row_apart Os.rows_.2.1 hgr (by decide)), ownsRow_keeps Os.rows_.2.2.1 kk (row_apart Os.rows_.2.2.1 hgr (by decide)), ownsRow_keeps Os.rows_.2.2.2 kk (row_apart Os.rows_.2.2.2 hgr (by decide))⟩
theorem ps_mnts {w W W' : World} {g g5 g6 gr : Nat} {Q0 Q1 Q2 Q3 : Option Addr} {e0 e1 e2 e3 : Nat} {d : PlanD} {Y0 Y2 Y3 : Option Addr} {f0 f1 f2 f3 : Nat} {s : StD} {P : List (Bool × Int)} (H5 : W.heap[g5]? = some (.cells (planC Q0 Q1 Q2 Q3 d.n0 e0 d.n1 e1 d.n2 e2 d.n3 e3 d.l d.p d.t) 29)) (H6 : W.heap[g6]? = some (.cells (stC Y0 (some ⟨gr, 0, none⟩) Y2 Y3 s.pods.length f0 s.mnts.length f1 s.devs.length f2 s.lks.length f3 s.ph s.co s.ck s.bo s.ba s.lb s.gd s.pr) 38))
    (Lp : Lists W w.heap.size (.slice Q0 d.n0 e0) (.slice Q1 d.n1 e1) (.slice Q2 d.n2 e2) (.slice Q3 d.n3 e3) d) (Os : OwnSt W w.heap.size (.agg (stC Y0 (some ⟨gr, 0, none⟩) Y2 Y3 s.pods.length f0 s.mnts.length f1 s.devs.length f2 s.lks.length f3 s.ph s.co s.ck s.bo s.ba s.lb s.gd s.pr)) s) (hd : PlSmall d) (hs : StSmall s) (AP : Apart (.slice Q1 d.n1 e1) (.slice Y3 s.lks.length f3)) (CU : Cur 112 .i64 W g) (KP : Keeps (· = g) w W)
    (b2 : W.heap[w.heap.size]? = some (.cells (planC none none none none 0 0 0 0 0 0 0 0 0 0 0) 29)) (b3 : W.heap[w.heap.size + 1]? = some (.cells (stC none none none none 0 0 0 0 0 0 0 0 0 false 0 0 0 0 0 0) 38)) (hg : g < w.heap.size)
    (kk : Keeps (· = gr) W W') (P0 : W'.ownsRow w.heap.size 46 2 (.slice (some ⟨gr, 0, none⟩) s.mnts.length f1) s.mnts.length (mntCs P)) (hl : P.length = s.mnts.length) : BoxPS w W' g g5 g6 := by
  obtain ⟨cs, hgr⟩ := row_block Os.rows_.2.1
  obtain ⟨gcs, hgc⟩ := CU.cells
  have n5 := ne_types hgr H5 (by decide)
  have n6 := ne_types hgr H6 (by decide)
  have n2 := ne_types hgr b2 (by decide)
  have n3 := ne_types hgr b3 (by decide)
  have hB : w.heap.size ≤ gr := (World.ownsRow.lt Os.rows_.2.1 gr rfl).1
  have x6 := (kk.block _ (Array.getElem?_eq_some_iff.1 H6).1 (by show ¬ g6 = gr; exact n6)).trans H6
  refine ⟨⟨Q0, Q1, Q2, Q3, e0, e1, e2, e3, d, Y0, (some ⟨gr, 0, none⟩), Y2, Y3, f0, f1, f2, f3, ⟨s.ph, s.co, s.ck, s.bo, s.ba, s.lb, s.pods, P, s.devs, s.lks, s.gd, s.pr⟩, (kk.block _ (Array.getElem?_eq_some_iff.1 H5).1 (by show ¬ g5 = gr; exact n5)).trans H5, ?_, Lp.keeps kk hgr (by decide), ?_, hd, ⟨hs.s0, (by show P.length ≤ 12; rw [hl]; exact hs.s1), hs.s2, hs.s3⟩, AP⟩,
    CU.keeps kk (fun b hb e => by omega), ⟨kk.os.trans KP.os, kk.tape.trans KP.tape, kk.output.trans KP.output, Nat.le_trans KP.size kk.size, fun b hb hn => (kk.block b (Nat.lt_of_lt_of_le hb KP.size) (by show ¬ b = gr; omega)).trans (KP.block b hb hn)⟩,
    (kk.block _ (Array.getElem?_eq_some_iff.1 b2).1 (by show ¬ w.heap.size = gr; exact n2)).trans b2, (kk.block _ (Array.getElem?_eq_some_iff.1 b3).1 (by show ¬ w.heap.size + 1 = gr; exact n3)).trans b3⟩
  · dsimp only
    rw [hl]
    exact x6
  · dsimp only
    rw [hl]
    exact ⟨_, _, _, _, rfl, ownsRow_keeps Os.rows_.1 kk (row_apart Os.rows_.1 hgr (by decide)), (by rw [hl]; exact P0), ownsRow_keeps Os.rows_.2.2.1 kk (row_apart Os.rows_.2.2.1 hgr (by decide)), ownsRow_keeps Os.rows_.2.2.2 kk (row_apart Os.rows_.2.2.2 hgr (by decide))⟩
theorem ps_lks {w W W' : World} {g g5 g6 gg cap : Nat} {Q0 Q1 Q2 Q3 : Option Addr} {e0 e1 e2 e3 : Nat} {d : PlanD} {Y0 Y1 Y2 Y3 : Option Addr} {f0 f1 f2 f3 : Nat} {s : StD} {P : List Int} (H5 : W.heap[g5]? = some (.cells (planC Q0 Q1 Q2 Q3 d.n0 e0 d.n1 e1 d.n2 e2 d.n3 e3 d.l d.p d.t) 29)) (H6 : W.heap[g6]? = some (.cells (stC Y0 Y1 Y2 Y3 s.pods.length f0 s.mnts.length f1 s.devs.length f2 s.lks.length f3 s.ph s.co s.ck s.bo s.ba s.lb s.gd s.pr) 38))
    (Lp : Lists W w.heap.size (.slice Q0 d.n0 e0) (.slice Q1 d.n1 e1) (.slice Q2 d.n2 e2) (.slice Q3 d.n3 e3) d) (Os : OwnSt W w.heap.size (.agg (stC Y0 Y1 Y2 Y3 s.pods.length f0 s.mnts.length f1 s.devs.length f2 s.lks.length f3 s.ph s.co s.ck s.bo s.ba s.lb s.gd s.pr)) s) (hd : PlSmall d) (hs : StSmall s) (h12 : s.lks.length ≤ 12) (AP : Apart (.slice Q1 d.n1 e1) (.slice Y3 s.lks.length f3)) (CU : Cur 112 .i64 W g) (KP : Keeps (· = g) w W)
    (b2 : W.heap[w.heap.size]? = some (.cells (planC none none none none 0 0 0 0 0 0 0 0 0 0 0) 29)) (b3 : W.heap[w.heap.size + 1]? = some (.cells (stC none none none none 0 0 0 0 0 0 0 0 0 false 0 0 0 0 0 0) 38)) (hg : g < w.heap.size) (h5 : w.heap.size + 1 < g5) (h6 : g5 < g6)
    (kk : Keeps (fun b => (Value.slice Y3 s.lks.length f3).ownBlock = some b) W W') (P0 : W'.ownsRow w.heap.size 2 1 (.slice (some ⟨gg, 0, none⟩) (s.lks.length + 1) cap) (s.lks.length + 1) (lkCs P)) (hl : P.length = s.lks.length + 1) (hgg : (Value.slice Y3 s.lks.length f3).ownBlock = some gg ∨ W.heap.size ≤ gg) :
    BoxPS w (W'.setCell ⟨g6, 9, none⟩ (.slice (some ⟨gg, 0, none⟩) (s.lks.length + 1) cap)) g g5 g6 := by
  obtain ⟨z0, z1, z2, P3⟩ := Os.rows_
  have hB : ∀ b, (Value.slice Y3 s.lks.length f3).ownBlock = some b → w.heap.size ≤ b := fun b e => (World.ownsRow.lt P3 b e).1
  have H5' := (kk.block g5 (Array.getElem?_eq_some_iff.1 H5).1 (fun e => row_apart P3 H5 (by decide) g5 e rfl)).trans H5
  have H6' := (kk.block g6 (Array.getElem?_eq_some_iff.1 H6).1 (fun e => row_apart P3 H6 (by decide) g6 e rfl)).trans H6
  have b2' := (kk.block w.heap.size (Array.getElem?_eq_some_iff.1 b2).1 (fun e => row_apart P3 b2 (by decide) _ e rfl)).trans b2
  have b3' := (kk.block (w.heap.size + 1) (Array.getElem?_eq_some_iff.1 b3).1 (fun e => row_apart P3 b3 (by decide) _ e rfl)).trans b3
  have CU' := CU.keeps kk (fun b hb e => by have := hB b e; omega)
  have KP' : Keeps (· = g) w W' := ⟨kk.os.trans KP.os, kk.tape.trans KP.tape, kk.output.trans KP.output, Nat.le_trans KP.size kk.size, fun b hb hn => (kk.block b (Nat.lt_of_lt_of_le hb KP.size) (fun e => by have := hB b e; omega)).trans (KP.block b hb hn)⟩
  have AP' : Apart (.slice Q1 d.n1 e1) (.slice (some ⟨gg, 0, none⟩) (s.lks.length + 1) cap) := fun r h1 h2 => by
    have e : gg = r := by simpa [Value.ownBlock] using h2
    subst e
    rcases hgg with h | h
    · exact AP _ h1 h
    · have := Lp.o1.lt h1
      omega
  have Lp' : Lists W' w.heap.size (.slice Q0 d.n0 e0) (.slice Q1 d.n1 e1) (.slice Q2 d.n2 e2) (.slice Q3 d.n3 e3) d := by
    obtain ⟨⟨a, ha, ha'⟩, ⟨b, hb1, hb2⟩, ⟨c, hc, hc'⟩, ⟨e, he, he'⟩⟩ := Lp
    exact ⟨⟨a, ownsRow_keeps ha kk (fun r hr hs => absurd (row_type P3 ha hs hr) (by decide)), ha'⟩, ⟨b, ownsRow_keeps hb1 kk (fun r hr hs => AP r hr hs), hb2⟩, ⟨c, ownsRow_keeps hc kk (fun r hr hs => absurd (row_type P3 hc hs hr) (by decide)), hc'⟩, ⟨e, ownsRow_keeps he kk (fun r hr hs => absurd (row_type P3 he hs hr) (by decide)), he'⟩⟩
  replace z0 := ownsRow_keeps z0 kk (fun r hr hs => absurd (row_type P3 z0 hs hr) (by decide))
  replace z1 := ownsRow_keeps z1 kk (fun r hr hs => absurd (row_type P3 z1 hs hr) (by decide))
  replace z2 := ownsRow_keeps z2 kk (fun r hr hs => absurd (row_type P3 z2 hs hr) (by decide))
  have x6 := heap_setCell_same _ g6 9 _ _ (.slice (some ⟨gg, 0, none⟩) (s.lks.length + 1) cap) H6'
  simp only [List.setIfInBounds_toArray, List.set_cons_zero, List.set_cons_succ] at x6
  have KS : Keeps (· = g6) W' (W'.setCell ⟨g6, 9, none⟩ (.slice (some ⟨gg, 0, none⟩) (s.lks.length + 1) cap)) := (Keeps.refl (· = g6) _).set rfl _
  generalize W'.setCell ⟨g6, 9, none⟩ (.slice (some ⟨gg, 0, none⟩) (s.lks.length + 1) cap) = W2 at x6 KS ⊢
  refine ⟨⟨Q0, Q1, Q2, Q3, e0, e1, e2, e3, d, Y0, Y1, Y2, some ⟨gg, 0, none⟩, f0, f1, f2, cap, ⟨s.ph, s.co, s.ck, s.bo, s.ba, s.lb, s.pods, s.mnts, s.devs, P, s.gd, s.pr⟩, (KS.block _ (Array.getElem?_eq_some_iff.1 H5').1 (by show ¬ g5 = g6; omega)).trans H5', ?_, Lp'.keeps KS H6' (by decide), ?_, hd, ⟨hs.s0, hs.s1, hs.s2, by show P.length ≤ 13; omega⟩, ?_⟩,
    CU'.keeps KS (fun b hb e => by omega), ⟨KS.os.trans KP'.os, KS.tape.trans KP'.tape, KS.output.trans KP'.output, Nat.le_trans KP'.size KS.size, fun b hb hn => (KS.block b (Nat.lt_of_lt_of_le hb KP'.size) (by show ¬ b = g6; omega)).trans (KP'.block b hb hn)⟩,
    (KS.block _ (Array.getElem?_eq_some_iff.1 b2').1 (by show ¬ w.heap.size = g6; omega)).trans b2', (KS.block _ (Array.getElem?_eq_some_iff.1 b3').1 (by show ¬ w.heap.size + 1 = g6; omega)).trans b3'⟩
  · dsimp only
    rw [hl]
    exact x6
  · dsimp only
    rw [hl]
    exact ⟨_, _, _, _, rfl, ownsRow_keeps z0 KS (row_apart z0 H6' (by decide)), ownsRow_keeps z1 KS (row_apart z1 H6' (by decide)), ownsRow_keeps z2 KS (row_apart z2 H6' (by decide)), by rw [hl]; exact ownsRow_keeps P0 KS (row_apart P0 H6' (by decide))⟩
  · dsimp only
    rw [hl]
    exact AP'
theorem lks_step {W : World} {B : Nat} {l : List Int} {v : Value} {ops : Array Oper} {o : Oper} {ac : Act} {K : Act → World → Prop} {Q : Exit → Act → World → Prop} {E : Prop} (hown : W.ownsRow B 2 1 v l.length (lkCs l)) (hn : l.length ≤ 12) (hB : B ≤ W.heap.size) (r : Int) (hgd : o.guard = none) (s x : Operand)
    (ho : o.op = .call { callee := .builtin .append, args := #[s, x], argTypes := #[25, 25] }) (hs : ac.eval s = v) (hx : ac.eval x = .slice (some ⟨W.heap.size, 0, none⟩) 1 1)
    (h : ∀ gg cap W', W'.ownsRow B 2 1 (.slice (some ⟨gg, 0, none⟩) (l.length + 1) cap) (l.length + 1) (lkCs (l ++ [r])) → Keeps (fun b => v.ownBlock = some b) W W' → (v.ownBlock = some gg ∨ W.heap.size ≤ gg) → K (ac.put o.dst (.slice (some ⟨gg, 0, none⟩) (l.length + 1) cap)) W') :
    if Region.wanted o (yielded ops ac.tmps) = true then Oper.wp Tryz.prog o ac (W.alloc (.cells #[.int .i64 r] 2)) K Q else E := by
  obtain ⟨i, hi, hz0, hz1, hz2⟩ := info_parts info_i64
  have hb : Below W.heap.size W (W.alloc (.cells #[.int .i64 r] 2)) := (Below.refl _ _).alloc (Nat.le_refl _) _
  refine step_append_lies _ hgd s x _ ho B 2 i _ 1 8 Tryz.underlying25 hi hz0 hz1 hz2 rfl (by omega) v l.length (lkCs l) hs (ownsRow_below hown hb) ⟨W.heap.size, 0, none⟩ 1 1 [.int .i64 r] hx rfl
    (World.news_of_block (cs := #[.int .i64 r]) (heap_alloc_new W _)) (by simp [Value.oneCell']) (by omega) (by unfold maxLen; omega) (by omega) (Nat.le_trans hB hb.size) (W.heap.size + 1) (by simp) ?_
  intro gg cap w6 hown6 hgrow hat hltg
  refine h gg cap w6 (by unfold lkCs at hown6 ⊢; rw [List.map_append]; exact hown6) ((Keeps.of_below hb).trans ⟨hgrow.os, hgrow.tape, hgrow.output, hgrow.size, fun b hb hn => hgrow.block b hb fun e => hn e.symm⟩) (hat.imp id (fun e => by omega))
set_option maxRecDepth 100000 in
set_option maxHeartbeats 8000000 in
theorem l5DrawAny_of (HD : DrawsPlan) (HA : DrawsAny) (g : Nat) (w : World) (h : Cur 112 .i64 w g) : Calls Tryz.prog 44 #[.pointer (some ⟨g, 0, none⟩)] w (DrawnPS g w) := by
  have hg := h.lt
  have HI : Hid ((Tryz.prog.info? 49).map (·.size) = some 20) := Lib.hid (by kernel_rfl)
  have HIP : Hid ((Tryz.prog.info? 29).map (·.size) = some 7) := Lib.hid (by kernel_rfl)
  have HIS : Hid ((Tryz.prog.info? 38).map (·.size) = some 12) := Lib.hid (by kernel_rfl)
  have b2 : ((w.alloc (.cells (planC none none none none 0 0 0 0 0 0 0 0 0 0 0) 29)).alloc (.cells (stC none none none none 0 0 0 0 0 0 0 0 0 false 0 0 0 0 0 0) 38)).heap[w.heap.size]? = some (.cells (planC none none none none 0 0 0 0 0 0 0 0 0 0 0) 29) := by
    have hb := (Below.refl (w.alloc (.cells (planC none none none none 0 0 0 0 0 0 0 0 0 0 0) 29)).heap.size (w.alloc (.cells (planC none none none none 0 0 0 0 0 0 0 0 0 0 0) 29))).alloc (Nat.le_refl _) (.cells (stC none none none none 0 0 0 0 0 0 0 0 0 false 0 0 0 0 0 0) 38)
    exact (hb.block w.heap.size (by simp)).trans (heap_alloc_new w _)
  have b3 := heap_alloc2_new w (.cells (planC none none none none 0 0 0 0 0 0 0 0 0 0 0) 29) (.cells (stC none none none none 0 0 0 0 0 0 0 0 0 false 0 0 0 0 0 0) 38)
  have CU := (h.alloc (.cells (planC none none none none 0 0 0 0 0 0 0 0 0 0 0) 29)).alloc (.cells (stC none none none none 0 0 0 0 0 0 0 0 0 false 0 0 0 0 0 0) 38)
  have KP : Keeps (· = g) w ((w.alloc (.cells (planC none none none none 0 0 0 0 0 0 0 0 0 0 0) 29)).alloc (.cells (stC none none none none 0 0 0 0 0 0 0 0 0 false 0 0 0 0 0 0) 38)) := ((Keeps.refl _ _).alloc _).alloc _
  clear h
  go_enter Tryz.func44, Tryz.ntmps44
  go_wp2_with fail
  generalize (w.alloc (.cells (planC none none none none 0 0 0 0 0 0 0 0 0 0 0) 29)).alloc (.cells (stC none none none none 0 0 0 0 0 0 0 0 0 false 0 0 0 0 0 0) 38) = w0 at b2 b3 CU KP ⊢
  refine (l15Draw_of HD g w0 CU).mono ?_
  rintro e w1 ⟨va, d, s, st, rfl, OA, hok, hst, CU1, hk⟩
  replace b2 := (hk.block _ (Array.getElem?_eq_some_iff.1 b2).1 (by show ¬ w.heap.size = g; omega)).trans b2
  replace b3 := (hk.block _ (Array.getElem?_eq_some_iff.1 b3).1 (by show ¬ w.heap.size + 1 = g; omega)).trans b3
  replace OA := OA.base KP.size
  replace KP := KP.trans hk
  have hsm := st_small hok
  have hpl := size_ok hok.plan
  have hd : PlSmall d := ⟨by omega, by omega, by omega, by omega⟩
  have hs : StSmall s := ⟨by omega, by omega, by omega, by omega⟩
  have h12 : s.lks.length ≤ 12 := by omega
  obtain ⟨p0_, p1_, p2_, p3_, s0_, s1_, s2_, s3_, b_, rfl, Lp, Os, Ob, AP⟩ := OA.it
  obtain ⟨⟨Y0, f0, rfl⟩, ⟨Y1, f1, rfl⟩, ⟨Y2, f2, rfl⟩, ⟨Y3, f3, rfl⟩⟩ := Os.shapes
  obtain ⟨Q0, e0, rfl, -, -⟩ := Lp.o0.formR
  obtain ⟨Q1, e1, rfl, -, -⟩ := Lp.o1.formR
  obtain ⟨Q2, e2, rfl, -, -⟩ := Lp.o2.formR
  obtain ⟨Q3, e3, rfl, -, -⟩ := Lp.o3.formR
  obtain ⟨Ab, cb, -, rfl, -⟩ := Ob.open_
  clear hk CU OA Ob hok hst hsm hpl
  go_upto_region 2 with (
    (with_reducible refine store_agent (x := 4) (y := 8) (g := w1.heap.size) (cs := agC (.slice Q0 d.n0 e0) (.slice Q1 d.n1 e1) (.slice Q2 d.n2 e2) (.slice Q3 d.n3 e3) d.l d.p d.t s.ph s.co s.ck s.bo s.ba s.lb (.slice Y0 s.pods.length f0) (.slice Y1 s.mnts.length f1) (.slice Y2 s.devs.length f2) (.slice Y3 s.lks.length f3) s.gd s.pr (.slice Ab st.length cb)) ?_ ?_ (heap_alloc_new w1 _) ?_ ?_ ?_ ?_)
    · rfl
    · rfl
    · exact HI.out
    · rfl
    · simp [Value.oneCell'])
  have hb : Below w1.heap.size w1 ((w1.alloc (.cells (agC (.slice none 0 0) (.slice none 0 0) (.slice none 0 0) (.slice none 0 0) 0 0 0 0 false 0 0 0 0 (.slice none 0 0) (.slice none 0 0) (.slice none 0 0) (.slice none 0 0) 0 0 (.slice none 0 0)) 49)).setRow w1.heap.size (agC (.slice Q0 d.n0 e0) (.slice Q1 d.n1 e1) (.slice Q2 d.n2 e2) (.slice Q3 d.n3 e3) d.l d.p d.t s.ph s.co s.ck s.bo s.ba s.lb (.slice Y0 s.pods.length f0) (.slice Y1 s.mnts.length f1) (.slice Y2 s.devs.length f2) (.slice Y3 s.lks.length f3) s.gd s.pr (.slice Ab st.length cb))) := below_setRow ((Below.refl _ _).alloc (Nat.le_refl _) _) (Nat.le_refl _) _
  have H4 : ((w1.alloc (.cells (agC (.slice none 0 0) (.slice none 0 0) (.slice none 0 0) (.slice none 0 0) 0 0 0 0 false 0 0 0 0 (.slice none 0 0) (.slice none 0 0) (.slice none 0 0) (.slice none 0 0) 0 0 (.slice none 0 0)) 49)).setRow w1.heap.size (agC (.slice Q0 d.n0 e0) (.slice Q1 d.n1 e1) (.slice Q2 d.n2 e2) (.slice Q3 d.n3 e3) d.l d.p d.t s.ph s.co s.ck s.bo s.ba s.lb (.slice Y0 s.pods.length f0) (.slice Y1 s.mnts.length f1) (.slice Y2 s.devs.length f2) (.slice Y3 s.lks.length f3) s.gd s.pr (.slice Ab st.length cb))).heap[w1.heap.size]? = some (.cells (agC (.slice Q0 d.n0 e0) (.slice Q1 d.n1 e1) (.slice Q2 d.n2 e2) (.slice Q3 d.n3 e3) d.l d.p d.t s.ph s.co s.ck s.bo s.ba s.lb (.slice Y0 s.pods.length f0) (.slice Y1 s.mnts.length f1) (.slice Y2 s.devs.length f2) (.slice Y3 s.lks.length f3) s.gd s.pr (.slice Ab st.length cb)) 49) := setRow_heap _ _ _ _ _ _ (heap_alloc_new w1 _)
  have hg4 : w.heap.size + 1 < w1.heap.size := (Array.getElem?_eq_some_iff.1 b3).1
  replace b2 := (hb.block _ (Array.getElem?_eq_some_iff.1 b2).1).trans b2
  replace b3 := (hb.block _ (Array.getElem?_eq_some_iff.1 b3).1).trans b3
  replace KP := KP.trans (Keeps.of_below hb)
  replace CU1 := CU1.below hb
  replace Lp := Lp.below hb
  replace Os := Os.below hb
  clear hb
  generalize (w1.alloc (.cells (agC (.slice none 0 0) (.slice none 0 0) (.slice none 0 0) (.slice none 0 0) 0 0 0 0 false 0 0 0 0 (.slice none 0 0) (.slice none 0 0) (.slice none 0 0) (.slice none 0 0) 0 0 (.slice none 0 0)) 49)).setRow w1.heap.size (agC (.slice Q0 d.n0 e0) (.slice Q1 d.n1 e1) (.slice Q2 d.n2 e2) (.slice Q3 d.n3 e3) d.l d.p d.t s.ph s.co s.ck s.bo s.ba s.lb (.slice Y0 s.pods.length f0) (.slice Y1 s.mnts.length f1) (.slice Y2 s.devs.length f2) (.slice Y3 s.lks.length f3) s.gd s.pr (.slice Ab st.length cb)) = w2 at H4 b2 b3 KP CU1 Lp Os ⊢
  generalize w1.heap.size = g4 at H4 hg4 ⊢
  have hz4 := (Array.getElem?_eq_some_iff.1 H4).1
  have hC4 : ∀ o, w2.cell? ⟨g4, o, none⟩ = (agC (.slice Q0 d.n0 e0) (.slice Q1 d.n1 e1) (.slice Q2 d.n2 e2) (.slice Q3 d.n3 e3) d.l d.p d.t s.ph s.co s.ck s.bo s.ba s.lb (.slice Y0 s.pods.length f0) (.slice Y1 s.mnts.length f1) (.slice Y2 s.devs.length f2) (.slice Y3 s.lks.length f3) s.gd s.pr (.slice Ab st.length cb))[o]? := fun o => cell_of_row _ _ _ _ _ _ H4
  go_upto_region 4 with fail
  have H5 : ((w2.alloc (.cells (planC Q0 Q1 Q2 Q3 d.n0 e0 d.n1 e1 d.n2 e2 d.n3 e3 d.l d.p d.t) 29)).alloc (.cells (stC Y0 Y1 Y2 Y3 s.pods.length f0 s.mnts.length f1 s.devs.length f2 s.lks.length f3 s.ph s.co s.ck s.bo s.ba s.lb s.gd s.pr) 38)).heap[w2.heap.size]? = some (.cells (planC Q0 Q1 Q2 Q3 d.n0 e0 d.n1 e1 d.n2 e2 d.n3 e3 d.l d.p d.t) 29) := by
    have hb := (Below.refl (w2.alloc (.cells (planC Q0 Q1 Q2 Q3 d.n0 e0 d.n1 e1 d.n2 e2 d.n3 e3 d.l d.p d.t) 29)).heap.size (w2.alloc (.cells (planC Q0 Q1 Q2 Q3 d.n0 e0 d.n1 e1 d.n2 e2 d.n3 e3 d.l d.p d.t) 29))).alloc (Nat.le_refl _) (.cells (stC Y0 Y1 Y2 Y3 s.pods.length f0 s.mnts.length f1 s.devs.length f2 s.lks.length f3 s.ph s.co s.ck s.bo s.ba s.lb s.gd s.pr) 38)
    exact (hb.block w2.heap.size (by simp)).trans (heap_alloc_new w2 _)
  have H6 := heap_alloc2_new w2 (.cells (planC Q0 Q1 Q2 Q3 d.n0 e0 d.n1 e1 d.n2 e2 d.n3 e3 d.l d.p d.t) 29) (.cells (stC Y0 Y1 Y2 Y3 s.pods.length f0 s.mnts.length f1 s.devs.length f2 s.lks.length f3 s.ph s.co s.ck s.bo s.ba s.lb s.gd s.pr) 38)
  have hb : Below w2.heap.size w2 ((w2.alloc (.cells (planC Q0 Q1 Q2 Q3 d.n0 e0 d.n1 e1 d.n2 e2 d.n3 e3 d.l d.p d.t) 29)).alloc (.cells (stC Y0 Y1 Y2 Y3 s.pods.length f0 s.mnts.length f1 s.devs.length f2 s.lks.length f3 s.ph s.co s.ck s.bo s.ba s.lb s.gd s.pr) 38)) := ((Below.refl _ _).alloc (Nat.le_refl _) _).alloc (by simp) _
  have h5 : w.heap.size + 1 < w2.heap.size := (Array.getElem?_eq_some_iff.1 b3).1
  replace b2 := (hb.block _ (Array.getElem?_eq_some_iff.1 b2).1).trans b2
  replace b3 := (hb.block _ (Array.getElem?_eq_some_iff.1 b3).1).trans b3
  replace KP := KP.trans (Keeps.of_below hb)
  replace CU1 := CU1.below hb
  replace Lp := Lp.below hb
  replace Os := Os.below hb
  clear hb H4 hz4 hC4 hg4
  generalize (w2.alloc (.cells (planC Q0 Q1 Q2 Q3 d.n0 e0 d.n1 e1 d.n2 e2 d.n3 e3 d.l d.p d.t) 29)).alloc (.cells (stC Y0 Y1 Y2 Y3 s.pods.length f0 s.mnts.length f1 s.devs.length f2 s.lks.length f3 s.ph s.co s.ck s.bo s.ba s.lb s.gd s.pr) 38) = w3 at H5 H6 b2 b3 KP CU1 Lp Os ⊢
  have h6 : w2.heap.size < w2.heap.size + 1 := Nat.lt_succ_self _
  generalize w2.heap.size + 1 = g6 at H6 h6 ⊢
  generalize w2.heap.size = g5 at H5 h5 h6 ⊢
  have CU := CU1
  clear CU1
  obtain ⟨gcs, hgc⟩ := CU.cells
  have HG := Lib.hid hgc
  clear hgc
  go_upto_if 14 with (go_at_call 60
                      refine (l1Once_any g 6 _ CU (by omega) (by omega)).mono ?_
                      rintro e wx ⟨bb, rfl, CU2, hk⟩)
  replace H5 := (hk.block _ (Array.getElem?_eq_some_iff.1 H5).1 (by show ¬ g5 = g; omega)).trans H5
  replace H6 := (hk.block _ (Array.getElem?_eq_some_iff.1 H6).1 (by show ¬ g6 = g; omega)).trans H6
  replace b2 := (hk.block _ (Array.getElem?_eq_some_iff.1 b2).1 (by show ¬ w.heap.size = g; omega)).trans b2
  replace b3 := (hk.block _ (Array.getElem?_eq_some_iff.1 b3).1 (by show ¬ w.heap.size + 1 = g; omega)).trans b3
  replace Lp := Lp.keeps hk HG.out (by decide)
  replace Os := Os.keepsT hk HG.out (by decide)
  replace KP := KP.trans hk
  obtain ⟨gcs2, hgc2⟩ := CU2.cells
  replace HG := Lib.hid hgc2
  replace CU := CU2
  clear hk CU2 hgc2
  have hC6 : ∀ o, wx.cell? ⟨g6, o, none⟩ = (stC Y0 Y1 Y2 Y3 s.pods.length f0 s.mnts.length f1 s.devs.length f2 s.lks.length f3 s.ph s.co s.ck s.bo s.ba s.lb s.gd s.pr)[o]? := fun o => cell_of_row _ _ _ _ _ _ H6
  have hF6 : ∀ o, wx.frozen? ⟨g6, o, none⟩ = false := fun o => frozen_of_row _ _ _ _ _ H6
  clear hC6 hF6
  go_cut [] from 15 to 88 (fun wc => BoxPS w wc g g5 g6)
  case first =>
    cases bb
    · go_wp2_with fail
      go_meet
      exact ⟨⟨Q0, Q1, Q2, Q3, e0, e1, e2, e3, d, Y0, Y1, Y2, Y3, f0, f1, f2, f3, s, H5, H6, Lp, Os, hd, hs, AP⟩, CU, KP, b2, b3⟩
    · go_wp2_with fail
      refine (l1Below_any g 10 _ CU (by omega) (by omega)).mono ?_
      rintro e wx ⟨x, rfl, x0, x1, CU2, hk⟩
      replace H5 := (hk.block _ (Array.getElem?_eq_some_iff.1 H5).1 (by show ¬ g5 = g; omega)).trans H5
      replace H6 := (hk.block _ (Array.getElem?_eq_some_iff.1 H6).1 (by show ¬ g6 = g; omega)).trans H6
      replace b2 := (hk.block _ (Array.getElem?_eq_some_iff.1 b2).1 (by show ¬ w.heap.size = g; omega)).trans b2
      replace b3 := (hk.block _ (Array.getElem?_eq_some_iff.1 b3).1 (by show ¬ w.heap.size + 1 = g; omega)).trans b3
      replace Lp := Lp.keeps hk HG.out (by decide)
      replace Os := Os.keepsT hk HG.out (by decide)
      replace KP := KP.trans hk
      obtain ⟨gcs2, hgc2⟩ := CU2.cells
      replace HG := Lib.hid hgc2
      replace CU := CU2
      clear hk CU2 hgc2
      have hC6 : ∀ o, wx.cell? ⟨g6, o, none⟩ = (stC Y0 Y1 Y2 Y3 s.pods.length f0 s.mnts.length f1 s.devs.length f2 s.lks.length f3 s.ph s.co s.ck s.bo s.ba s.lb s.gd s.pr)[o]? := fun o => cell_of_row _ _ _ _ _ _ H6
      have hF6 : ∀ o, wx.frozen? ⟨g6, o, none⟩ = false := fun o => frozen_of_row _ _ _ _ _ H6
      obtain ⟨x, rfl⟩ := Int.eq_ofNat_of_zero_le x0
      have hx : x < 10 := by omega
      clear x0 x1
      rcases (by omega : x = 0 ∨ x = 1 ∨ x = 2 ∨ x = 3 ∨ x = 4 ∨ x = 5 ∨ x = 6 ∨ x = 7 ∨ x = 8 ∨ x = 9) with rfl | rfl | rfl | rfl | rfl | rfl | rfl | rfl | rfl | rfl
      · go_wp2_with
          (go_at_call 61
           refine (l1From_any g (-1) 9 _ CU (by omega) (by omega) (by omega) (by omega)).mono ?_
           rintro e wn ⟨r, rfl, -, -, CU2, hk⟩
           replace H5 := (hk.block _ (Array.getElem?_eq_some_iff.1 H5).1 (by show ¬ g5 = g; omega)).trans H5
           replace H6 := (hk.block _ (Array.getElem?_eq_some_iff.1 H6).1 (by show ¬ g6 = g; omega)).trans H6
           replace b2 := (hk.block _ (Array.getElem?_eq_some_iff.1 b2).1 (by show ¬ w.heap.size = g; omega)).trans b2
           replace b3 := (hk.block _ (Array.getElem?_eq_some_iff.1 b3).1 (by show ¬ w.heap.size + 1 = g; omega)).trans b3
           replace Lp := Lp.keeps hk HG.out (by decide)
           replace Os := Os.keepsT hk HG.out (by decide)
           replace KP := KP.trans hk
           obtain ⟨gcs2, hgc2⟩ := CU2.cells
           replace HG := Lib.hid hgc2
           replace CU := CU2
           clear hk CU2 hgc2
           have hC6 : ∀ o, wn.cell? ⟨g6, o, none⟩ = (stC Y0 Y1 Y2 Y3 s.pods.length f0 s.mnts.length f1 s.devs.length f2 s.lks.length f3 s.ph s.co s.ck s.bo s.ba s.lb s.gd s.pr)[o]? := fun o => cell_of_row _ _ _ _ _ _ H6
           have hF6 : ∀ o, wn.frozen? ⟨g6, o, none⟩ = false := fun o => frozen_of_row _ _ _ _ _ H6
           skip)
        go_meet
        have h0 := heap_setCell_same wn g6 0 _ _ (.int .i64 r) H6
        have h1 := heap_setCell_same _ g6 1 _ _ (.bool (r != 0)) h0
        have h9 := h1
        simp only [List.setIfInBounds_toArray, List.set_cons_zero, List.set_cons_succ] at h9
        exact ps_scal H5 H6 Lp Os hd hs AP CU KP b2 b3 hg h5 h6 (((Keeps.refl (· = g6) _).set (p := ⟨g6, 0, none⟩) rfl (.int .i64 r)).set (p := ⟨g6, 1, none⟩) rfl (.bool (r != 0))) h9
      · go_wp2_with fail
        go_meet
        have h0 := heap_setCell_same wx g6 1 _ _ (.bool (!s.co)) H6
        have h9 := h0
        simp only [List.setIfInBounds_toArray, List.set_cons_zero, List.set_cons_succ] at h9
        exact ps_scal H5 H6 Lp Os hd hs AP CU KP b2 b3 hg h5 h6 ((Keeps.refl (· = g6) _).set (p := ⟨g6, 1, none⟩) rfl (.bool (!s.co))) h9
      · go_wp2_with
          (go_at_call 79
           refine (l1Num_any g 1000000 _ CU (by omega) (by omega)).mono ?_
           rintro e wn ⟨r, rfl, CU2, hk⟩
           replace H5 := (hk.block _ (Array.getElem?_eq_some_iff.1 H5).1 (by show ¬ g5 = g; omega)).trans H5
           replace H6 := (hk.block _ (Array.getElem?_eq_some_iff.1 H6).1 (by show ¬ g6 = g; omega)).trans H6
           replace b2 := (hk.block _ (Array.getElem?_eq_some_iff.1 b2).1 (by show ¬ w.heap.size = g; omega)).trans b2
           replace b3 := (hk.block _ (Array.getElem?_eq_some_iff.1 b3).1 (by show ¬ w.heap.size + 1 = g; omega)).trans b3
           replace Lp := Lp.keeps hk HG.out (by decide)
           replace Os := Os.keepsT hk HG.out (by decide)
           replace KP := KP.trans hk
           obtain ⟨gcs2, hgc2⟩ := CU2.cells
           replace HG := Lib.hid hgc2
           replace CU := CU2
           clear hk CU2 hgc2
           have hC6 : ∀ o, wn.cell? ⟨g6, o, none⟩ = (stC Y0 Y1 Y2 Y3 s.pods.length f0 s.mnts.length f1 s.devs.length f2 s.lks.length f3 s.ph s.co s.ck s.bo s.ba s.lb s.gd s.pr)[o]? := fun o => cell_of_row _ _ _ _ _ _ H6
           have hF6 : ∀ o, wn.frozen? ⟨g6, o, none⟩ = false := fun o => frozen_of_row _ _ _ _ _ H6
           skip)
        go_meet
        have h0 := heap_setCell_same wn g6 2 _ _ (.int .i64 r) H6
        have h9 := h0
        simp only [List.setIfInBounds_toArray, List.set_cons_zero, List.set_cons_succ] at h9
        exact ps_scal H5 H6 Lp Os hd hs AP CU KP b2 b3 hg h5 h6 ((Keeps.refl (· = g6) _).set (p := ⟨g6, 2, none⟩) rfl (.int .i64 r)) h9
      · go_wp2_with
          (go_at_call 61
           refine (l1From_any g (-1) 7 _ CU (by omega) (by omega) (by omega) (by omega)).mono ?_
           rintro e wn ⟨r, rfl, -, -, CU2, hk⟩
           replace H5 := (hk.block _ (Array.getElem?_eq_some_iff.1 H5).1 (by show ¬ g5 = g; omega)).trans H5
           replace H6 := (hk.block _ (Array.getElem?_eq_some_iff.1 H6).1 (by show ¬ g6 = g; omega)).trans H6
           replace b2 := (hk.block _ (Array.getElem?_eq_some_iff.1 b2).1 (by show ¬ w.heap.size = g; omega)).trans b2
           replace b3 := (hk.block _ (Array.getElem?_eq_some_iff.1 b3).1 (by show ¬ w.heap.size + 1 = g; omega)).trans b3
           replace Lp := Lp.keeps hk HG.out (by decide)
           replace Os := Os.keepsT hk HG.out (by decide)
           replace KP := KP.trans hk
           obtain ⟨gcs2, hgc2⟩ := CU2.cells
           replace HG := Lib.hid hgc2
           replace CU := CU2
           clear hk CU2 hgc2
           have hC6 : ∀ o, wn.cell? ⟨g6, o, none⟩ = (stC Y0 Y1 Y2 Y3 s.pods.length f0 s.mnts.length f1 s.devs.length f2 s.lks.length f3 s.ph s.co s.ck s.bo s.ba s.lb s.gd s.pr)[o]? := fun o => cell_of_row _ _ _ _ _ _ H6
           have hF6 : ∀ o, wn.frozen? ⟨g6, o, none⟩ = false := fun o => frozen_of_row _ _ _ _ _ H6
           skip)
        go_meet
        have h0 := heap_setCell_same wn g6 4 _ _ (.int .i64 r) H6
        have h9 := h0
        simp only [List.setIfInBounds_toArray, List.set_cons_zero, List.set_cons_succ] at h9
        exact ps_scal H5 H6 Lp Os hd hs AP CU KP b2 b3 hg h5 h6 ((Keeps.refl (· = g6) _).set (p := ⟨g6, 4, none⟩) rfl (.int .i64 r)) h9
      · have P3 := Os.rows_.2.2.2
        have hz6 := (Array.getElem?_eq_some_iff.1 H6).1
        go_upto_region 16 with fail
        have hc0 := CU.below (Below.refl _ _).drew
        have hQ0 : ∀ o, wx.drew.cell? ⟨g6, o, none⟩ = (stC Y0 Y1 Y2 Y3 s.pods.length f0 s.mnts.length f1 s.devs.length f2 s.lks.length f3 s.ph s.co s.ck s.bo s.ba s.lb s.gd s.pr)[o]? := hC6
        clear P3
        go_region_law (first
          | (have hq := hc0
             clear hq
             go_simp
             go_at_call 61
             refine (l1From_any g (-1) 8 _ hc0 (by omega) (by omega) (by omega) (by omega)).mono ?_
             rintro e wn ⟨r, rfl, -, -, CU2, hk0⟩
             have hk : Keeps (· = g) wx wn := (Keeps.of_below (Below.refl _ wx).drew).trans hk0
             clear hk0 hc0 hQ0
             replace H5 := (hk.block _ (Array.getElem?_eq_some_iff.1 H5).1 (by show ¬ g5 = g; omega)).trans H5
             replace H6 := (hk.block _ (Array.getElem?_eq_some_iff.1 H6).1 (by show ¬ g6 = g; omega)).trans H6
             replace b2 := (hk.block _ (Array.getElem?_eq_some_iff.1 b2).1 (by show ¬ w.heap.size = g; omega)).trans b2
             replace b3 := (hk.block _ (Array.getElem?_eq_some_iff.1 b3).1 (by show ¬ w.heap.size + 1 = g; omega)).trans b3
             replace Lp := Lp.keeps hk HG.out (by decide)
             replace Os := Os.keepsT hk HG.out (by decide)
             replace KP := KP.trans hk
             obtain ⟨gcs2, hgc2⟩ := CU2.cells
             replace HG := Lib.hid hgc2
             replace CU := CU2
             clear hk CU2 hgc2
             have hC6 : ∀ o, wn.cell? ⟨g6, o, none⟩ = (stC Y0 Y1 Y2 Y3 s.pods.length f0 s.mnts.length f1 s.devs.length f2 s.lks.length f3 s.ph s.co s.ck s.bo s.ba s.lb s.gd s.pr)[o]? := fun o => cell_of_row _ _ _ _ _ _ H6
             have hF6 : ∀ o, wn.frozen? ⟨g6, o, none⟩ = false := fun o => frozen_of_row _ _ _ _ _ H6
             have P3 := Os.rows_.2.2.2
             have hlw := Nat.le_of_lt (Array.getElem?_eq_some_iff.1 b2).1
             have x6 := (Array.getElem?_eq_some_iff.1 H6).1
             have hA6 : ∀ o, (wn.alloc (.cells #[.int .i64 r] 2)).cell? ⟨g6, o, none⟩ = (stC Y0 Y1 Y2 Y3 s.pods.length f0 s.mnts.length f1 s.devs.length f2 s.lks.length f3 s.ph s.co s.ck s.bo s.ba s.lb s.gd s.pr)[o]? := fun o => (Below.cell (p := ⟨g6, o, none⟩) ((Below.refl _ _).alloc (Nat.le_refl _) _) x6).trans (hC6 o))
          | (refine lks_step P3 h12 hlw r (by rfl) _ _ (by rfl) (by rfl) (by rfl) ?_
             intro gg cap w6 P0 kk hgg
             have H69 := (kk.block g6 (Array.getElem?_eq_some_iff.1 H6).1 (fun e => row_apart P3 H6 (by decide) g6 e rfl)).trans H6
             have hC9 : ∀ o, w6.cell? ⟨g6, o, none⟩ = (stC Y0 Y1 Y2 Y3 s.pods.length f0 s.mnts.length f1 s.devs.length f2 s.lks.length f3 s.ph s.co s.ck s.bo s.ba s.lb s.gd s.pr)[o]? := fun o => cell_of_row _ _ _ _ _ _ H69
             have hF9 : ∀ o, w6.frozen? ⟨g6, o, none⟩ = false := fun o => frozen_of_row _ _ _ _ _ H69
             clear hA6))
        all_goals
          go_wp2_with fail
          go_meet
          exact ps_lks H5 H6 Lp Os hd hs h12 AP CU KP b2 b3 hg h5 h6 kk P0 (by simp) hgg
      · go_wp2_with
          (go_at_call 65
           refine (l1Below_any g 4 _ CU (by omega) (by omega)).mono ?_
           rintro e wn ⟨r, rfl, -, -, CU2, hk⟩
           replace H5 := (hk.block _ (Array.getElem?_eq_some_iff.1 H5).1 (by show ¬ g5 = g; omega)).trans H5
           replace H6 := (hk.block _ (Array.getElem?_eq_some_iff.1 H6).1 (by show ¬ g6 = g; omega)).trans H6
           replace b2 := (hk.block _ (Array.getElem?_eq_some_iff.1 b2).1 (by show ¬ w.heap.size = g; omega)).trans b2
           replace b3 := (hk.block _ (Array.getElem?_eq_some_iff.1 b3).1 (by show ¬ w.heap.size + 1 = g; omega)).trans b3
           replace Lp := Lp.keeps hk HG.out (by decide)
           replace Os := Os.keepsT hk HG.out (by decide)
           replace KP := KP.trans hk
           obtain ⟨gcs2, hgc2⟩ := CU2.cells
           replace HG := Lib.hid hgc2
           replace CU := CU2
           clear hk CU2 hgc2
           have hC6 : ∀ o, wn.cell? ⟨g6, o, none⟩ = (stC Y0 Y1 Y2 Y3 s.pods.length f0 s.mnts.length f1 s.devs.length f2 s.lks.length f3 s.ph s.co s.ck s.bo s.ba s.lb s.gd s.pr)[o]? := fun o => cell_of_row _ _ _ _ _ _ H6
           have hF6 : ∀ o, wn.frozen? ⟨g6, o, none⟩ = false := fun o => frozen_of_row _ _ _ _ _ H6
           skip)
        go_meet
        have h0 := heap_setCell_same wn g6 10 _ _ (.int .i64 r) H6
        have h9 := h0
        simp only [List.setIfInBounds_toArray, List.set_cons_zero, List.set_cons_succ] at h9
        exact ps_scal H5 H6 Lp Os hd hs AP CU KP b2 b3 hg h5 h6 ((Keeps.refl (· = g6) _).set (p := ⟨g6, 10, none⟩) rfl (.int .i64 r)) h9
      · go_wp2_with
          (go_at_call 65
           refine (l1Below_any g 9 _ CU (by omega) (by omega)).mono ?_
           rintro e wn ⟨r, rfl, -, -, CU2, hk⟩
           replace H5 := (hk.block _ (Array.getElem?_eq_some_iff.1 H5).1 (by show ¬ g5 = g; omega)).trans H5
           replace H6 := (hk.block _ (Array.getElem?_eq_some_iff.1 H6).1 (by show ¬ g6 = g; omega)).trans H6
           replace b2 := (hk.block _ (Array.getElem?_eq_some_iff.1 b2).1 (by show ¬ w.heap.size = g; omega)).trans b2
           replace b3 := (hk.block _ (Array.getElem?_eq_some_iff.1 b3).1 (by show ¬ w.heap.size + 1 = g; omega)).trans b3
           replace Lp := Lp.keeps hk HG.out (by decide)
           replace Os := Os.keepsT hk HG.out (by decide)
           replace KP := KP.trans hk
           obtain ⟨gcs2, hgc2⟩ := CU2.cells
           replace HG := Lib.hid hgc2
           replace CU := CU2
           clear hk CU2 hgc2
           have hC6 : ∀ o, wn.cell? ⟨g6, o, none⟩ = (stC Y0 Y1 Y2 Y3 s.pods.length f0 s.mnts.length f1 s.devs.length f2 s.lks.length f3 s.ph s.co s.ck s.bo s.ba s.lb s.gd s.pr)[o]? := fun o => cell_of_row _ _ _ _ _ _ H6
           have hF6 : ∀ o, wn.frozen? ⟨g6, o, none⟩ = false := fun o => frozen_of_row _ _ _ _ _ H6
           skip)
        go_meet
        have h0 := heap_setCell_same wn g6 11 _ _ (.int .i64 r) H6
        have h9 := h0
        simp only [List.setIfInBounds_toArray, List.set_cons_zero, List.set_cons_succ] at h9
        exact ps_scal H5 H6 Lp Os hd hs AP CU KP b2 b3 hg h5 h6 ((Keeps.refl (· = g6) _).set (p := ⟨g6, 11, none⟩) rfl (.int .i64 r)) h9
      · by_cases hp : 0 < s.pods.length
        · obtain ⟨A, c, gr, hv, hA, -, -, hlt, -⟩ := open_row Os.rows_.1
          injection hv with hv1 hv2 hv3
          subst hv1 hv3
          obtain rfl := hA hp
          have hlr := hlt hp
          obtain ⟨csr, hgr⟩ := row_block Os.rows_.1
          have n6 : ¬ gr = g6 := fun e => ne_types hgr H6 (by decide) e.symm
          clear hA hlt hgr hv2
          have hpi : ((s.pods.length : Nat) : Int) > 0 := by omega
          have h1m := hs.s0
          go_upto_region 23 with fail
          go_region_held3 (fun W => ∀ o, W.cell? ⟨g6, o, none⟩ = (stC (some ⟨gr, 0, none⟩) Y1 Y2 Y3 s.pods.length f0 s.mnts.length f1 s.devs.length f2 s.lks.length f3 s.ph s.co s.ck s.bo s.ba s.lb s.gd s.pr)[o]?)
            (first | exact hC6 | exact fun o => (cell_far n6).trans (hC6 o))
            (first
            | (go_at_call 61
               refine (l1From_any g (-1) 7 _ (CU.below (Below.refl _ _).drew) (by omega) (by omega) (by omega) (by omega)).mono ?_
               rintro e wn ⟨r, rfl, -, -, CU2, hk0⟩
               have hk : Keeps (· = g) wx wn := (Keeps.of_below (Below.refl _ wx).drew).trans hk0
               clear hk0
               replace H5 := (hk.block _ (Array.getElem?_eq_some_iff.1 H5).1 (by show ¬ g5 = g; omega)).trans H5
               replace H6 := (hk.block _ (Array.getElem?_eq_some_iff.1 H6).1 (by show ¬ g6 = g; omega)).trans H6
               replace b2 := (hk.block _ (Array.getElem?_eq_some_iff.1 b2).1 (by show ¬ w.heap.size = g; omega)).trans b2
               replace b3 := (hk.block _ (Array.getElem?_eq_some_iff.1 b3).1 (by show ¬ w.heap.size + 1 = g; omega)).trans b3
               replace Lp := Lp.keeps hk HG.out (by decide)
               replace Os := Os.keepsT hk HG.out (by decide)
               replace KP := KP.trans hk
               obtain ⟨gcs2, hgc2⟩ := CU2.cells
               replace HG := Lib.hid hgc2
               replace CU := CU2
               clear hk CU2 hgc2
               have hC6 : ∀ o, wn.cell? ⟨g6, o, none⟩ = (stC (some ⟨gr, 0, none⟩) Y1 Y2 Y3 s.pods.length f0 s.mnts.length f1 s.devs.length f2 s.lks.length f3 s.ph s.co s.ck s.bo s.ba s.lb s.gd s.pr)[o]? := fun o => cell_of_row _ _ _ _ _ _ H6
               have hF6 : ∀ o, wn.frozen? ⟨g6, o, none⟩ = false := fun o => frozen_of_row _ _ _ _ _ H6
               have P0 := Os.rows_.1
               have c0 : wn.cell? ⟨gr, 0, none⟩ = some (.int .i64 (podA s.pods 0).1) := (World.ownsRow.cellAt P0 0 (by omega)).trans (podCs_at s.pods hp).1
               have z0 := World.ownsRow.frozenAt P0 0))
          go_wp2_with fail
          go_meet
          exact ps_pods H5 H6 Lp Os hd hs AP CU KP b2 b3 hg ((Keeps.refl (· = gr) _).set (p := ⟨gr, 0, none⟩) rfl _) ((congrArg (World.ownsRow _ _ _ _ _ _) (podCs_set0 s.pods r)).mpr (World.ownsRow.stored P0 0 _).1) (List.length_set ..)
        · have hpi : ¬ ((s.pods.length : Nat) : Int) > 0 := by omega
          have h1m := hs.s0
          go_wp2_with fail
          go_meet
          exact ⟨⟨Q0, Q1, Q2, Q3, e0, e1, e2, e3, d, Y0, Y1, Y2, Y3, f0, f1, f2, f3, s, H5, H6, Lp, Os, hd, hs, AP⟩, CU, KP, b2, b3⟩
      · by_cases hp : 0 < s.mnts.length
        · obtain ⟨A, c, gr, hv, hA, -, -, hlt, -⟩ := open_row Os.rows_.2.1
          injection hv with hv1 hv2 hv3
          subst hv1 hv3
          obtain rfl := hA hp
          have hlr := hlt hp
          obtain ⟨csr, hgr⟩ := row_block Os.rows_.2.1
          have n6 : ¬ gr = g6 := fun e => ne_types hgr H6 (by decide) e.symm
          clear hA hlt hgr hv2
          have hpi : ((s.mnts.length : Nat) : Int) > 0 := by omega
          have h1m := hs.s1
          go_upto_region 26 with fail
          go_region_held3 (fun W => ∀ o, W.cell? ⟨g6, o, none⟩ = (stC Y0 (some ⟨gr, 0, none⟩) Y2 Y3 s.pods.length f0 s.mnts.length f1 s.devs.length f2 s.lks.length f3 s.ph s.co s.ck s.bo s.ba s.lb s.gd s.pr)[o]?)
            (first | exact hC6 | exact fun o => (cell_far n6).trans (hC6 o))
            (first
            | (go_at_call 61
               refine (l1From_any g (-1) 6 _ (CU.below (Below.refl _ _).drew) (by omega) (by omega) (by omega) (by omega)).mono ?_
               rintro e wn ⟨r, rfl, -, -, CU2, hk0⟩
               have hk : Keeps (· = g) wx wn := (Keeps.of_below (Below.refl _ wx).drew).trans hk0
               clear hk0
               replace H5 := (hk.block _ (Array.getElem?_eq_some_iff.1 H5).1 (by show ¬ g5 = g; omega)).trans H5
               replace H6 := (hk.block _ (Array.getElem?_eq_some_iff.1 H6).1 (by show ¬ g6 = g; omega)).trans H6
               replace b2 := (hk.block _ (Array.getElem?_eq_some_iff.1 b2).1 (by show ¬ w.heap.size = g; omega)).trans b2
               replace b3 := (hk.block _ (Array.getElem?_eq_some_iff.1 b3).1 (by show ¬ w.heap.size + 1 = g; omega)).trans b3
               replace Lp := Lp.keeps hk HG.out (by decide)
               replace Os := Os.keepsT hk HG.out (by decide)
               replace KP := KP.trans hk
               obtain ⟨gcs2, hgc2⟩ := CU2.cells
               replace HG := Lib.hid hgc2
               replace CU := CU2
               clear hk CU2 hgc2
               have hC6 : ∀ o, wn.cell? ⟨g6, o, none⟩ = (stC Y0 (some ⟨gr, 0, none⟩) Y2 Y3 s.pods.length f0 s.mnts.length f1 s.devs.length f2 s.lks.length f3 s.ph s.co s.ck s.bo s.ba s.lb s.gd s.pr)[o]? := fun o => cell_of_row _ _ _ _ _ _ H6
               have hF6 : ∀ o, wn.frozen? ⟨g6, o, none⟩ = false := fun o => frozen_of_row _ _ _ _ _ H6
               have P0 := Os.rows_.2.1
               have c0 : wn.cell? ⟨gr, 1, none⟩ = some (.int .i64 (mntA s.mnts 0).2) := (World.ownsRow.cellAt P0 1 (by omega)).trans (mntCs_at s.mnts hp).2
               have z0 := World.ownsRow.frozenAt P0 1))
          go_wp2_with fail
          go_meet
          exact ps_mnts H5 H6 Lp Os hd hs AP CU KP b2 b3 hg ((Keeps.refl (· = gr) _).set (p := ⟨gr, 1, none⟩) rfl _) ((congrArg (World.ownsRow _ _ _ _ _ _) (mntCs_set0 s.mnts r)).mpr (World.ownsRow.stored P0 1 _).1) (List.length_set ..)
        · have hpi : ¬ ((s.mnts.length : Nat) : Int) > 0 := by omega
          have h1m := hs.s1
          go_wp2_with fail
          go_meet
          exact ⟨⟨Q0, Q1, Q2, Q3, e0, e1, e2, e3, d, Y0, Y1, Y2, Y3, f0, f1, f2, f3, s, H5, H6, Lp, Os, hd, hs, AP⟩, CU, KP, b2, b3⟩
      · have AK := Os.rows_.2.2.2
        go_wp2_with (first
          | (have hq := Lp9
             clear hq
             (with_reducible refine store_plan (x := 5) (y := 88) (g := g5) (cs := planC N0 N1 N2 N3 d9.n0 m0 d9.n1 m1 d9.n2 m2 d9.n3 m3 d9.l d9.p d9.t) ?_ ?_ H5 ?_ ?_ ?_ ?_)
             · rfl
             · rfl
             · exact HIP.out
             · rfl
             · simp [Value.oneCell'])
          | (go_at_call 80
             refine (HA g _ CU).mono ?_
             rintro e wn ⟨v0, v1, v2, v3, d9, rfl, o0, o1, o2, o3, CU2, hk, hd9⟩
             have AP9 := apart_new AK o1
             have Lp9 : Lists wn w.heap.size v0 v1 v2 v3 d9 := Lists.base ⟨o0, o1, o2, o3⟩ KP.size
             obtain ⟨N0, m0, rfl, -, -⟩ := o0.formR
             obtain ⟨N1, m1, rfl, -, -⟩ := o1.formR
             obtain ⟨N2, m2, rfl, -, -⟩ := o2.formR
             obtain ⟨N3, m3, rfl, -, -⟩ := o3.formR
             clear o0 o1 o2 o3 AK
             replace H5 := (hk.block _ (Array.getElem?_eq_some_iff.1 H5).1 (by show ¬ g5 = g; omega)).trans H5
             replace H6 := (hk.block _ (Array.getElem?_eq_some_iff.1 H6).1 (by show ¬ g6 = g; omega)).trans H6
             replace b2 := (hk.block _ (Array.getElem?_eq_some_iff.1 b2).1 (by show ¬ w.heap.size = g; omega)).trans b2
             replace b3 := (hk.block _ (Array.getElem?_eq_some_iff.1 b3).1 (by show ¬ w.heap.size + 1 = g; omega)).trans b3
             replace Lp := Lp.keeps hk HG.out (by decide)
             replace Os := Os.keepsT hk HG.out (by decide)
             replace KP := KP.trans hk
             obtain ⟨gcs2, hgc2⟩ := CU2.cells
             replace HG := Lib.hid hgc2
             replace CU := CU2
             clear hk CU2 hgc2
             have hC6 : ∀ o, wn.cell? ⟨g6, o, none⟩ = (stC Y0 Y1 Y2 Y3 s.pods.length f0 s.mnts.length f1 s.devs.length f2 s.lks.length f3 s.ph s.co s.ck s.bo s.ba s.lb s.gd s.pr)[o]? := fun o => cell_of_row _ _ _ _ _ _ H6
             have hF6 : ∀ o, wn.frozen? ⟨g6, o, none⟩ = false := fun o => frozen_of_row _ _ _ _ _ H6
             clear hC6 hF6))
        go_meet
        have KS : Keeps (· = g5) wn (wn.setRow g5 (planC N0 N1 N2 N3 d9.n0 m0 d9.n1 m1 d9.n2 m2 d9.n3 m3 d9.l d9.p d9.t)) := keeps_setRow ..
        exact ⟨⟨N0, N1, N2, N3, m0, m1, m2, m3, d9, Y0, Y1, Y2, Y3, f0, f1, f2, f3, s, setRow_heap _ _ _ _ _ _ H5, (setRow_other _ _ _ _ (by omega)).trans H6, Lp9.keeps KS H5 (by decide), Os.keepsT KS H5 (by decide), ⟨by omega, by omega, by omega, by omega⟩, hs, AP9⟩,
          CU.keeps KS (fun b hb e => by omega), KP.row (by omega), (setRow_other _ _ _ _ (by omega)).trans b2, (setRow_other _ _ _ _ (by omega)).trans b3⟩
  case rest =>
    obtain ⟨⟨Q0, Q1, Q2, Q3, e0, e1, e2, e3, d, Y0, Y1, Y2, Y3, f0, f1, f2, f3, s, H5, H6, Lp, Os, hd, hs, -⟩, CU, KP, b2, b3⟩ := hcut
    go_upto_region 29 with fail
    refine wp_region_noPanic ?_
    refine wp_region_held_drew (S := fun W => (∀ o, W.cell? ⟨g5, o, none⟩ = (planC Q0 Q1 Q2 Q3 d.n0 e0 d.n1 e1 d.n2 e2 d.n3 e3 d.l d.p d.t)[o]?) ∧ (∀ o, W.cell? ⟨g6, o, none⟩ = (stC Y0 Y1 Y2 Y3 s.pods.length f0 s.mnts.length f1 s.devs.length f2 s.lks.length f3 s.ph s.co s.ck s.bo s.ba s.lb s.gd s.pr)[o]?)) (by kernel_rfl) ⟨fun o => cell_of_row _ _ _ _ _ _ (show wc.drew.heap[g5]? = _ from H5), fun o => cell_of_row _ _ _ _ _ _ (show wc.drew.heap[g6]? = _ from H6)⟩ (fun hS => ?_)
    rw [← heap_drew wc] at H5 H6 b2 b3
    replace Lp := Lp.below (Below.refl _ _).drew
    replace Os := Os.below (Below.refl _ _).drew
    replace CU := CU.below (Below.refl _ _).drew
    replace KP := KP.drew
    generalize wc.drew = wd at H5 H6 b2 b3 Lp Os CU KP hS ⊢
    have hS0 := hS
    refine wpAnyH_take (i := 0) (v := ?_) rfl (by kernel_rfl) (by kernel_rfl) (by kernel_rfl) (fun _ _ _ h => h) (Or.inl ⟨by rfl, ?_⟩) hS ?_
    rotate_left 1
    · rintro w ⟨hS1, hS2⟩
      go_simp
      try with_reducible rfl
    change wpAnyH _ _ _ _ _ _ _ (Act.put _ (some 89) _) _
    dsimp only [Act.put]
    refine wpAnyH_take (i := 1) (v := ?_) rfl (by kernel_rfl) (by kernel_rfl) (by kernel_rfl) (fun _ _ _ h => h) (Or.inl ⟨by rfl, ?_⟩) hS ?_
    rotate_left 1
    · rintro w ⟨hS1, hS2⟩
      go_simp
      try with_reducible rfl
    change wpAnyH _ _ _ _ _ _ _ (Act.put _ (some 90) _) _
    dsimp only [Act.put]
    refine wpAnyH_ready (rs := [2]) (by kernel_rfl) (by simp) ?_
    refine AllReadyH.cons rfl (fun K' hK => ?_) AllReadyH.nil
    rw [if_pos (by rfl)]
    refine wp_store_row 29 (.tmp 2) (.tmp 89) rfl w.heap.size (planC Q0 Q1 Q2 Q3 d.n0 e0 d.n1 e1 d.n2 e2 d.n3 e3 d.l d.p d.t) rfl rfl 29 _ b2 HIP.out rfl (by simp [Value.oneCell']) ?_
    have KS : Keeps (· = w.heap.size) wd (wd.setRow w.heap.size (planC Q0 Q1 Q2 Q3 d.n0 e0 d.n1 e1 d.n2 e2 d.n3 e3 d.l d.p d.t)) := keeps_setRow ..
    refine hK.out _ _ ⟨fun o => (KS.cell (p := ⟨g5, o, none⟩) (Array.getElem?_eq_some_iff.1 H5).1 (by show ¬ g5 = w.heap.size; omega)).trans (hS0.1 o), fun o => (KS.cell (p := ⟨g6, o, none⟩) (Array.getElem?_eq_some_iff.1 H6).1 (by show ¬ g6 = w.heap.size; omega)).trans (hS0.2 o)⟩ (fun hS => ?_)
    clear hK K'
    have r2 := setRow_heap wd w.heap.size _ (planC Q0 Q1 Q2 Q3 d.n0 e0 d.n1 e1 d.n2 e2 d.n3 e3 d.l d.p d.t) _ _ b2
    replace Lp := Lp.keeps KS b2 (by decide)
    replace Os := Os.keepsT KS b2 (by decide)
    replace CU := CU.keeps KS (fun b hb e => by omega)
    replace KP := KP.row (g3 := w.heap.size) (cs := planC Q0 Q1 Q2 Q3 d.n0 e0 d.n1 e1 d.n2 e2 d.n3 e3 d.l d.p d.t) (Nat.le_refl _)
    replace b3 := (setRow_other wd w.heap.size _ (planC Q0 Q1 Q2 Q3 d.n0 e0 d.n1 e1 d.n2 e2 d.n3 e3 d.l d.p d.t) (Nat.succ_ne_self _)).trans b3
    replace H5 := (KS.block _ (Array.getElem?_eq_some_iff.1 H5).1 (by show ¬ g5 = w.heap.size; omega)).trans H5
    replace H6 := (KS.block _ (Array.getElem?_eq_some_iff.1 H6).1 (by show ¬ g6 = w.heap.size; omega)).trans H6
    clear KS b2 hS0
    generalize wd.setRow w.heap.size (planC Q0 Q1 Q2 Q3 d.n0 e0 d.n1 e1 d.n2 e2 d.n3 e3 d.l d.p d.t) = we at r2 Lp Os CU KP b3 H5 H6 hS ⊢
    refine wpAnyH_ready (rs := [3]) (by kernel_rfl) (by simp) ?_
    refine AllReadyH.cons rfl (fun K' hK => ?_) AllReadyH.nil
    rw [if_pos (by rfl)]
    refine wp_store_row 38 (.tmp 3) (.tmp 90) rfl (w.heap.size + 1) (stC Y0 Y1 Y2 Y3 s.pods.length f0 s.mnts.length f1 s.devs.length f2 s.lks.length f3 s.ph s.co s.ck s.bo s.ba s.lb s.gd s.pr) rfl rfl 38 _ b3 HIS.out rfl (by simp [Value.oneCell']) ?_
    have KS : Keeps (· = w.heap.size + 1) we (we.setRow (w.heap.size + 1) (stC Y0 Y1 Y2 Y3 s.pods.length f0 s.mnts.length f1 s.devs.length f2 s.lks.length f3 s.ph s.co s.ck s.bo s.ba s.lb s.gd s.pr)) := keeps_setRow ..
    refine hK.out _ _ ⟨fun o => (KS.cell (p := ⟨g5, o, none⟩) (Array.getElem?_eq_some_iff.1 H5).1 (by show ¬ g5 = w.heap.size + 1; omega)).trans (hS.1 o), fun o => (KS.cell (p := ⟨g6, o, none⟩) (Array.getElem?_eq_some_iff.1 H6).1 (by show ¬ g6 = w.heap.size + 1; omega)).trans (hS.2 o)⟩ (fun hS => ?_)
    clear hK K'
    have r3 := setRow_heap we (w.heap.size + 1) _ (stC Y0 Y1 Y2 Y3 s.pods.length f0 s.mnts.length f1 s.devs.length f2 s.lks.length f3 s.ph s.co s.ck s.bo s.ba s.lb s.gd s.pr) _ _ b3
    replace r2 := (setRow_other we (w.heap.size + 1) w.heap.size (stC Y0 Y1 Y2 Y3 s.pods.length f0 s.mnts.length f1 s.devs.length f2 s.lks.length f3 s.ph s.co s.ck s.bo s.ba s.lb s.gd s.pr) (by omega)).trans r2
    refine wpAnyH_done (by kernel_rfl) ?_ _
    refine NoPanic.normal ?_
    go_wp2_with fail
    exact bodyPost_ret (v := .tuple #[.agg (planC Q0 Q1 Q2 Q3 d.n0 e0 d.n1 e1 d.n2 e2 d.n3 e3 d.l d.p d.t), .agg (stC Y0 Y1 Y2 Y3 s.pods.length f0 s.mnts.length f1 s.devs.length f2 s.lks.length f3 s.ph s.co s.ck s.bo s.ba s.lb s.gd s.pr)]) (results_two_cells Tryz.results44 _ _ _ _ _ _ _ _ _ _ _ _ rfl rfl r2 r3 Tryz.underlying29 rfl HIP.out Tryz.underlying38 rfl HIS.out) rfl ⟨_, _, _, _, d, _, s, rfl, Lp.keeps KS b3 (by decide), Os.keepsT KS b3 (by decide), hd, hs, CU.keeps KS (fun b hb e => by omega), KP.row (Nat.le_succ _)⟩
end Go.Proofs.YtdkmhaghnfhajaaGreat
