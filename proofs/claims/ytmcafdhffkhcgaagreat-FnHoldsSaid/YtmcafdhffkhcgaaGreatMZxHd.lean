/-
  The model's draws of a plan, a state and a number of a mount or a device (chapter 9).
-/
import Derived.Test.YtmcafdhffkhcgaaGreatMZ10
import Derived.Test.YtmcafdhffkhcgaaGreatMZ4
import Derived.Test.YtmcafdhffkhcgaaGreatMZ0
import Derived.Deep.DeepCutAuto
/- Hd -/
set_option linter.unusedVariables false
namespace Go.Proofs.YtmcafdhffkhcgaaGreat
open Go.RowKit

def GivesPSN (w : World) (e : Ending) (w' : World) : Prop :=
  ∃ v0 v1 v2 v3 d vs s k, e = .returned (.tuple #[.agg #[v0, v1, v2, v3, .int .i64 d.l, .int .i64 d.p, .int .i64 d.t], vs, .int .i64 k]) ∧ Lists w' w.heap.size v0 v1 v2 v3 d ∧ OwnSt w' w.heap.size vs s ∧ PlSmall d ∧ StSmall s ∧ Below w.heap.size w w'
theorem results_cells_num {P : Program} {fn : Func} {p q r : Tmp} {ty ty' : TypeId} (h : fn.results = #[.cell p ty, .cell q ty', .tmp r]) (tmps : Array Value) (w : World) (g g' : Nat) (t t' : TypeId) (cs cs' : Array Value) (fr fr' : Nat × Nat) (d d' : TypeDesc) (u : Value)
    (hp : tmps.getD p undef = .pointer (some ⟨g, 0, none⟩)) (hq : tmps.getD q undef = .pointer (some ⟨g', 0, none⟩)) (hr : tmps.getD r undef = u) (hg : w.heap[g]? = some (.cells cs t fr)) (hg' : w.heap[g']? = some (.cells cs' t' fr'))
    (hu : P.underlying ty = some d) (hd : (match d with | .struct _ | .array _ _ => true | _ => false) = true) (hi : (P.info? ty).map (·.size) = some cs.size)
    (hu' : P.underlying ty' = some d') (hd' : (match d' with | .struct _ | .array _ _ => true | _ => false) = true) (hi' : (P.info? ty').map (·.size) = some cs'.size) :
    (results fn tmps).run P w = .ok (.tuple #[.agg cs, .agg cs', u]) w := by
  have hp' : tmps[p]?.getD undef = .pointer (some ⟨g, 0, none⟩) := by simpa using hp
  have hq' : tmps[q]?.getD undef = .pointer (some ⟨g', 0, none⟩) := by simpa using hq
  have hr' : tmps[r]?.getD undef = u := by simpa using hr
  simp [results, h, hp', hq', hr', asAddr, run_loadVar_row w g t ty cs fr d hg hu hd hi, run_loadVar_row w g' t' ty' cs' fr' d' hg' hu' hd' hi']
theorem OwnSt.podRow {W : World} {B : Nat} {Y0 Y1 Y2 Y3 : Option Addr} {n0 f0 n1 f1 n2 f2 n3 f3 : Nat} {ph ck bo ba lb gd pr : Int} {co : Bool} {s : StD} (h : OwnSt W B (.agg (stC Y0 Y1 Y2 Y3 n0 f0 n1 f1 n2 f2 n3 f3 ph co ck bo ba lb gd pr)) s) {i : Nat} (hi : i < s.pods.length) :
    ∃ gr, Y0 = some ⟨gr, 0, none⟩ ∧ B ≤ gr ∧ gr < W.heap.size ∧ (∃ cs, W.heap[gr]? = some (.cells cs 41)) ∧ RowV W gr (podCs s.pods) := by
  obtain ⟨u0, u1, u2, u3, hy, z0, z1, z2, z3⟩ := h.it
  injection hy with hy
  obtain rfl : Value.slice Y0 n0 f0 = u0 := Option.some.inj (show some _ = some u0 from congrArg (fun a : Array Value => a[6]?) hy)
  obtain ⟨A, c, g, hv, hA, -, hBg, hgz, R, -, -⟩ := open_row z0
  injection hv with hv0 hv1 hv2
  obtain rfl := hA (by omega)
  subst hv0 hv1 hv2
  exact ⟨g, rfl, hBg, hgz (by omega), row_block z0, R⟩
theorem OwnSt.mntRow {W : World} {B : Nat} {Y0 Y1 Y2 Y3 : Option Addr} {n0 f0 n1 f1 n2 f2 n3 f3 : Nat} {ph ck bo ba lb gd pr : Int} {co : Bool} {s : StD} (h : OwnSt W B (.agg (stC Y0 Y1 Y2 Y3 n0 f0 n1 f1 n2 f2 n3 f3 ph co ck bo ba lb gd pr)) s) {i : Nat} (hi : i < s.mnts.length) :
    ∃ gr, Y1 = some ⟨gr, 0, none⟩ ∧ B ≤ gr ∧ gr < W.heap.size ∧ (∃ cs, W.heap[gr]? = some (.cells cs 45)) ∧ RowV W gr (mntCs s.mnts) := by
  obtain ⟨u0, u1, u2, u3, hy, z0, z1, z2, z3⟩ := h.it
  injection hy with hy
  obtain rfl : Value.slice Y1 n1 f1 = u1 := Option.some.inj (show some _ = some u1 from congrArg (fun a : Array Value => a[7]?) hy)
  obtain ⟨A, c, g, hv, hA, -, hBg, hgz, R, -, -⟩ := open_row z1
  injection hv with hv0 hv1 hv2
  obtain rfl := hA (by omega)
  subst hv0 hv1 hv2
  exact ⟨g, rfl, hBg, hgz (by omega), row_block z1, R⟩
theorem podCs_set1 (l : List (Int × Int)) {i : Nat} (hi : i < l.length) (r : Int) : podCs (l.set i (r, (podA l i).2)) = (podCs l).set (i * 2) (.int .i64 r) := by
  rw [podCs_set l hi]
  have h1 := (podCs_at l hi).2
  apply List.ext_getElem?
  intro j
  by_cases e : j = i * 2 + 1
  · subst e
    rw [List.getElem?_set_self (by rw [List.length_set, podCs_len]; omega), List.getElem?_set_ne (by omega), h1]
  · rw [List.getElem?_set_ne (by omega)]
theorem OwnSt.podSet {W : World} {B gr : Nat} {Y1 Y2 Y3 : Option Addr} {n0 f0 n1 f1 n2 f2 n3 f3 : Nat} {ph ck bo ba lb gd pr : Int} {co : Bool} {s : StD} (h : OwnSt W B (.agg (stC (some ⟨gr, 0, none⟩) Y1 Y2 Y3 n0 f0 n1 f1 n2 f2 n3 f3 ph co ck bo ba lb gd pr)) s) {i : Nat} (hi : i < s.pods.length) (r : Int) :
    OwnSt (W.setCell ⟨gr, i * 2, none⟩ (.int .i64 r)) B (.agg (stC (some ⟨gr, 0, none⟩) Y1 Y2 Y3 n0 f0 n1 f1 n2 f2 n3 f3 ph co ck bo ba lb gd pr)) ⟨s.ph, s.co, s.ck, s.bo, s.ba, s.lb, s.pods.set i (r, (podA s.pods i).2), s.mnts, s.devs, s.lks, s.gd, s.pr⟩ := by
  obtain ⟨u0, u1, u2, u3, hy, z0, z1, z2, z3⟩ := h.it
  have hy0 := hy
  injection hy with hy
  obtain rfl : Value.slice (some ⟨gr, 0, none⟩) n0 f0 = u0 := Option.some.inj (show some _ = some u0 from congrArg (fun a : Array Value => a[6]?) hy)
  have hnn : n0 = s.pods.length := by
    obtain ⟨A, c, g, hv, -⟩ := open_row z0
    injection hv
  subst hnn
  obtain ⟨cs, hgr⟩ := row_block z0
  have kk : Keeps (· = gr) W (W.setCell ⟨gr, i * 2, none⟩ (.int .i64 r)) := Keeps.set (S := (· = gr)) (Keeps.refl _ _) rfl _
  refine ⟨_, u1, u2, u3, hy0, ?_, ownsRow_keeps z1 kk (row_apart z1 hgr (by decide)), ownsRow_keeps z2 kk (row_apart z2 hgr (by decide)), ownsRow_keeps z3 kk (row_apart z3 hgr (by decide))⟩
  dsimp only
  rw [List.length_set, podCs_set1 _ hi]
  exact (World.ownsRow.stored z0 (i * 2) (.int .i64 r)).1
theorem OwnSt.mntSet {W : World} {B gr : Nat} {Y0 Y2 Y3 : Option Addr} {n0 f0 n1 f1 n2 f2 n3 f3 : Nat} {ph ck bo ba lb gd pr : Int} {co : Bool} {s : StD} (h : OwnSt W B (.agg (stC Y0 (some ⟨gr, 0, none⟩) Y2 Y3 n0 f0 n1 f1 n2 f2 n3 f3 ph co ck bo ba lb gd pr)) s) {i : Nat} (hi : i < s.mnts.length) :
    OwnSt ((W.setCell ⟨gr, i * 2, none⟩ (.bool false)).setCell ⟨gr, i * 2 + 1, none⟩ (.int .i64 0)) B (.agg (stC Y0 (some ⟨gr, 0, none⟩) Y2 Y3 n0 f0 n1 f1 n2 f2 n3 f3 ph co ck bo ba lb gd pr)) ⟨s.ph, s.co, s.ck, s.bo, s.ba, s.lb, s.pods, s.mnts.set i (false, 0), s.devs, s.lks, s.gd, s.pr⟩ := by
  obtain ⟨u0, u1, u2, u3, hy, z0, z1, z2, z3⟩ := h.it
  have hy0 := hy
  injection hy with hy
  obtain rfl : Value.slice (some ⟨gr, 0, none⟩) n1 f1 = u1 := Option.some.inj (show some _ = some u1 from congrArg (fun a : Array Value => a[7]?) hy)
  have hnn : n1 = s.mnts.length := by
    obtain ⟨A, c, g, hv, -⟩ := open_row z1
    injection hv
  subst hnn
  obtain ⟨cs, hgr⟩ := row_block z1
  have kk : Keeps (· = gr) W ((W.setCell ⟨gr, i * 2, none⟩ (.bool false)).setCell ⟨gr, i * 2 + 1, none⟩ (.int .i64 0)) := Keeps.set (S := (· = gr)) (Keeps.set (S := (· = gr)) (Keeps.refl _ _) rfl _) rfl _
  refine ⟨u0, _, u2, u3, hy0, ownsRow_keeps z0 kk (row_apart z0 hgr (by decide)), ?_, ownsRow_keeps z2 kk (row_apart z2 hgr (by decide)), ownsRow_keeps z3 kk (row_apart z3 hgr (by decide))⟩
  dsimp only
  rw [List.length_set, mntCs_set _ hi]
  exact (World.ownsRow.stored (World.ownsRow.stored z1 (i * 2) (.bool false)).1 (i * 2 + 1) (.int .i64 0)).1

set_option maxRecDepth 100000 in
set_option maxHeartbeats 8000000 in
theorem drawMayFree_any (A : Option Addr) (n c : Nat) (w : World) (hB : Bytes w w.heap.size A n) (hn : n ≤ 4096) : Calls Tryz.prog 11 #[.slice A n c] w (GivesPSN w) := by
  have HIP : Hid ((Tryz.prog.info? 32).map (·.size) = some 7) := Lib.hid (by kernel_rfl)
  have HIS : Hid ((Tryz.prog.info? 38).map (·.size) = some 12) := Lib.hid (by kernel_rfl)
  have b2 : ((w.alloc (.cells (planC none none none none 0 0 0 0 0 0 0 0 0 0 0) 32)).alloc (.cells (stC none none none none 0 0 0 0 0 0 0 0 0 false 0 0 0 0 0 0) 38)).heap[w.heap.size]? = some (.cells (planC none none none none 0 0 0 0 0 0 0 0 0 0 0) 32) := by
    have hb := (Below.refl (w.alloc (.cells (planC none none none none 0 0 0 0 0 0 0 0 0 0 0) 32)).heap.size (w.alloc (.cells (planC none none none none 0 0 0 0 0 0 0 0 0 0 0) 32))).alloc (Nat.le_refl _) (.cells (stC none none none none 0 0 0 0 0 0 0 0 0 false 0 0 0 0 0 0) 38)
    exact (hb.block w.heap.size (by simp)).trans (heap_alloc_new w _)
  have b3 := heap_alloc2_new w (.cells (planC none none none none 0 0 0 0 0 0 0 0 0 0 0) 32) (.cells (stC none none none none 0 0 0 0 0 0 0 0 0 false 0 0 0 0 0 0) 38)
  have KB : Below w.heap.size w ((w.alloc (.cells (planC none none none none 0 0 0 0 0 0 0 0 0 0 0) 32)).alloc (.cells (stC none none none none 0 0 0 0 0 0 0 0 0 false 0 0 0 0 0 0) 38)) := ((Below.refl _ _).alloc (Nat.le_refl _) _).alloc (by simp) _
  have HB := Lib.hid ((hB.below KB (Nat.le_refl _)).more KB.size)
  clear hB
  go_enter Tryz.func11, Tryz.ntmps11
  go_wp2_with fail
  generalize ((w.alloc (.cells (planC none none none none 0 0 0 0 0 0 0 0 0 0 0) 32)).alloc (.cells (stC none none none none 0 0 0 0 0 0 0 0 0 false 0 0 0 0 0 0) 38)) = w0 at b2 b3 KB HB ⊢
  refine (l1New_any A n c w0 HB.out hn).mono ?_
  rintro e w1 ⟨g, rfl, hg, hc1, K1⟩
  have hz3 := (Array.getElem?_eq_some_iff.1 b3).1
  replace b2 := (K1.block _ (Array.getElem?_eq_some_iff.1 b2).1).trans b2
  replace b3 := (K1.block _ (Array.getElem?_eq_some_iff.1 b3).1).trans b3
  replace KB := KB.trans (K1.mono KB.size)
  clear K1 HB
  go_wp2_with fail
  refine (l5DrawAny_any g w1 hc1).mono ?_
  rintro e w2 ⟨v0, v1, v2, v3, d, vs, s, rfl, Lp, Os, hd, hs, CU, hk⟩
  replace b2 := (hk.block _ (Array.getElem?_eq_some_iff.1 b2).1 (by show ¬ w.heap.size = g; omega)).trans b2
  replace b3 := (hk.block _ (Array.getElem?_eq_some_iff.1 b3).1 (by show ¬ w.heap.size + 1 = g; omega)).trans b3
  have hl2 : g < w2.heap.size := CU.lt
  have hz4 := (Array.getElem?_eq_some_iff.1 b3).1
  replace Lp := Lp.base KB.size
  have HG : ∀ r, rowsOf vs r → g < r := fun r hr => Nat.lt_of_lt_of_le hc1.lt (Os.blocks hr).1
  replace Os := Os.base KB.size
  replace KB := KB.trans (hk.below (B := w.heap.size) KB.size (by rintro b hb rfl; omega))
  clear hk hc1
  obtain ⟨y0, y1, y2, y3, rfl, -⟩ := Os.it
  obtain ⟨⟨Y0, f0, rfl⟩, ⟨Y1, f1, rfl⟩, ⟨Y2, f2, rfl⟩, ⟨Y3, f3, rfl⟩⟩ := Os.shapes
  obtain ⟨Q0, e0, rfl, -, -⟩ := Lp.o0.formR
  obtain ⟨Q1, e1, rfl, -, -⟩ := Lp.o1.formR
  obtain ⟨Q2, e2, rfl, -, -⟩ := Lp.o2.formR
  obtain ⟨Q3, e3, rfl, -, -⟩ := Lp.o3.formR
  have hA : Below w2.heap.size w2 ((w2.alloc (.cells (planC none none none none 0 0 0 0 0 0 0 0 0 0 0) 32)).alloc (.cells (stC none none none none 0 0 0 0 0 0 0 0 0 false 0 0 0 0 0 0) 38)) := ((Below.refl _ _).alloc (Nat.le_refl _) _).alloc (by simp) _
  have H6 : ((w2.alloc (.cells (planC none none none none 0 0 0 0 0 0 0 0 0 0 0) 32)).alloc (.cells (stC none none none none 0 0 0 0 0 0 0 0 0 false 0 0 0 0 0 0) 38)).heap[w2.heap.size]? = some (.cells (planC none none none none 0 0 0 0 0 0 0 0 0 0 0) 32) := by
    have hb := (Below.refl (w2.alloc (.cells (planC none none none none 0 0 0 0 0 0 0 0 0 0 0) 32)).heap.size (w2.alloc (.cells (planC none none none none 0 0 0 0 0 0 0 0 0 0 0) 32))).alloc (Nat.le_refl _) (.cells (stC none none none none 0 0 0 0 0 0 0 0 0 false 0 0 0 0 0 0) 38)
    exact (hb.block w2.heap.size (by simp)).trans (heap_alloc_new w2 _)
  have H7 := heap_alloc2_new w2 (.cells (planC none none none none 0 0 0 0 0 0 0 0 0 0 0) 32) (.cells (stC none none none none 0 0 0 0 0 0 0 0 0 false 0 0 0 0 0 0) 38)
  have H7' := (setRow_other ((w2.alloc (.cells (planC none none none none 0 0 0 0 0 0 0 0 0 0 0) 32)).alloc (.cells (stC none none none none 0 0 0 0 0 0 0 0 0 false 0 0 0 0 0 0) 38)) w2.heap.size _ (planC Q0 Q1 Q2 Q3 d.n0 e0 d.n1 e1 d.n2 e2 d.n3 e3 d.l d.p d.t) (Nat.succ_ne_self _)).trans H7
  go_upto_region 3 with (first
    | ((with_reducible refine store_plan (x := 6) (y := 14) (g := w2.heap.size) (cs := planC Q0 Q1 Q2 Q3 d.n0 e0 d.n1 e1 d.n2 e2 d.n3 e3 d.l d.p d.t) ?_ ?_ H6 ?_ ?_ ?_ ?_)
       · rfl
       · rfl
       · exact HIP.out
       · rfl
       · simp [Value.oneCell'])
    | ((with_reducible refine store_state (x := 7) (y := 15) (g := w2.heap.size + 1) (cs := stC Y0 Y1 Y2 Y3 s.pods.length f0 s.mnts.length f1 s.devs.length f2 s.lks.length f3 s.ph s.co s.ck s.bo s.ba s.lb s.gd s.pr) ?_ ?_ H7' ?_ ?_ ?_ ?_)
       · rfl
       · rfl
       · exact HIS.out
       · rfl
       · simp [Value.oneCell']))
  have h2w := KB.size
  have hw2 : w2.heap.size < w2.heap.size + 1 := Nat.lt_succ_self _
  have hA2 := below_setRow (below_setRow hA (Nat.le_refl _) (planC Q0 Q1 Q2 Q3 d.n0 e0 d.n1 e1 d.n2 e2 d.n3 e3 d.l d.p d.t)) (Nat.le_succ _) (stC Y0 Y1 Y2 Y3 s.pods.length f0 s.mnts.length f1 s.devs.length f2 s.lks.length f3 s.ph s.co s.ck s.bo s.ba s.lb s.gd s.pr)
  have G6 := (setRow_other (((w2.alloc (.cells (planC none none none none 0 0 0 0 0 0 0 0 0 0 0) 32)).alloc (.cells (stC none none none none 0 0 0 0 0 0 0 0 0 false 0 0 0 0 0 0) 38)).setRow w2.heap.size (planC Q0 Q1 Q2 Q3 d.n0 e0 d.n1 e1 d.n2 e2 d.n3 e3 d.l d.p d.t)) (w2.heap.size + 1) w2.heap.size (stC Y0 Y1 Y2 Y3 s.pods.length f0 s.mnts.length f1 s.devs.length f2 s.lks.length f3 s.ph s.co s.ck s.bo s.ba s.lb s.gd s.pr) (by omega)).trans (setRow_heap _ _ _ (planC Q0 Q1 Q2 Q3 d.n0 e0 d.n1 e1 d.n2 e2 d.n3 e3 d.l d.p d.t) _ _ H6)
  have G7 := setRow_heap (((w2.alloc (.cells (planC none none none none 0 0 0 0 0 0 0 0 0 0 0) 32)).alloc (.cells (stC none none none none 0 0 0 0 0 0 0 0 0 false 0 0 0 0 0 0) 38)).setRow w2.heap.size (planC Q0 Q1 Q2 Q3 d.n0 e0 d.n1 e1 d.n2 e2 d.n3 e3 d.l d.p d.t)) (w2.heap.size + 1) _ (stC Y0 Y1 Y2 Y3 s.pods.length f0 s.mnts.length f1 s.devs.length f2 s.lks.length f3 s.ph s.co s.ck s.bo s.ba s.lb s.gd s.pr) _ _ H7'
  clear H6 H7 H7' hA
  replace b2 := (hA2.block _ (Array.getElem?_eq_some_iff.1 b2).1).trans b2
  replace b3 := (hA2.block _ (Array.getElem?_eq_some_iff.1 b3).1).trans b3
  replace Lp := Lp.below hA2
  replace Os := Os.below hA2
  replace KB := KB.trans (hA2.mono KB.size)
  replace CU := CU.below hA2
  have hg2 : g < w2.heap.size := by assumption
  clear hA2 hw2
  generalize (((w2.alloc (.cells (planC none none none none 0 0 0 0 0 0 0 0 0 0 0) 32)).alloc (.cells (stC none none none none 0 0 0 0 0 0 0 0 0 false 0 0 0 0 0 0) 38)).setRow w2.heap.size (planC Q0 Q1 Q2 Q3 d.n0 e0 d.n1 e1 d.n2 e2 d.n3 e3 d.l d.p d.t)).setRow (w2.heap.size + 1) (stC Y0 Y1 Y2 Y3 s.pods.length f0 s.mnts.length f1 s.devs.length f2 s.lks.length f3 s.ph s.co s.ck s.bo s.ba s.lb s.gd s.pr) = w3 at b2 b3 G6 G7 Lp Os KB CU ⊢
  obtain ⟨R7, hR7⟩ : ∃ R, w2.heap.size + 1 = R := ⟨_, rfl⟩
  rw [hR7] at G7 ⊢
  generalize w2.heap.size = R6 at G6 hR7 hz4 hl2 hg2 h2w ⊢
  have H6 := G6
  have H7 := G7
  clear G6 G7
  obtain ⟨ph, co, ck, bo, ba, lb, ps, ms, ds, ls, gd, pr⟩ := s
  dsimp only at Os H7 hs ⊢
  have hs0 : ps.length ≤ 12 := hs.s0
  have hms : ps.length ≤ 12 := hs.s0
  have hms1 : ms.length ≤ 12 := hs.s1
  have hds1 : ds.length ≤ 12 := hs.s2
  have h7 : ∀ o, w3.cell? ⟨R7, o, none⟩ = (stC Y0 Y1 Y2 Y3 ps.length f0 ms.length f1 ds.length f2 ls.length f3 ph co ck bo ba lb gd pr)[o]? := fun o => cell_of_row _ _ o _ _ _ H7
  go_wp2_with fail
  go_loopw [8] (fun i wr => ∃ (k : Nat) (P : List (Int × Int)), P.length = ps.length ∧ k ≤ ps.length ∧ i = .int .i64 k ∧ Cur 75 .i64 wr g ∧ Below w.heap.size w wr ∧ Lists wr w.heap.size (.slice Q0 d.n0 e0) (.slice Q1 d.n1 e1) (.slice Q2 d.n2 e2) (.slice Q3 d.n3 e3) d ∧ OwnSt wr w.heap.size (.agg (stC Y0 Y1 Y2 Y3 ps.length f0 ms.length f1 ds.length f2 ls.length f3 ph co ck bo ba lb gd pr)) ⟨ph, co, ck, bo, ba, lb, P, ms, ds, ls, gd, pr⟩ ∧ wr.heap[w.heap.size]? = some (.cells (planC none none none none 0 0 0 0 0 0 0 0 0 0 0) 32) ∧ wr.heap[w.heap.size + 1]? = some (.cells (stC none none none none 0 0 0 0 0 0 0 0 0 false 0 0 0 0 0 0) 38) ∧ wr.heap[R6]? = some (.cells (planC Q0 Q1 Q2 Q3 d.n0 e0 d.n1 e1 d.n2 e2 d.n3 e3 d.l d.p d.t) 32) ∧ wr.heap[R7]? = some (.cells (stC Y0 Y1 Y2 Y3 ps.length f0 ms.length f1 ds.length f2 ls.length f3 ph co ck bo ba lb gd pr) 38)) (fun i _ => ps.length - (intOf i).toNat)
  case atStart => exact ⟨0, ps, rfl, Nat.zero_le _, rfl, CU, KB, Lp, Os, b2, b3, H6, H7⟩
  case round =>
    clear h7 CU KB b2 b3 H6 H7 Lp Os
    obtain ⟨k, P, hl, hk, rfl, CU, KB, Lp, Os, b2, b3, H6, H7⟩ := hrel
    have h7 : ∀ o, wr.cell? ⟨R7, o, none⟩ = (stC Y0 Y1 Y2 Y3 ps.length f0 ms.length f1 ds.length f2 ls.length f3 ph co ck bo ba lb gd pr)[o]? := fun o => cell_of_row _ _ o _ _ _ H7
    by_cases hlt : k < ps.length
    · go_wp2_with fail
      refine (l1Once_any g 2 wr CU (by omega) (by omega)).mono ?_
      rintro e w4 ⟨b, rfl, CU4, hk4⟩
      obtain ⟨gcs, hgc⟩ := CU.cells
      replace Lp := Lp.keeps hk4 hgc (by decide)
      replace Os := Os.keepsT hk4 hgc (by decide)
      replace b2 := (hk4.block _ (Array.getElem?_eq_some_iff.1 b2).1 (by show ¬ w.heap.size = g; omega)).trans b2
      replace b3 := (hk4.block _ (Array.getElem?_eq_some_iff.1 b3).1 (by show ¬ w.heap.size + 1 = g; omega)).trans b3
      replace H6 := (hk4.block _ (Array.getElem?_eq_some_iff.1 H6).1 (by show ¬ R6 = g; omega)).trans H6
      replace H7 := (hk4.block _ (Array.getElem?_eq_some_iff.1 H7).1 (by show ¬ R7 = g; omega)).trans H7
      replace KB := KB.trans (hk4.below (B := w.heap.size) KB.size (by rintro b hb rfl; omega))
      clear hk4 CU hgc h7
      have CU := CU4
      clear CU4
      have h7 : ∀ o, w4.cell? ⟨R7, o, none⟩ = (stC Y0 Y1 Y2 Y3 ps.length f0 ms.length f1 ds.length f2 ls.length f3 ph co ck bo ba lb gd pr)[o]? := fun o => cell_of_row _ _ o _ _ _ H7
      cases b
      · go_wp2_with fail
        exact ⟨⟨k + 1, P, hl, by omega, by go_num, CU, KB, Lp, Os, b2, b3, H6, H7⟩, by simp [intOf]; omega⟩
      · obtain ⟨gr, hY, hBg, hgz, ⟨rcs, hgr⟩, HR⟩ := Os.podRow (i := k) (by show k < P.length; omega)
        subst hY
        have q0 := (HR (k * 2) (by rw [podCs_len]; show _ < P.length * 2; omega)).1.trans (podCs_at P (i := k) (by omega)).1
        have hf0 := (HR (k * 2) (by rw [podCs_len]; show _ < P.length * 2; omega)).2
        have hx : k * 2 + 2 ≤ 24 := by omega
        go_wp2_with fail
        have kk : Keeps (· = gr) w4 (w4.setCell ⟨gr, k * 2, none⟩ (.int .i64 4)) := Keeps.set (S := (· = gr)) (Keeps.refl _ _) rfl _
        have n6 : ¬ R6 = gr := ne_types hgr H6 (by decide)
        have n7 : ¬ R7 = gr := ne_types hgr H7 (by decide)
        have n2 : ¬ w.heap.size = gr := ne_types hgr b2 (by decide)
        have n3 : ¬ w.heap.size + 1 = gr := ne_types hgr b3 (by decide)
        have OsX := Os.podSet (i := k) (by show k < P.length; omega) 4
        have x6 := (kk.block _ (Array.getElem?_eq_some_iff.1 H6).1 n6).trans H6
        have x7 := (kk.block _ (Array.getElem?_eq_some_iff.1 H7).1 n7).trans H7
        have x2 := (kk.block _ (Array.getElem?_eq_some_iff.1 b2).1 n2).trans b2
        have x3 := (kk.block _ (Array.getElem?_eq_some_iff.1 b3).1 n3).trans b3
        have hgg : g < gr := HG gr ⟨_, 6, _, rfl, rfl, rfl⟩
        have LpX := Lp.keeps kk hgr (by decide)
        have CUX := CU.keeps kk (fun b hb e => by omega)
        have KBX := KB.trans (kk.below (B := w.heap.size) KB.size (by rintro b hb rfl; omega))
        exact ⟨⟨k + 1, P.set k (4, (podA P k).2), by rw [List.length_set]; exact hl, by omega, by go_num, CUX, KBX, LpX, OsX, x2, x3, x6, x7⟩, by simp [intOf]; omega⟩
    · obtain rfl : k = ps.length := by omega
      go_upto_region 8 with fail
      clear h7 hk
      refine wp_region_noPanic ?_
      refine wp_region_held_drew (S := fun W => (∀ o, W.cell? ⟨R6, o, none⟩ = (planC Q0 Q1 Q2 Q3 d.n0 e0 d.n1 e1 d.n2 e2 d.n3 e3 d.l d.p d.t)[o]?) ∧ (∀ o, W.cell? ⟨R7, o, none⟩ = (stC Y0 Y1 Y2 Y3 ps.length f0 ms.length f1 ds.length f2 ls.length f3 ph co ck bo ba lb gd pr)[o]?)) (by kernel_rfl) (by rw [← heap_drew wr] at H6 H7; exact ⟨fun o => cell_of_row _ _ o _ _ _ H6, fun o => cell_of_row _ _ o _ _ _ H7⟩) (fun _ => ?_)
      rw [← heap_drew wr] at b2 b3 H6 H7
      replace Lp := Lp.below (Below.refl _ _).drew
      replace Os := Os.below (Below.refl _ _).drew
      replace KB := KB.drew
      replace CU := CU.below (Below.refl _ _).drew
      generalize wr.drew = v0 at KB b2 b3 H6 H7 Lp Os CU ⊢
      refine wpAnyH_take (i := 0) (v := ?_) rfl (by kernel_rfl) (by kernel_rfl) (by kernel_rfl) (fun _ _ _ h => h) (Or.inl ⟨by rfl, ?_⟩) ⟨fun o => cell_of_row _ _ o _ _ _ H6, fun o => cell_of_row _ _ o _ _ _ H7⟩ ?_
      rotate_left 1
      · intro w hSw
        obtain ⟨hs6, hs7⟩ := hSw
        go_simp
        try with_reducible rfl
      change wpAnyH _ _ _ _ _ _ _ (Act.put _ (some 30) _) _
      dsimp only [Act.put]
      refine wpAnyH_take (i := 1) (v := ?_) rfl (by kernel_rfl) (by kernel_rfl) (by kernel_rfl) (fun _ _ _ h => h) (Or.inl ⟨by rfl, ?_⟩) ⟨fun o => cell_of_row _ _ o _ _ _ H6, fun o => cell_of_row _ _ o _ _ _ H7⟩ ?_
      rotate_left 1
      · intro w hSw
        obtain ⟨hs6, hs7⟩ := hSw
        go_simp
        try with_reducible rfl
      change wpAnyH _ _ _ _ _ _ _ (Act.put _ (some 31) _) _
      dsimp only [Act.put]
      refine wpAnyH_take (i := 2) (v := ?_) rfl (by kernel_rfl) (by kernel_rfl) (by kernel_rfl) (fun _ _ _ h => h) (Or.inl ⟨by rfl, ?_⟩) ⟨fun o => cell_of_row _ _ o _ _ _ H6, fun o => cell_of_row _ _ o _ _ _ H7⟩ ?_
      rotate_left 1
      · intro w hSw
        obtain ⟨hs6, hs7⟩ := hSw
        go_simp
        try with_reducible rfl
      change wpAnyH _ _ _ _ _ _ _ (Act.put _ (some 32) _) _
      dsimp only [Act.put]
      refine wpAnyH_take (i := 3) (v := ?_) rfl (by kernel_rfl) (by kernel_rfl) (by kernel_rfl) (fun _ _ _ h => h) (Or.inl ⟨by rfl, ?_⟩) ⟨fun o => cell_of_row _ _ o _ _ _ H6, fun o => cell_of_row _ _ o _ _ _ H7⟩ ?_
      rotate_left 1
      · intro w hSw
        obtain ⟨hs6, hs7⟩ := hSw
        go_simp
        try with_reducible rfl
      change wpAnyH _ _ _ _ _ _ _ (Act.put _ (some 33) _) _
      dsimp only [Act.put]
      refine wpAnyH_take (i := 4) (v := ?_) rfl (by kernel_rfl) (by kernel_rfl) (by kernel_rfl) (fun _ _ _ h => h) (Or.inl ⟨by rfl, ?_⟩) ⟨fun o => cell_of_row _ _ o _ _ _ H6, fun o => cell_of_row _ _ o _ _ _ H7⟩ ?_
      rotate_left 1
      · intro w hSw
        obtain ⟨hs6, hs7⟩ := hSw
        go_simp
        try with_reducible rfl
      change wpAnyH _ _ _ _ _ _ _ (Act.put _ (some 34) _) _
      dsimp only [Act.put]
      refine wpAnyH_take (i := 5) (v := ?_) rfl (by kernel_rfl) (by kernel_rfl) (by kernel_rfl) (fun _ _ _ h => h) (Or.inl ⟨by rfl, ?_⟩) ⟨fun o => cell_of_row _ _ o _ _ _ H6, fun o => cell_of_row _ _ o _ _ _ H7⟩ ?_
      rotate_left 1
      · intro w hSw
        obtain ⟨hs6, hs7⟩ := hSw
        go_simp
        try with_reducible rfl
      change wpAnyH _ _ _ _ _ _ _ (Act.put _ (some 35) _) _
      dsimp only [Act.put]
      refine wpAnyH_ready (rs := [6]) (by kernel_rfl) (by simp) ?_
      refine AllReadyH.cons rfl (fun K' hK => ?_) AllReadyH.nil
      go_simp
      go_at_call 23
      refine (l1From_any g (-1) ms.length v0 CU (by omega) (by omega) (by omega) (by omega)).mono ?_
      rintro e v1 ⟨k, rfl, -, -, CU9, hk⟩
      obtain ⟨gcs, hgc⟩ := CU.cells
      replace Lp := Lp.keeps hk hgc (by decide)
      replace Os := Os.keepsT hk hgc (by decide)
      replace b2 := (hk.block _ (Array.getElem?_eq_some_iff.1 b2).1 (by show ¬ w.heap.size = g; omega)).trans b2
      replace b3 := (hk.block _ (Array.getElem?_eq_some_iff.1 b3).1 (by show ¬ w.heap.size + 1 = g; omega)).trans b3
      replace H6 := (hk.block _ (Array.getElem?_eq_some_iff.1 H6).1 (by show ¬ R6 = g; omega)).trans H6
      replace H7 := (hk.block _ (Array.getElem?_eq_some_iff.1 H7).1 (by show ¬ R7 = g; omega)).trans H7
      replace KB := KB.trans (hk.below (B := w.heap.size) KB.size (by rintro b hb rfl; omega))
      clear hk CU CU9 hgc
      go_wp2_with fail
      refine hK.out _ _ ⟨fun o => cell_of_row _ _ o _ _ _ H6, fun o => cell_of_row _ _ o _ _ _ H7⟩ (fun _ => ?_)
      clear hK K'
      try (change wpAnyH _ _ _ _ _ _ _ (Act.put _ (some 36) _) _; dsimp only [Act.put])
      refine wpAnyH_ready (rs := [7]) (by kernel_rfl) (by simp) ?_
      refine AllReadyH.cons rfl (fun K' hK => ?_) AllReadyH.nil
      rw [if_pos (by rfl)]
      refine wp_store_row 32 (.tmp 2) (.tmp 30) rfl (w.heap.size) (planC Q0 Q1 Q2 Q3 d.n0 e0 d.n1 e1 d.n2 e2 d.n3 e3 d.l d.p d.t) rfl rfl 32 _ b2 HIP.out rfl (by simp [Value.oneCell']) ?_
      have kk := keepsRow_ v1 (w.heap.size) (planC Q0 Q1 Q2 Q3 d.n0 e0 d.n1 e1 d.n2 e2 d.n3 e3 d.l d.p d.t)
      replace KB := belowRow_ KB (B := w.heap.size) (by omega) (planC Q0 Q1 Q2 Q3 d.n0 e0 d.n1 e1 d.n2 e2 d.n3 e3 d.l d.p d.t)
      replace b3 := (setRow_other _ (w.heap.size) (w.heap.size + 1) (planC Q0 Q1 Q2 Q3 d.n0 e0 d.n1 e1 d.n2 e2 d.n3 e3 d.l d.p d.t) (by omega)).trans b3
      replace H6 := (setRow_other _ (w.heap.size) (R6) (planC Q0 Q1 Q2 Q3 d.n0 e0 d.n1 e1 d.n2 e2 d.n3 e3 d.l d.p d.t) (by omega)).trans H6
      replace H7 := (setRow_other _ (w.heap.size) (R7) (planC Q0 Q1 Q2 Q3 d.n0 e0 d.n1 e1 d.n2 e2 d.n3 e3 d.l d.p d.t) (by omega)).trans H7
      replace Lp := Lp.keeps kk b2 (by decide)
      replace Os := Os.keepsT kk b2 (by decide)
      replace b2 := setRow_heap _ _ _ (planC Q0 Q1 Q2 Q3 d.n0 e0 d.n1 e1 d.n2 e2 d.n3 e3 d.l d.p d.t) _ _ b2
      clear kk
      generalize v1.setRow (w.heap.size) (planC Q0 Q1 Q2 Q3 d.n0 e0 d.n1 e1 d.n2 e2 d.n3 e3 d.l d.p d.t) = v2 at KB b2 b3 H6 H7 Lp Os ⊢
      refine hK.out _ _ ⟨fun o => cell_of_row _ _ o _ _ _ H6, fun o => cell_of_row _ _ o _ _ _ H7⟩ (fun _ => ?_)
      clear hK K'
      try (change wpAnyH _ _ _ _ _ _ _ (Act.put _ none _) _; dsimp only [Act.put])
      refine wpAnyH_ready (rs := [8]) (by kernel_rfl) (by simp) ?_
      refine AllReadyH.cons rfl (fun K' hK => ?_) AllReadyH.nil
      rw [if_pos (by rfl)]
      refine wp_store_row 38 (.tmp 3) (.tmp 31) rfl (w.heap.size + 1) (stC Y0 Y1 Y2 Y3 ps.length f0 ms.length f1 ds.length f2 ls.length f3 ph co ck bo ba lb gd pr) rfl rfl 38 _ b3 HIS.out rfl (by simp [Value.oneCell']) ?_
      have kk := keepsRow_ v2 (w.heap.size + 1) (stC Y0 Y1 Y2 Y3 ps.length f0 ms.length f1 ds.length f2 ls.length f3 ph co ck bo ba lb gd pr)
      replace KB := belowRow_ KB (B := w.heap.size + 1) (by omega) (stC Y0 Y1 Y2 Y3 ps.length f0 ms.length f1 ds.length f2 ls.length f3 ph co ck bo ba lb gd pr)
      replace b2 := (setRow_other _ (w.heap.size + 1) (w.heap.size) (stC Y0 Y1 Y2 Y3 ps.length f0 ms.length f1 ds.length f2 ls.length f3 ph co ck bo ba lb gd pr) (by omega)).trans b2
      replace H6 := (setRow_other _ (w.heap.size + 1) (R6) (stC Y0 Y1 Y2 Y3 ps.length f0 ms.length f1 ds.length f2 ls.length f3 ph co ck bo ba lb gd pr) (by omega)).trans H6
      replace H7 := (setRow_other _ (w.heap.size + 1) (R7) (stC Y0 Y1 Y2 Y3 ps.length f0 ms.length f1 ds.length f2 ls.length f3 ph co ck bo ba lb gd pr) (by omega)).trans H7
      replace Lp := Lp.keeps kk b3 (by decide)
      replace Os := Os.keepsT kk b3 (by decide)
      replace b3 := setRow_heap _ _ _ (stC Y0 Y1 Y2 Y3 ps.length f0 ms.length f1 ds.length f2 ls.length f3 ph co ck bo ba lb gd pr) _ _ b3
      clear kk
      generalize v2.setRow (w.heap.size + 1) (stC Y0 Y1 Y2 Y3 ps.length f0 ms.length f1 ds.length f2 ls.length f3 ph co ck bo ba lb gd pr) = v3 at KB b2 b3 H6 H7 Lp Os ⊢
      refine hK.out _ _ ⟨fun o => cell_of_row _ _ o _ _ _ H6, fun o => cell_of_row _ _ o _ _ _ H7⟩ (fun _ => ?_)
      clear hK K'
      try (change wpAnyH _ _ _ _ _ _ _ (Act.put _ none _) _; dsimp only [Act.put])
      refine wpAnyH_ready (rs := [9]) (by kernel_rfl) (by simp) ?_
      refine AllReadyH.cons rfl (fun K' hK => ?_) AllReadyH.nil
      go_simp
      refine hK.out _ _ ⟨fun o => cell_of_row _ _ o _ _ _ H6, fun o => cell_of_row _ _ o _ _ _ H7⟩ (fun _ => ?_)
      clear hK K'
      try (change wpAnyH _ _ _ _ _ _ _ (Act.put _ (some 4) _) _; dsimp only [Act.put])
      refine wpAnyH_done (by kernel_rfl) ?_ _
      refine NoPanic.normal ?_
      go_wp2_with fail
      exact bodyPost_ret (v := .tuple #[.agg (planC Q0 Q1 Q2 Q3 d.n0 e0 d.n1 e1 d.n2 e2 d.n3 e3 d.l d.p d.t), .agg (stC Y0 Y1 Y2 Y3 ps.length f0 ms.length f1 ds.length f2 ls.length f3 ph co ck bo ba lb gd pr), .int .i64 k]) (results_cells_num Tryz.results11 _ _ _ _ _ _ _ _ _ _ _ _ _ rfl rfl rfl b2 b3 Tryz.underlying32 rfl HIP.out Tryz.underlying38 rfl HIS.out) rfl ⟨_, _, _, _, d, _, ⟨ph, co, ck, bo, ba, lb, P, ms, ds, ls, gd, pr⟩, k, rfl, Lp, Os, hd, ⟨(by show P.length ≤ 12; rw [hl]; exact hs.s0), hs.s1, hs.s2, hs.s3⟩, KB⟩

set_option maxRecDepth 100000 in
set_option maxHeartbeats 8000000 in
theorem drawMayGive_any (A : Option Addr) (n c : Nat) (w : World) (hB : Bytes w w.heap.size A n) (hn : n ≤ 4096) : Calls Tryz.prog 12 #[.slice A n c] w (GivesPSN w) := by
  have HIP : Hid ((Tryz.prog.info? 32).map (·.size) = some 7) := Lib.hid (by kernel_rfl)
  have HIS : Hid ((Tryz.prog.info? 38).map (·.size) = some 12) := Lib.hid (by kernel_rfl)
  have b2 : ((w.alloc (.cells (planC none none none none 0 0 0 0 0 0 0 0 0 0 0) 32)).alloc (.cells (stC none none none none 0 0 0 0 0 0 0 0 0 false 0 0 0 0 0 0) 38)).heap[w.heap.size]? = some (.cells (planC none none none none 0 0 0 0 0 0 0 0 0 0 0) 32) := by
    have hb := (Below.refl (w.alloc (.cells (planC none none none none 0 0 0 0 0 0 0 0 0 0 0) 32)).heap.size (w.alloc (.cells (planC none none none none 0 0 0 0 0 0 0 0 0 0 0) 32))).alloc (Nat.le_refl _) (.cells (stC none none none none 0 0 0 0 0 0 0 0 0 false 0 0 0 0 0 0) 38)
    exact (hb.block w.heap.size (by simp)).trans (heap_alloc_new w _)
  have b3 := heap_alloc2_new w (.cells (planC none none none none 0 0 0 0 0 0 0 0 0 0 0) 32) (.cells (stC none none none none 0 0 0 0 0 0 0 0 0 false 0 0 0 0 0 0) 38)
  have KB : Below w.heap.size w ((w.alloc (.cells (planC none none none none 0 0 0 0 0 0 0 0 0 0 0) 32)).alloc (.cells (stC none none none none 0 0 0 0 0 0 0 0 0 false 0 0 0 0 0 0) 38)) := ((Below.refl _ _).alloc (Nat.le_refl _) _).alloc (by simp) _
  have HB := Lib.hid ((hB.below KB (Nat.le_refl _)).more KB.size)
  clear hB
  go_enter Tryz.func12, Tryz.ntmps12
  go_wp2_with fail
  generalize ((w.alloc (.cells (planC none none none none 0 0 0 0 0 0 0 0 0 0 0) 32)).alloc (.cells (stC none none none none 0 0 0 0 0 0 0 0 0 false 0 0 0 0 0 0) 38)) = w0 at b2 b3 KB HB ⊢
  refine (l1New_any A n c w0 HB.out hn).mono ?_
  rintro e w1 ⟨g, rfl, hg, hc1, K1⟩
  have hz3 := (Array.getElem?_eq_some_iff.1 b3).1
  replace b2 := (K1.block _ (Array.getElem?_eq_some_iff.1 b2).1).trans b2
  replace b3 := (K1.block _ (Array.getElem?_eq_some_iff.1 b3).1).trans b3
  replace KB := KB.trans (K1.mono KB.size)
  clear K1 HB
  go_wp2_with fail
  refine (l5DrawAny_any g w1 hc1).mono ?_
  rintro e w2 ⟨v0, v1, v2, v3, d, vs, s, rfl, Lp, Os, hd, hs, CU, hk⟩
  replace b2 := (hk.block _ (Array.getElem?_eq_some_iff.1 b2).1 (by show ¬ w.heap.size = g; omega)).trans b2
  replace b3 := (hk.block _ (Array.getElem?_eq_some_iff.1 b3).1 (by show ¬ w.heap.size + 1 = g; omega)).trans b3
  have hl2 : g < w2.heap.size := CU.lt
  have hz4 := (Array.getElem?_eq_some_iff.1 b3).1
  replace Lp := Lp.base KB.size
  have HG : ∀ r, rowsOf vs r → g < r := fun r hr => Nat.lt_of_lt_of_le hc1.lt (Os.blocks hr).1
  replace Os := Os.base KB.size
  replace KB := KB.trans (hk.below (B := w.heap.size) KB.size (by rintro b hb rfl; omega))
  clear hk hc1
  obtain ⟨y0, y1, y2, y3, rfl, -⟩ := Os.it
  obtain ⟨⟨Y0, f0, rfl⟩, ⟨Y1, f1, rfl⟩, ⟨Y2, f2, rfl⟩, ⟨Y3, f3, rfl⟩⟩ := Os.shapes
  obtain ⟨Q0, e0, rfl, -, -⟩ := Lp.o0.formR
  obtain ⟨Q1, e1, rfl, -, -⟩ := Lp.o1.formR
  obtain ⟨Q2, e2, rfl, -, -⟩ := Lp.o2.formR
  obtain ⟨Q3, e3, rfl, -, -⟩ := Lp.o3.formR
  have hA : Below w2.heap.size w2 ((w2.alloc (.cells (planC none none none none 0 0 0 0 0 0 0 0 0 0 0) 32)).alloc (.cells (stC none none none none 0 0 0 0 0 0 0 0 0 false 0 0 0 0 0 0) 38)) := ((Below.refl _ _).alloc (Nat.le_refl _) _).alloc (by simp) _
  have H6 : ((w2.alloc (.cells (planC none none none none 0 0 0 0 0 0 0 0 0 0 0) 32)).alloc (.cells (stC none none none none 0 0 0 0 0 0 0 0 0 false 0 0 0 0 0 0) 38)).heap[w2.heap.size]? = some (.cells (planC none none none none 0 0 0 0 0 0 0 0 0 0 0) 32) := by
    have hb := (Below.refl (w2.alloc (.cells (planC none none none none 0 0 0 0 0 0 0 0 0 0 0) 32)).heap.size (w2.alloc (.cells (planC none none none none 0 0 0 0 0 0 0 0 0 0 0) 32))).alloc (Nat.le_refl _) (.cells (stC none none none none 0 0 0 0 0 0 0 0 0 false 0 0 0 0 0 0) 38)
    exact (hb.block w2.heap.size (by simp)).trans (heap_alloc_new w2 _)
  have H7 := heap_alloc2_new w2 (.cells (planC none none none none 0 0 0 0 0 0 0 0 0 0 0) 32) (.cells (stC none none none none 0 0 0 0 0 0 0 0 0 false 0 0 0 0 0 0) 38)
  have H7' := (setRow_other ((w2.alloc (.cells (planC none none none none 0 0 0 0 0 0 0 0 0 0 0) 32)).alloc (.cells (stC none none none none 0 0 0 0 0 0 0 0 0 false 0 0 0 0 0 0) 38)) w2.heap.size _ (planC Q0 Q1 Q2 Q3 d.n0 e0 d.n1 e1 d.n2 e2 d.n3 e3 d.l d.p d.t) (Nat.succ_ne_self _)).trans H7
  go_upto_region 3 with (first
    | ((with_reducible refine store_plan (x := 6) (y := 14) (g := w2.heap.size) (cs := planC Q0 Q1 Q2 Q3 d.n0 e0 d.n1 e1 d.n2 e2 d.n3 e3 d.l d.p d.t) ?_ ?_ H6 ?_ ?_ ?_ ?_)
       · rfl
       · rfl
       · exact HIP.out
       · rfl
       · simp [Value.oneCell'])
    | ((with_reducible refine store_state (x := 7) (y := 15) (g := w2.heap.size + 1) (cs := stC Y0 Y1 Y2 Y3 s.pods.length f0 s.mnts.length f1 s.devs.length f2 s.lks.length f3 s.ph s.co s.ck s.bo s.ba s.lb s.gd s.pr) ?_ ?_ H7' ?_ ?_ ?_ ?_)
       · rfl
       · rfl
       · exact HIS.out
       · rfl
       · simp [Value.oneCell']))
  have h2w := KB.size
  have hw2 : w2.heap.size < w2.heap.size + 1 := Nat.lt_succ_self _
  have hA2 := below_setRow (below_setRow hA (Nat.le_refl _) (planC Q0 Q1 Q2 Q3 d.n0 e0 d.n1 e1 d.n2 e2 d.n3 e3 d.l d.p d.t)) (Nat.le_succ _) (stC Y0 Y1 Y2 Y3 s.pods.length f0 s.mnts.length f1 s.devs.length f2 s.lks.length f3 s.ph s.co s.ck s.bo s.ba s.lb s.gd s.pr)
  have G6 := (setRow_other (((w2.alloc (.cells (planC none none none none 0 0 0 0 0 0 0 0 0 0 0) 32)).alloc (.cells (stC none none none none 0 0 0 0 0 0 0 0 0 false 0 0 0 0 0 0) 38)).setRow w2.heap.size (planC Q0 Q1 Q2 Q3 d.n0 e0 d.n1 e1 d.n2 e2 d.n3 e3 d.l d.p d.t)) (w2.heap.size + 1) w2.heap.size (stC Y0 Y1 Y2 Y3 s.pods.length f0 s.mnts.length f1 s.devs.length f2 s.lks.length f3 s.ph s.co s.ck s.bo s.ba s.lb s.gd s.pr) (by omega)).trans (setRow_heap _ _ _ (planC Q0 Q1 Q2 Q3 d.n0 e0 d.n1 e1 d.n2 e2 d.n3 e3 d.l d.p d.t) _ _ H6)
  have G7 := setRow_heap (((w2.alloc (.cells (planC none none none none 0 0 0 0 0 0 0 0 0 0 0) 32)).alloc (.cells (stC none none none none 0 0 0 0 0 0 0 0 0 false 0 0 0 0 0 0) 38)).setRow w2.heap.size (planC Q0 Q1 Q2 Q3 d.n0 e0 d.n1 e1 d.n2 e2 d.n3 e3 d.l d.p d.t)) (w2.heap.size + 1) _ (stC Y0 Y1 Y2 Y3 s.pods.length f0 s.mnts.length f1 s.devs.length f2 s.lks.length f3 s.ph s.co s.ck s.bo s.ba s.lb s.gd s.pr) _ _ H7'
  clear H6 H7 H7' hA
  replace b2 := (hA2.block _ (Array.getElem?_eq_some_iff.1 b2).1).trans b2
  replace b3 := (hA2.block _ (Array.getElem?_eq_some_iff.1 b3).1).trans b3
  replace Lp := Lp.below hA2
  replace Os := Os.below hA2
  replace KB := KB.trans (hA2.mono KB.size)
  replace CU := CU.below hA2
  have hg2 : g < w2.heap.size := by assumption
  clear hA2 hw2
  generalize (((w2.alloc (.cells (planC none none none none 0 0 0 0 0 0 0 0 0 0 0) 32)).alloc (.cells (stC none none none none 0 0 0 0 0 0 0 0 0 false 0 0 0 0 0 0) 38)).setRow w2.heap.size (planC Q0 Q1 Q2 Q3 d.n0 e0 d.n1 e1 d.n2 e2 d.n3 e3 d.l d.p d.t)).setRow (w2.heap.size + 1) (stC Y0 Y1 Y2 Y3 s.pods.length f0 s.mnts.length f1 s.devs.length f2 s.lks.length f3 s.ph s.co s.ck s.bo s.ba s.lb s.gd s.pr) = w3 at b2 b3 G6 G7 Lp Os KB CU ⊢
  obtain ⟨R7, hR7⟩ : ∃ R, w2.heap.size + 1 = R := ⟨_, rfl⟩
  rw [hR7] at G7 ⊢
  generalize w2.heap.size = R6 at G6 hR7 hz4 hl2 hg2 h2w ⊢
  have H6 := G6
  have H7 := G7
  clear G6 G7
  obtain ⟨ph, co, ck, bo, ba, lb, ps, ms, ds, ls, gd, pr⟩ := s
  dsimp only at Os H7 hs ⊢
  have hs0 : ps.length ≤ 12 := hs.s0
  have hms : ms.length ≤ 12 := hs.s1
  have hms1 : ms.length ≤ 12 := hs.s1
  have hds1 : ds.length ≤ 12 := hs.s2
  have h7 : ∀ o, w3.cell? ⟨R7, o, none⟩ = (stC Y0 Y1 Y2 Y3 ps.length f0 ms.length f1 ds.length f2 ls.length f3 ph co ck bo ba lb gd pr)[o]? := fun o => cell_of_row _ _ o _ _ _ H7
  go_wp2_with fail
  go_loopw [8] (fun i wr => ∃ (k : Nat) (P : List (Bool × Int)), P.length = ms.length ∧ k ≤ ms.length ∧ i = .int .i64 k ∧ Cur 75 .i64 wr g ∧ Below w.heap.size w wr ∧ Lists wr w.heap.size (.slice Q0 d.n0 e0) (.slice Q1 d.n1 e1) (.slice Q2 d.n2 e2) (.slice Q3 d.n3 e3) d ∧ OwnSt wr w.heap.size (.agg (stC Y0 Y1 Y2 Y3 ps.length f0 ms.length f1 ds.length f2 ls.length f3 ph co ck bo ba lb gd pr)) ⟨ph, co, ck, bo, ba, lb, ps, P, ds, ls, gd, pr⟩ ∧ wr.heap[w.heap.size]? = some (.cells (planC none none none none 0 0 0 0 0 0 0 0 0 0 0) 32) ∧ wr.heap[w.heap.size + 1]? = some (.cells (stC none none none none 0 0 0 0 0 0 0 0 0 false 0 0 0 0 0 0) 38) ∧ wr.heap[R6]? = some (.cells (planC Q0 Q1 Q2 Q3 d.n0 e0 d.n1 e1 d.n2 e2 d.n3 e3 d.l d.p d.t) 32) ∧ wr.heap[R7]? = some (.cells (stC Y0 Y1 Y2 Y3 ps.length f0 ms.length f1 ds.length f2 ls.length f3 ph co ck bo ba lb gd pr) 38)) (fun i _ => ms.length - (intOf i).toNat)
  case atStart => exact ⟨0, ms, rfl, Nat.zero_le _, rfl, CU, KB, Lp, Os, b2, b3, H6, H7⟩
  case round =>
    clear h7 CU KB b2 b3 H6 H7 Lp Os
    obtain ⟨k, P, hl, hk, rfl, CU, KB, Lp, Os, b2, b3, H6, H7⟩ := hrel
    have h7 : ∀ o, wr.cell? ⟨R7, o, none⟩ = (stC Y0 Y1 Y2 Y3 ps.length f0 ms.length f1 ds.length f2 ls.length f3 ph co ck bo ba lb gd pr)[o]? := fun o => cell_of_row _ _ o _ _ _ H7
    by_cases hlt : k < ms.length
    · go_wp2_with fail
      refine (l1Once_any g 2 wr CU (by omega) (by omega)).mono ?_
      rintro e w4 ⟨b, rfl, CU4, hk4⟩
      obtain ⟨gcs, hgc⟩ := CU.cells
      replace Lp := Lp.keeps hk4 hgc (by decide)
      replace Os := Os.keepsT hk4 hgc (by decide)
      replace b2 := (hk4.block _ (Array.getElem?_eq_some_iff.1 b2).1 (by show ¬ w.heap.size = g; omega)).trans b2
      replace b3 := (hk4.block _ (Array.getElem?_eq_some_iff.1 b3).1 (by show ¬ w.heap.size + 1 = g; omega)).trans b3
      replace H6 := (hk4.block _ (Array.getElem?_eq_some_iff.1 H6).1 (by show ¬ R6 = g; omega)).trans H6
      replace H7 := (hk4.block _ (Array.getElem?_eq_some_iff.1 H7).1 (by show ¬ R7 = g; omega)).trans H7
      replace KB := KB.trans (hk4.below (B := w.heap.size) KB.size (by rintro b hb rfl; omega))
      clear hk4 CU hgc h7
      have CU := CU4
      clear CU4
      have h7 : ∀ o, w4.cell? ⟨R7, o, none⟩ = (stC Y0 Y1 Y2 Y3 ps.length f0 ms.length f1 ds.length f2 ls.length f3 ph co ck bo ba lb gd pr)[o]? := fun o => cell_of_row _ _ o _ _ _ H7
      cases b
      · go_wp2_with fail
        exact ⟨⟨k + 1, P, hl, by omega, by go_num, CU, KB, Lp, Os, b2, b3, H6, H7⟩, by simp [intOf]; omega⟩
      · obtain ⟨gr, hY, hBg, hgz, ⟨rcs, hgr⟩, HR⟩ := Os.mntRow (i := k) (by show k < P.length; omega)
        subst hY
        have q0 := (HR (k * 2) (by rw [mntCs_len]; show _ < P.length * 2; omega)).1.trans (mntCs_at P (i := k) (by omega)).1
        have hf0 := (HR (k * 2) (by rw [mntCs_len]; show _ < P.length * 2; omega)).2
        have q1 := (HR (k * 2 + 1) (by rw [mntCs_len]; show _ < P.length * 2; omega)).1.trans (mntCs_at P (i := k) (by omega)).2
        have hf1 := (HR (k * 2 + 1) (by rw [mntCs_len]; show _ < P.length * 2; omega)).2
        have hx : k * 2 + 2 ≤ 24 := by omega
        go_wp2_with fail
        have kk : Keeps (· = gr) w4 ((w4.setCell ⟨gr, k * 2, none⟩ (.bool false)).setCell ⟨gr, k * 2 + 1, none⟩ (.int .i64 0)) := Keeps.set (S := (· = gr)) (Keeps.set (S := (· = gr)) (Keeps.refl _ _) rfl _) rfl _
        have n6 : ¬ R6 = gr := ne_types hgr H6 (by decide)
        have n7 : ¬ R7 = gr := ne_types hgr H7 (by decide)
        have n2 : ¬ w.heap.size = gr := ne_types hgr b2 (by decide)
        have n3 : ¬ w.heap.size + 1 = gr := ne_types hgr b3 (by decide)
        have OsX := Os.mntSet (i := k) (by show k < P.length; omega)
        have x6 := (kk.block _ (Array.getElem?_eq_some_iff.1 H6).1 n6).trans H6
        have x7 := (kk.block _ (Array.getElem?_eq_some_iff.1 H7).1 n7).trans H7
        have x2 := (kk.block _ (Array.getElem?_eq_some_iff.1 b2).1 n2).trans b2
        have x3 := (kk.block _ (Array.getElem?_eq_some_iff.1 b3).1 n3).trans b3
        have hgg : g < gr := HG gr ⟨_, 7, _, rfl, rfl, rfl⟩
        have LpX := Lp.keeps kk hgr (by decide)
        have CUX := CU.keeps kk (fun b hb e => by omega)
        have KBX := KB.trans (kk.below (B := w.heap.size) KB.size (by rintro b hb rfl; omega))
        exact ⟨⟨k + 1, P.set k (false, 0), by rw [List.length_set]; exact hl, by omega, by go_num, CUX, KBX, LpX, OsX, x2, x3, x6, x7⟩, by simp [intOf]; omega⟩
    · obtain rfl : k = ms.length := by omega
      go_upto_region 8 with fail
      clear h7 hk
      refine wp_region_noPanic ?_
      refine wp_region_held_drew (S := fun W => (∀ o, W.cell? ⟨R6, o, none⟩ = (planC Q0 Q1 Q2 Q3 d.n0 e0 d.n1 e1 d.n2 e2 d.n3 e3 d.l d.p d.t)[o]?) ∧ (∀ o, W.cell? ⟨R7, o, none⟩ = (stC Y0 Y1 Y2 Y3 ps.length f0 ms.length f1 ds.length f2 ls.length f3 ph co ck bo ba lb gd pr)[o]?)) (by kernel_rfl) (by rw [← heap_drew wr] at H6 H7; exact ⟨fun o => cell_of_row _ _ o _ _ _ H6, fun o => cell_of_row _ _ o _ _ _ H7⟩) (fun _ => ?_)
      rw [← heap_drew wr] at b2 b3 H6 H7
      replace Lp := Lp.below (Below.refl _ _).drew
      replace Os := Os.below (Below.refl _ _).drew
      replace KB := KB.drew
      replace CU := CU.below (Below.refl _ _).drew
      generalize wr.drew = v0 at KB b2 b3 H6 H7 Lp Os CU ⊢
      refine wpAnyH_take (i := 0) (v := ?_) rfl (by kernel_rfl) (by kernel_rfl) (by kernel_rfl) (fun _ _ _ h => h) (Or.inl ⟨by rfl, ?_⟩) ⟨fun o => cell_of_row _ _ o _ _ _ H6, fun o => cell_of_row _ _ o _ _ _ H7⟩ ?_
      rotate_left 1
      · intro w hSw
        obtain ⟨hs6, hs7⟩ := hSw
        go_simp
        try with_reducible rfl
      change wpAnyH _ _ _ _ _ _ _ (Act.put _ (some 30) _) _
      dsimp only [Act.put]
      refine wpAnyH_take (i := 1) (v := ?_) rfl (by kernel_rfl) (by kernel_rfl) (by kernel_rfl) (fun _ _ _ h => h) (Or.inl ⟨by rfl, ?_⟩) ⟨fun o => cell_of_row _ _ o _ _ _ H6, fun o => cell_of_row _ _ o _ _ _ H7⟩ ?_
      rotate_left 1
      · intro w hSw
        obtain ⟨hs6, hs7⟩ := hSw
        go_simp
        try with_reducible rfl
      change wpAnyH _ _ _ _ _ _ _ (Act.put _ (some 31) _) _
      dsimp only [Act.put]
      refine wpAnyH_take (i := 2) (v := ?_) rfl (by kernel_rfl) (by kernel_rfl) (by kernel_rfl) (fun _ _ _ h => h) (Or.inl ⟨by rfl, ?_⟩) ⟨fun o => cell_of_row _ _ o _ _ _ H6, fun o => cell_of_row _ _ o _ _ _ H7⟩ ?_
      rotate_left 1
      · intro w hSw
        obtain ⟨hs6, hs7⟩ := hSw
        go_simp
        try with_reducible rfl
      change wpAnyH _ _ _ _ _ _ _ (Act.put _ (some 32) _) _
      dsimp only [Act.put]
      refine wpAnyH_take (i := 3) (v := ?_) rfl (by kernel_rfl) (by kernel_rfl) (by kernel_rfl) (fun _ _ _ h => h) (Or.inl ⟨by rfl, ?_⟩) ⟨fun o => cell_of_row _ _ o _ _ _ H6, fun o => cell_of_row _ _ o _ _ _ H7⟩ ?_
      rotate_left 1
      · intro w hSw
        obtain ⟨hs6, hs7⟩ := hSw
        go_simp
        try with_reducible rfl
      change wpAnyH _ _ _ _ _ _ _ (Act.put _ (some 33) _) _
      dsimp only [Act.put]
      refine wpAnyH_take (i := 4) (v := ?_) rfl (by kernel_rfl) (by kernel_rfl) (by kernel_rfl) (fun _ _ _ h => h) (Or.inl ⟨by rfl, ?_⟩) ⟨fun o => cell_of_row _ _ o _ _ _ H6, fun o => cell_of_row _ _ o _ _ _ H7⟩ ?_
      rotate_left 1
      · intro w hSw
        obtain ⟨hs6, hs7⟩ := hSw
        go_simp
        try with_reducible rfl
      change wpAnyH _ _ _ _ _ _ _ (Act.put _ (some 34) _) _
      dsimp only [Act.put]
      refine wpAnyH_take (i := 5) (v := ?_) rfl (by kernel_rfl) (by kernel_rfl) (by kernel_rfl) (fun _ _ _ h => h) (Or.inl ⟨by rfl, ?_⟩) ⟨fun o => cell_of_row _ _ o _ _ _ H6, fun o => cell_of_row _ _ o _ _ _ H7⟩ ?_
      rotate_left 1
      · intro w hSw
        obtain ⟨hs6, hs7⟩ := hSw
        go_simp
        try with_reducible rfl
      change wpAnyH _ _ _ _ _ _ _ (Act.put _ (some 35) _) _
      dsimp only [Act.put]
      refine wpAnyH_ready (rs := [6]) (by kernel_rfl) (by simp) ?_
      refine AllReadyH.cons rfl (fun K' hK => ?_) AllReadyH.nil
      go_simp
      go_at_call 23
      refine (l1From_any g (-1) ds.length v0 CU (by omega) (by omega) (by omega) (by omega)).mono ?_
      rintro e v1 ⟨k, rfl, -, -, CU9, hk⟩
      obtain ⟨gcs, hgc⟩ := CU.cells
      replace Lp := Lp.keeps hk hgc (by decide)
      replace Os := Os.keepsT hk hgc (by decide)
      replace b2 := (hk.block _ (Array.getElem?_eq_some_iff.1 b2).1 (by show ¬ w.heap.size = g; omega)).trans b2
      replace b3 := (hk.block _ (Array.getElem?_eq_some_iff.1 b3).1 (by show ¬ w.heap.size + 1 = g; omega)).trans b3
      replace H6 := (hk.block _ (Array.getElem?_eq_some_iff.1 H6).1 (by show ¬ R6 = g; omega)).trans H6
      replace H7 := (hk.block _ (Array.getElem?_eq_some_iff.1 H7).1 (by show ¬ R7 = g; omega)).trans H7
      replace KB := KB.trans (hk.below (B := w.heap.size) KB.size (by rintro b hb rfl; omega))
      clear hk CU CU9 hgc
      go_wp2_with fail
      refine hK.out _ _ ⟨fun o => cell_of_row _ _ o _ _ _ H6, fun o => cell_of_row _ _ o _ _ _ H7⟩ (fun _ => ?_)
      clear hK K'
      try (change wpAnyH _ _ _ _ _ _ _ (Act.put _ (some 36) _) _; dsimp only [Act.put])
      refine wpAnyH_ready (rs := [7]) (by kernel_rfl) (by simp) ?_
      refine AllReadyH.cons rfl (fun K' hK => ?_) AllReadyH.nil
      rw [if_pos (by rfl)]
      refine wp_store_row 32 (.tmp 2) (.tmp 30) rfl (w.heap.size) (planC Q0 Q1 Q2 Q3 d.n0 e0 d.n1 e1 d.n2 e2 d.n3 e3 d.l d.p d.t) rfl rfl 32 _ b2 HIP.out rfl (by simp [Value.oneCell']) ?_
      have kk := keepsRow_ v1 (w.heap.size) (planC Q0 Q1 Q2 Q3 d.n0 e0 d.n1 e1 d.n2 e2 d.n3 e3 d.l d.p d.t)
      replace KB := belowRow_ KB (B := w.heap.size) (by omega) (planC Q0 Q1 Q2 Q3 d.n0 e0 d.n1 e1 d.n2 e2 d.n3 e3 d.l d.p d.t)
      replace b3 := (setRow_other _ (w.heap.size) (w.heap.size + 1) (planC Q0 Q1 Q2 Q3 d.n0 e0 d.n1 e1 d.n2 e2 d.n3 e3 d.l d.p d.t) (by omega)).trans b3
      replace H6 := (setRow_other _ (w.heap.size) (R6) (planC Q0 Q1 Q2 Q3 d.n0 e0 d.n1 e1 d.n2 e2 d.n3 e3 d.l d.p d.t) (by omega)).trans H6
      replace H7 := (setRow_other _ (w.heap.size) (R7) (planC Q0 Q1 Q2 Q3 d.n0 e0 d.n1 e1 d.n2 e2 d.n3 e3 d.l d.p d.t) (by omega)).trans H7
      replace Lp := Lp.keeps kk b2 (by decide)
      replace Os := Os.keepsT kk b2 (by decide)
      replace b2 := setRow_heap _ _ _ (planC Q0 Q1 Q2 Q3 d.n0 e0 d.n1 e1 d.n2 e2 d.n3 e3 d.l d.p d.t) _ _ b2
      clear kk
      generalize v1.setRow (w.heap.size) (planC Q0 Q1 Q2 Q3 d.n0 e0 d.n1 e1 d.n2 e2 d.n3 e3 d.l d.p d.t) = v2 at KB b2 b3 H6 H7 Lp Os ⊢
      refine hK.out _ _ ⟨fun o => cell_of_row _ _ o _ _ _ H6, fun o => cell_of_row _ _ o _ _ _ H7⟩ (fun _ => ?_)
      clear hK K'
      try (change wpAnyH _ _ _ _ _ _ _ (Act.put _ none _) _; dsimp only [Act.put])
      refine wpAnyH_ready (rs := [8]) (by kernel_rfl) (by simp) ?_
      refine AllReadyH.cons rfl (fun K' hK => ?_) AllReadyH.nil
      rw [if_pos (by rfl)]
      refine wp_store_row 38 (.tmp 3) (.tmp 31) rfl (w.heap.size + 1) (stC Y0 Y1 Y2 Y3 ps.length f0 ms.length f1 ds.length f2 ls.length f3 ph co ck bo ba lb gd pr) rfl rfl 38 _ b3 HIS.out rfl (by simp [Value.oneCell']) ?_
      have kk := keepsRow_ v2 (w.heap.size + 1) (stC Y0 Y1 Y2 Y3 ps.length f0 ms.length f1 ds.length f2 ls.length f3 ph co ck bo ba lb gd pr)
      replace KB := belowRow_ KB (B := w.heap.size + 1) (by omega) (stC Y0 Y1 Y2 Y3 ps.length f0 ms.length f1 ds.length f2 ls.length f3 ph co ck bo ba lb gd pr)
      replace b2 := (setRow_other _ (w.heap.size + 1) (w.heap.size) (stC Y0 Y1 Y2 Y3 ps.length f0 ms.length f1 ds.length f2 ls.length f3 ph co ck bo ba lb gd pr) (by omega)).trans b2
      replace H6 := (setRow_other _ (w.heap.size + 1) (R6) (stC Y0 Y1 Y2 Y3 ps.length f0 ms.length f1 ds.length f2 ls.length f3 ph co ck bo ba lb gd pr) (by omega)).trans H6
      replace H7 := (setRow_other _ (w.heap.size + 1) (R7) (stC Y0 Y1 Y2 Y3 ps.length f0 ms.length f1 ds.length f2 ls.length f3 ph co ck bo ba lb gd pr) (by omega)).trans H7
      replace Lp := Lp.keeps kk b3 (by decide)
      replace Os := Os.keepsT kk b3 (by decide)
      replace b3 := setRow_heap _ _ _ (stC Y0 Y1 Y2 Y3 ps.length f0 ms.length f1 ds.length f2 ls.length f3 ph co ck bo ba lb gd pr) _ _ b3
      clear kk
      generalize v2.setRow (w.heap.size + 1) (stC Y0 Y1 Y2 Y3 ps.length f0 ms.length f1 ds.length f2 ls.length f3 ph co ck bo ba lb gd pr) = v3 at KB b2 b3 H6 H7 Lp Os ⊢
      refine hK.out _ _ ⟨fun o => cell_of_row _ _ o _ _ _ H6, fun o => cell_of_row _ _ o _ _ _ H7⟩ (fun _ => ?_)
      clear hK K'
      try (change wpAnyH _ _ _ _ _ _ _ (Act.put _ none _) _; dsimp only [Act.put])
      refine wpAnyH_ready (rs := [9]) (by kernel_rfl) (by simp) ?_
      refine AllReadyH.cons rfl (fun K' hK => ?_) AllReadyH.nil
      go_simp
      refine hK.out _ _ ⟨fun o => cell_of_row _ _ o _ _ _ H6, fun o => cell_of_row _ _ o _ _ _ H7⟩ (fun _ => ?_)
      clear hK K'
      try (change wpAnyH _ _ _ _ _ _ _ (Act.put _ (some 4) _) _; dsimp only [Act.put])
      refine wpAnyH_done (by kernel_rfl) ?_ _
      refine NoPanic.normal ?_
      go_wp2_with fail
      exact bodyPost_ret (v := .tuple #[.agg (planC Q0 Q1 Q2 Q3 d.n0 e0 d.n1 e1 d.n2 e2 d.n3 e3 d.l d.p d.t), .agg (stC Y0 Y1 Y2 Y3 ps.length f0 ms.length f1 ds.length f2 ls.length f3 ph co ck bo ba lb gd pr), .int .i64 k]) (results_cells_num Tryz.results12 _ _ _ _ _ _ _ _ _ _ _ _ _ rfl rfl rfl b2 b3 Tryz.underlying32 rfl HIP.out Tryz.underlying38 rfl HIS.out) rfl ⟨_, _, _, _, d, _, ⟨ph, co, ck, bo, ba, lb, ps, P, ds, ls, gd, pr⟩, k, rfl, Lp, Os, hd, ⟨hs.s0, (by show P.length ≤ 12; rw [hl]; exact hs.s1), hs.s2, hs.s3⟩, KB⟩

end Go.Proofs.YtmcafdhffkhcgaaGreat
