/-
  The model's draws of a plan and a state, and of two states (chapter 14).
-/
import Derived.Test.YtdkmhaghnfhajaaGreatDoorMZxLqB
import Derived.Deep.CutBlock
set_option linter.unusedVariables false
namespace Go.Proofs.YtdkmhaghnfhajaaGreatDoor
open Go.RowKit

set_option maxRecDepth 100000 in
set_option maxHeartbeats 4000000 in
theorem drawSnapOf_any (A : Option Addr) (n c : Nat) (w : World) (hB : Bytes w w.heap.size A n) (hn : n ≤ 4096) : Calls Tryz.prog 10 #[.slice A n c] w (GivesPS w) := by
  have HIP : Hid ((Tryz.prog.info? 29).map (·.size) = some 7) := Lib.hid (by kernel_rfl)
  have HIS : Hid ((Tryz.prog.info? 34).map (·.size) = some 12) := Lib.hid (by kernel_rfl)
  have b2 : ((w.alloc (.cells (planC none none none none 0 0 0 0 0 0 0 0 0 0 0) 29)).alloc (.cells (stC none none none none 0 0 0 0 0 0 0 0 0 false 0 0 0 0 0 0) 34)).heap[w.heap.size]? = some (.cells (planC none none none none 0 0 0 0 0 0 0 0 0 0 0) 29) := by
    have hb := (Below.refl (w.alloc (.cells (planC none none none none 0 0 0 0 0 0 0 0 0 0 0) 29)).heap.size (w.alloc (.cells (planC none none none none 0 0 0 0 0 0 0 0 0 0 0) 29))).alloc (Nat.le_refl _) (.cells (stC none none none none 0 0 0 0 0 0 0 0 0 false 0 0 0 0 0 0) 34)
    exact (hb.block w.heap.size (by simp)).trans (heap_alloc_new w _)
  have b3 := heap_alloc2_new w (.cells (planC none none none none 0 0 0 0 0 0 0 0 0 0 0) 29) (.cells (stC none none none none 0 0 0 0 0 0 0 0 0 false 0 0 0 0 0 0) 34)
  have KB : Below w.heap.size w ((w.alloc (.cells (planC none none none none 0 0 0 0 0 0 0 0 0 0 0) 29)).alloc (.cells (stC none none none none 0 0 0 0 0 0 0 0 0 false 0 0 0 0 0 0) 34)) := ((Below.refl _ _).alloc (Nat.le_refl _) _).alloc (by simp) _
  have HB := Lib.hid ((hB.below KB (Nat.le_refl _)).more KB.size)
  clear hB
  go_enter Tryz.func10, Tryz.ntmps10
  go_wp2_with fail
  generalize (w.alloc (.cells (planC none none none none 0 0 0 0 0 0 0 0 0 0 0) 29)).alloc (.cells (stC none none none none 0 0 0 0 0 0 0 0 0 false 0 0 0 0 0 0) 34) = w0 at b2 b3 KB HB ⊢
  refine (l1New_any A n c w0 HB.out hn).mono ?_
  rintro e w1 ⟨g, rfl, hg, hc1, K1⟩
  have hz3 := (Array.getElem?_eq_some_iff.1 b3).1
  replace b2 := (K1.block _ (Array.getElem?_eq_some_iff.1 b2).1).trans b2
  replace b3 := (K1.block _ (Array.getElem?_eq_some_iff.1 b3).1).trans b3
  replace KB := KB.trans (K1.mono KB.size)
  clear K1 HB
  go_wp2_with fail
  refine (l5DrawAny_any g w1 hc1).mono ?_
  rintro e w2 ⟨v0, v1, v2, v3, d, vs, s, rfl, Lp, Os, hd, hs, CU2, hk⟩
  replace b2 := (hk.block _ (Array.getElem?_eq_some_iff.1 b2).1 (by show ¬ w.heap.size = g; omega)).trans b2
  replace b3 := (hk.block _ (Array.getElem?_eq_some_iff.1 b3).1 (by show ¬ w.heap.size + 1 = g; omega)).trans b3
  replace Lp := Lp.base KB.size
  replace Os := Os.base KB.size
  replace KB := KB.trans (hk.below (B := w.heap.size) KB.size (by rintro b hb rfl; omega))
  clear hk CU2 hc1
  obtain ⟨y0, y1, y2, y3, rfl, -⟩ := Os.it
  obtain ⟨⟨Y0, f0, rfl⟩, ⟨Y1, f1, rfl⟩, ⟨Y2, f2, rfl⟩, ⟨Y3, f3, rfl⟩⟩ := Os.shapes
  obtain ⟨Q0, e0, rfl, -, -⟩ := Lp.o0.formR
  obtain ⟨Q1, e1, rfl, -, -⟩ := Lp.o1.formR
  obtain ⟨Q2, e2, rfl, -, -⟩ := Lp.o2.formR
  obtain ⟨Q3, e3, rfl, -, -⟩ := Lp.o3.formR
  have K2 : Keeps (· = w.heap.size) w2 (w2.setRow w.heap.size (planC Q0 Q1 Q2 Q3 d.n0 e0 d.n1 e1 d.n2 e2 d.n3 e3 d.l d.p d.t)) := keeps_setRow ..
  have r2 := setRow_heap w2 w.heap.size _ (planC Q0 Q1 Q2 Q3 d.n0 e0 d.n1 e1 d.n2 e2 d.n3 e3 d.l d.p d.t) _ _ b2
  have b3' := (setRow_other w2 w.heap.size _ (planC Q0 Q1 Q2 Q3 d.n0 e0 d.n1 e1 d.n2 e2 d.n3 e3 d.l d.p d.t) (Nat.succ_ne_self _)).trans b3
  have K3 : Keeps (· = w.heap.size + 1) (w2.setRow w.heap.size (planC Q0 Q1 Q2 Q3 d.n0 e0 d.n1 e1 d.n2 e2 d.n3 e3 d.l d.p d.t)) ((w2.setRow w.heap.size (planC Q0 Q1 Q2 Q3 d.n0 e0 d.n1 e1 d.n2 e2 d.n3 e3 d.l d.p d.t)).setRow (w.heap.size + 1) (stC Y0 Y1 Y2 Y3 s.pods.length f0 s.mnts.length f1 s.devs.length f2 s.lks.length f3 s.ph s.co s.ck s.bo s.ba s.lb s.gd s.pr)) := keeps_setRow ..
  have r3 := setRow_heap (w2.setRow w.heap.size (planC Q0 Q1 Q2 Q3 d.n0 e0 d.n1 e1 d.n2 e2 d.n3 e3 d.l d.p d.t)) (w.heap.size + 1) _ (stC Y0 Y1 Y2 Y3 s.pods.length f0 s.mnts.length f1 s.devs.length f2 s.lks.length f3 s.ph s.co s.ck s.bo s.ba s.lb s.gd s.pr) _ _ b3'
  have r2' := (setRow_other (w2.setRow w.heap.size (planC Q0 Q1 Q2 Q3 d.n0 e0 d.n1 e1 d.n2 e2 d.n3 e3 d.l d.p d.t)) (w.heap.size + 1) w.heap.size (stC Y0 Y1 Y2 Y3 s.pods.length f0 s.mnts.length f1 s.devs.length f2 s.lks.length f3 s.ph s.co s.ck s.bo s.ba s.lb s.gd s.pr) (by omega)).trans r2
  go_wp2_with (first
    | ((with_reducible refine store_plan (x := 2) (y := 9) (g := w.heap.size) (cs := planC Q0 Q1 Q2 Q3 d.n0 e0 d.n1 e1 d.n2 e2 d.n3 e3 d.l d.p d.t) ?_ ?_ b2 ?_ ?_ ?_ ?_)
       · rfl
       · rfl
       · exact HIP.out
       · rfl
       · simp [Value.oneCell'])
    | ((with_reducible refine store_state (x := 3) (y := 10) (g := w.heap.size + 1) (cs := stC Y0 Y1 Y2 Y3 s.pods.length f0 s.mnts.length f1 s.devs.length f2 s.lks.length f3 s.ph s.co s.ck s.bo s.ba s.lb s.gd s.pr) ?_ ?_ b3' ?_ ?_ ?_ ?_)
       · rfl
       · rfl
       · exact HIS.out
       · rfl
       · simp [Value.oneCell']))
  exact bodyPost_ret (v := .tuple #[.agg (planC Q0 Q1 Q2 Q3 d.n0 e0 d.n1 e1 d.n2 e2 d.n3 e3 d.l d.p d.t), .agg (stC Y0 Y1 Y2 Y3 s.pods.length f0 s.mnts.length f1 s.devs.length f2 s.lks.length f3 s.ph s.co s.ck s.bo s.ba s.lb s.gd s.pr)]) (results_two_cells Tryz.results10 _ _ _ _ _ _ _ _ _ _ _ _ rfl rfl r2' r3 Tryz.underlying29 rfl HIP.out Tryz.underlying34 rfl HIS.out) rfl ⟨_, _, _, _, d, _, s, rfl, (Lp.keeps K2 b2 (by decide)).keeps K3 b3' (by decide), (Os.keepsT K2 b2 (by decide)).keepsT K3 b3' (by decide), hd, hs, below_setRow (below_setRow KB (Nat.le_refl _) _) (Nat.le_succ _) _⟩

theorem podCs_set2 (l : List (Int × Int)) {i : Nat} (hi : i < l.length) (r : Int) : podCs (l.set i ((podA l i).1, r)) = (podCs l).set (i * 2 + 1) (.int .i64 r) := by
  rw [podCs_set l hi]
  have h1 := (podCs_at l hi).1
  apply List.ext_getElem?
  intro j
  by_cases e : j = i * 2
  · subst e
    rw [List.getElem?_set_ne (by omega), List.getElem?_set_self (by rw [podCs_len]; omega), List.getElem?_set_ne (by omega), h1]
  · by_cases e2 : j = i * 2 + 1
    · subst e2
      rw [List.getElem?_set_self (by rw [List.length_set, podCs_len]; omega), List.getElem?_set_self (by rw [podCs_len]; omega)]
    · rw [List.getElem?_set_ne (by omega), List.getElem?_set_ne (by omega), List.getElem?_set_ne (by omega)]
theorem mntCs_set1 (l : List (Bool × Int)) {i : Nat} (hi : i < l.length) (r : Bool) : mntCs (l.set i (r, (mntA l i).2)) = (mntCs l).set (i * 2) (.bool r) := by
  rw [mntCs_set l hi]
  have h1 := (mntCs_at l hi).2
  apply List.ext_getElem?
  intro j
  by_cases e : j = i * 2 + 1
  · subst e
    rw [List.getElem?_set_self (by rw [List.length_set, mntCs_len]; omega), List.getElem?_set_ne (by omega), h1]
  · rw [List.getElem?_set_ne (by omega)]
theorem OwnSt.podSince {W : World} {B gr : Nat} {Y1 Y2 Y3 : Option Addr} {n0 f0 n1 f1 n2 f2 n3 f3 : Nat} {ph ck bo ba lb gd pr : Int} {co : Bool} {s : StD} (h : OwnSt W B (.agg (stC (some ⟨gr, 0, none⟩) Y1 Y2 Y3 n0 f0 n1 f1 n2 f2 n3 f3 ph co ck bo ba lb gd pr)) s) {i : Nat} (hi : i < s.pods.length) (r : Int) :
    OwnSt (W.setCell ⟨gr, i * 2 + 1, none⟩ (.int .i64 r)) B (.agg (stC (some ⟨gr, 0, none⟩) Y1 Y2 Y3 n0 f0 n1 f1 n2 f2 n3 f3 ph co ck bo ba lb gd pr)) ⟨s.ph, s.co, s.ck, s.bo, s.ba, s.lb, s.pods.set i ((podA s.pods i).1, r), s.mnts, s.devs, s.lks, s.gd, s.pr⟩ := by
  obtain ⟨u0, u1, u2, u3, hy, z0, z1, z2, z3⟩ := h.it
  have hy0 := hy
  injection hy with hy
  obtain rfl : Value.slice (some ⟨gr, 0, none⟩) n0 f0 = u0 := Option.some.inj (show some _ = some u0 from congrArg (fun a : Array Value => a[6]?) hy)
  have hnn : n0 = s.pods.length := by
    obtain ⟨A, c, g, hv, -⟩ := open_row z0
    injection hv
  subst hnn
  obtain ⟨cs, hgr⟩ := row_block z0
  have kk : Keeps (· = gr) W (W.setCell ⟨gr, i * 2 + 1, none⟩ (.int .i64 r)) := Keeps.set (S := (· = gr)) (Keeps.refl _ _) rfl _
  refine ⟨_, u1, u2, u3, hy0, ?_, ownsRow_keeps z1 kk (row_apart z1 hgr (by decide)), ownsRow_keeps z2 kk (row_apart z2 hgr (by decide)), ownsRow_keeps z3 kk (row_apart z3 hgr (by decide))⟩
  dsimp only
  rw [List.length_set, podCs_set2 _ hi]
  exact (World.ownsRow.stored z0 (i * 2 + 1) (.int .i64 r)).1
theorem OwnSt.mntHeld {W : World} {B gr : Nat} {Y0 Y2 Y3 : Option Addr} {n0 f0 n1 f1 n2 f2 n3 f3 : Nat} {ph ck bo ba lb gd pr : Int} {co : Bool} {s : StD} (h : OwnSt W B (.agg (stC Y0 (some ⟨gr, 0, none⟩) Y2 Y3 n0 f0 n1 f1 n2 f2 n3 f3 ph co ck bo ba lb gd pr)) s) {i : Nat} (hi : i < s.mnts.length) (r : Bool) :
    OwnSt (W.setCell ⟨gr, i * 2, none⟩ (.bool r)) B (.agg (stC Y0 (some ⟨gr, 0, none⟩) Y2 Y3 n0 f0 n1 f1 n2 f2 n3 f3 ph co ck bo ba lb gd pr)) ⟨s.ph, s.co, s.ck, s.bo, s.ba, s.lb, s.pods, s.mnts.set i (r, (mntA s.mnts i).2), s.devs, s.lks, s.gd, s.pr⟩ := by
  obtain ⟨u0, u1, u2, u3, hy, z0, z1, z2, z3⟩ := h.it
  have hy0 := hy
  injection hy with hy
  obtain rfl : Value.slice (some ⟨gr, 0, none⟩) n1 f1 = u1 := Option.some.inj (show some _ = some u1 from congrArg (fun a : Array Value => a[7]?) hy)
  have hnn : n1 = s.mnts.length := by
    obtain ⟨A, c, g, hv, -⟩ := open_row z1
    injection hv
  subst hnn
  obtain ⟨cs, hgr⟩ := row_block z1
  have kk : Keeps (· = gr) W (W.setCell ⟨gr, i * 2, none⟩ (.bool r)) := Keeps.set (S := (· = gr)) (Keeps.refl _ _) rfl _
  refine ⟨u0, _, u2, u3, hy0, ownsRow_keeps z0 kk (row_apart z0 hgr (by decide)), ?_, ownsRow_keeps z2 kk (row_apart z2 hgr (by decide)), ownsRow_keeps z3 kk (row_apart z3 hgr (by decide))⟩
  dsimp only
  rw [List.length_set, mntCs_set1 _ hi]
  exact (World.ownsRow.stored z1 (i * 2) (.bool r)).1

theorem rows_apart {W : World} {B B' e e' k k' n n' : Nat} {u v : Value} {xs ys : List Value} (h : W.ownsRow B e k u n xs) (h' : W.ownsRow B' e' k' v n' ys) (hne : e ≠ e') : ∀ r, u.ownBlock = some r → ¬ v.ownBlock = some r := by
  intro r hr hr'
  rcases h.2 with ⟨rfl, _⟩ | ⟨g1, c1, cur1, rfl, _, hh1, _⟩
  · cases hr
  · rcases h'.2 with ⟨rfl, _⟩ | ⟨g2, c2, cur2, rfl, _, hh2, _⟩
    · cases hr'
    · obtain rfl : g1 = r := by simpa [Value.ownBlock] using hr
      obtain rfl : g2 = g1 := by simpa [Value.ownBlock] using hr'
      rw [hh1] at hh2
      injection hh2 with hh2
      injection hh2 with _ h2 _
      exact hne h2
/-- A state's locks, replaced by another row. -/
theorem OwnSt.lksPut {W W' : World} {B : Nat} {Y0 Y1 Y2 Y3 : Option Addr} {n0 f0 n1 f1 n2 f2 n3 f3 : Nat} {ph ck bo ba lb gd pr : Int} {co : Bool} {s : StD} {v : Value} {l : List Int} (h : OwnSt W B (.agg (stC Y0 Y1 Y2 Y3 n0 f0 n1 f1 n2 f2 n3 f3 ph co ck bo ba lb gd pr)) s)
    (kk : Keeps (fun b => (Value.slice Y3 n3 f3).ownBlock = some b) W W') (hv : W'.ownsRow B 2 1 v l.length (lkCs l)) :
    OwnSt W' B (.agg #[.int .i64 ph, .bool co, .int .i64 ck, .int .i64 bo, .int .i64 ba, .int .i64 lb, .slice Y0 n0 f0, .slice Y1 n1 f1, .slice Y2 n2 f2, v, .int .i64 gd, .int .i64 pr]) ⟨s.ph, s.co, s.ck, s.bo, s.ba, s.lb, s.pods, s.mnts, s.devs, l, s.gd, s.pr⟩ := by
  obtain ⟨u0, u1, u2, u3, hy, z0, z1, z2, z3⟩ := h.it
  injection hy with hy
  obtain rfl : Value.slice Y0 n0 f0 = u0 := Option.some.inj (show some _ = some u0 from congrArg (fun a : Array Value => a[6]?) hy)
  obtain rfl : Value.slice Y1 n1 f1 = u1 := Option.some.inj (show some _ = some u1 from congrArg (fun a : Array Value => a[7]?) hy)
  obtain rfl : Value.slice Y2 n2 f2 = u2 := Option.some.inj (show some _ = some u2 from congrArg (fun a : Array Value => a[8]?) hy)
  obtain rfl : Value.slice Y3 n3 f3 = u3 := Option.some.inj (show some _ = some u3 from congrArg (fun a : Array Value => a[9]?) hy)
  have e0 : Value.int .i64 ph = .int .i64 s.ph := Option.some.inj (show some _ = some (Value.int .i64 s.ph) from congrArg (fun a : Array Value => a[0]?) hy)
  have e1 : Value.bool co = .bool s.co := Option.some.inj (show some _ = some (Value.bool s.co) from congrArg (fun a : Array Value => a[1]?) hy)
  have e2 : Value.int .i64 ck = .int .i64 s.ck := Option.some.inj (show some _ = some (Value.int .i64 s.ck) from congrArg (fun a : Array Value => a[2]?) hy)
  have e3 : Value.int .i64 bo = .int .i64 s.bo := Option.some.inj (show some _ = some (Value.int .i64 s.bo) from congrArg (fun a : Array Value => a[3]?) hy)
  have e4 : Value.int .i64 ba = .int .i64 s.ba := Option.some.inj (show some _ = some (Value.int .i64 s.ba) from congrArg (fun a : Array Value => a[4]?) hy)
  have e5 : Value.int .i64 lb = .int .i64 s.lb := Option.some.inj (show some _ = some (Value.int .i64 s.lb) from congrArg (fun a : Array Value => a[5]?) hy)
  have e6 : Value.int .i64 gd = .int .i64 s.gd := Option.some.inj (show some _ = some (Value.int .i64 s.gd) from congrArg (fun a : Array Value => a[10]?) hy)
  have e7 : Value.int .i64 pr = .int .i64 s.pr := Option.some.inj (show some _ = some (Value.int .i64 s.pr) from congrArg (fun a : Array Value => a[11]?) hy)
  rw [e0, e1, e2, e3, e4, e5, e6, e7]
  exact ⟨_, _, _, v, rfl, ownsRow_keeps z0 kk (fun r hr => rows_apart z0 z3 (by decide) r hr), ownsRow_keeps z1 kk (fun r hr => rows_apart z1 z3 (by decide) r hr), ownsRow_keeps z2 kk (fun r hr => rows_apart z2 z3 (by decide) r hr), hv⟩
theorem OwnSt.lksRow {W : World} {B : Nat} {Y0 Y1 Y2 Y3 : Option Addr} {n0 f0 n1 f1 n2 f2 n3 f3 : Nat} {ph ck bo ba lb gd pr : Int} {co : Bool} {s : StD} (h : OwnSt W B (.agg (stC Y0 Y1 Y2 Y3 n0 f0 n1 f1 n2 f2 n3 f3 ph co ck bo ba lb gd pr)) s) : W.ownsRow B 2 1 (.slice Y3 n3 f3) s.lks.length (lkCs s.lks) := by
  obtain ⟨u0, u1, u2, u3, hy, z0, z1, z2, z3⟩ := h.it
  injection hy with hy
  obtain rfl : Value.slice Y3 n3 f3 = u3 := Option.some.inj (show some _ = some u3 from congrArg (fun a : Array Value => a[9]?) hy)
  exact z3

def Gives2 (w : World) (e : Ending) (w' : World) : Prop := ∃ u v s t, e = .returned (.tuple #[u, v]) ∧ IsSt w' w'.heap.size u s ∧ IsSt w' w'.heap.size v t ∧ Below w.heap.size w w'
set_option maxRecDepth 100000 in
set_option maxHeartbeats 8000000 in
theorem drawSameState_any (A : Option Addr) (n c : Nat) (w : World) (hB : Bytes w w.heap.size A n) (hn : n ≤ 4096) : Calls Tryz.prog 12 #[.slice A n c] w (Gives2 w) := by
  have HIP : Hid ((Tryz.prog.info? 29).map (·.size) = some 7) := Lib.hid (by kernel_rfl)
  have HIS : Hid ((Tryz.prog.info? 34).map (·.size) = some 12) := Lib.hid (by kernel_rfl)
  have b2 : ((w.alloc (.cells (stC none none none none 0 0 0 0 0 0 0 0 0 false 0 0 0 0 0 0) 34)).alloc (.cells (stC none none none none 0 0 0 0 0 0 0 0 0 false 0 0 0 0 0 0) 34)).heap[w.heap.size]? = some (.cells (stC none none none none 0 0 0 0 0 0 0 0 0 false 0 0 0 0 0 0) 34) := by
    have hb := (Below.refl (w.alloc (.cells (stC none none none none 0 0 0 0 0 0 0 0 0 false 0 0 0 0 0 0) 34)).heap.size (w.alloc (.cells (stC none none none none 0 0 0 0 0 0 0 0 0 false 0 0 0 0 0 0) 34))).alloc (Nat.le_refl _) (.cells (stC none none none none 0 0 0 0 0 0 0 0 0 false 0 0 0 0 0 0) 34)
    exact (hb.block w.heap.size (by simp)).trans (heap_alloc_new w _)
  have b3 := heap_alloc2_new w (.cells (stC none none none none 0 0 0 0 0 0 0 0 0 false 0 0 0 0 0 0) 34) (.cells (stC none none none none 0 0 0 0 0 0 0 0 0 false 0 0 0 0 0 0) 34)
  have KB : Below w.heap.size w ((w.alloc (.cells (stC none none none none 0 0 0 0 0 0 0 0 0 false 0 0 0 0 0 0) 34)).alloc (.cells (stC none none none none 0 0 0 0 0 0 0 0 0 false 0 0 0 0 0 0) 34)) := ((Below.refl _ _).alloc (Nat.le_refl _) _).alloc (by simp) _
  have HB := Lib.hid ((hB.below KB (Nat.le_refl _)).more KB.size)
  clear hB
  go_enter Tryz.func12, Tryz.ntmps12
  go_wp2_with fail
  generalize ((w.alloc (.cells (stC none none none none 0 0 0 0 0 0 0 0 0 false 0 0 0 0 0 0) 34)).alloc (.cells (stC none none none none 0 0 0 0 0 0 0 0 0 false 0 0 0 0 0 0) 34)) = w0 at b2 b3 KB HB ⊢
  refine (l1New_any A n c w0 HB.out hn).mono ?_
  rintro e w1 ⟨g, rfl, hg, hc1, K1⟩
  have hz3 := (Array.getElem?_eq_some_iff.1 b3).1
  replace b2 := (K1.block _ (Array.getElem?_eq_some_iff.1 b2).1).trans b2
  replace b3 := (K1.block _ (Array.getElem?_eq_some_iff.1 b3).1).trans b3
  replace KB := KB.trans (K1.mono KB.size)
  clear K1 HB
  go_wp2_with fail
  refine (l5DrawAny_any g w1 hc1).mono ?_
  rintro e w2 ⟨v0, v1, v2, v3, d, vs, s, rfl, Lp, Os, hd, hs, CU, hk⟩
  replace b2 := (hk.block _ (Array.getElem?_eq_some_iff.1 b2).1 (by show ¬ w.heap.size = g; omega)).trans b2
  replace b3 := (hk.block _ (Array.getElem?_eq_some_iff.1 b3).1 (by show ¬ w.heap.size + 1 = g; omega)).trans b3
  have hl2 : g < w2.heap.size := CU.lt
  have hz4 := (Array.getElem?_eq_some_iff.1 b3).1
  replace Lp := Lp.base KB.size
  have HGa : ∀ r, rowsOf vs r → r < w2.heap.size := fun r hr => (Os.blocks hr).2
  replace Os := Os.base KB.size
  replace KB := KB.trans (hk.below (B := w.heap.size) KB.size (by rintro b hb rfl; omega))
  clear hk hc1
  obtain ⟨y0, y1, y2, y3, rfl, -⟩ := Os.it
  obtain ⟨⟨Y0, f0, rfl⟩, ⟨Y1, f1, rfl⟩, ⟨Y2, f2, rfl⟩, ⟨Y3, f3, rfl⟩⟩ := Os.shapes
  obtain ⟨Q0, e0, rfl, -, -⟩ := Lp.o0.formR
  obtain ⟨Q1, e1, rfl, -, -⟩ := Lp.o1.formR
  obtain ⟨Q2, e2, rfl, -, -⟩ := Lp.o2.formR
  obtain ⟨Q3, e3, rfl, -, -⟩ := Lp.o3.formR
  have hA : Below w2.heap.size w2 ((w2.alloc (.cells (planC none none none none 0 0 0 0 0 0 0 0 0 0 0) 29)).alloc (.cells (stC none none none none 0 0 0 0 0 0 0 0 0 false 0 0 0 0 0 0) 34)) := ((Below.refl _ _).alloc (Nat.le_refl _) _).alloc (by simp) _
  have H6 : ((w2.alloc (.cells (planC none none none none 0 0 0 0 0 0 0 0 0 0 0) 29)).alloc (.cells (stC none none none none 0 0 0 0 0 0 0 0 0 false 0 0 0 0 0 0) 34)).heap[w2.heap.size]? = some (.cells (planC none none none none 0 0 0 0 0 0 0 0 0 0 0) 29) := by
    have hb := (Below.refl (w2.alloc (.cells (planC none none none none 0 0 0 0 0 0 0 0 0 0 0) 29)).heap.size (w2.alloc (.cells (planC none none none none 0 0 0 0 0 0 0 0 0 0 0) 29))).alloc (Nat.le_refl _) (.cells (stC none none none none 0 0 0 0 0 0 0 0 0 false 0 0 0 0 0 0) 34)
    exact (hb.block w2.heap.size (by simp)).trans (heap_alloc_new w2 _)
  have H7 := heap_alloc2_new w2 (.cells (planC none none none none 0 0 0 0 0 0 0 0 0 0 0) 29) (.cells (stC none none none none 0 0 0 0 0 0 0 0 0 false 0 0 0 0 0 0) 34)
  have H7' := (setRow_other ((w2.alloc (.cells (planC none none none none 0 0 0 0 0 0 0 0 0 0 0) 29)).alloc (.cells (stC none none none none 0 0 0 0 0 0 0 0 0 false 0 0 0 0 0 0) 34)) w2.heap.size _ (planC Q0 Q1 Q2 Q3 d.n0 e0 d.n1 e1 d.n2 e2 d.n3 e3 d.l d.p d.t) (Nat.succ_ne_self _)).trans H7
  go_upto_region 3 with (first
    | ((with_reducible refine store_plan (x := 5) (y := 15) (g := w2.heap.size) (cs := planC Q0 Q1 Q2 Q3 d.n0 e0 d.n1 e1 d.n2 e2 d.n3 e3 d.l d.p d.t) ?_ ?_ H6 ?_ ?_ ?_ ?_)
       · rfl
       · rfl
       · exact HIP.out
       · rfl
       · simp [Value.oneCell'])
    | ((with_reducible refine store_state (x := 6) (y := 16) (g := w2.heap.size + 1) (cs := stC Y0 Y1 Y2 Y3 s.pods.length f0 s.mnts.length f1 s.devs.length f2 s.lks.length f3 s.ph s.co s.ck s.bo s.ba s.lb s.gd s.pr) ?_ ?_ H7' ?_ ?_ ?_ ?_)
       · rfl
       · rfl
       · exact HIS.out
       · rfl
       · simp [Value.oneCell']))
  have h2w := KB.size
  have hw2 : w2.heap.size < w2.heap.size + 1 := Nat.lt_succ_self _
  have hA2 := below_setRow (below_setRow hA (Nat.le_refl _) (planC Q0 Q1 Q2 Q3 d.n0 e0 d.n1 e1 d.n2 e2 d.n3 e3 d.l d.p d.t)) (Nat.le_succ _) (stC Y0 Y1 Y2 Y3 s.pods.length f0 s.mnts.length f1 s.devs.length f2 s.lks.length f3 s.ph s.co s.ck s.bo s.ba s.lb s.gd s.pr)
  have G6 := (setRow_other (((w2.alloc (.cells (planC none none none none 0 0 0 0 0 0 0 0 0 0 0) 29)).alloc (.cells (stC none none none none 0 0 0 0 0 0 0 0 0 false 0 0 0 0 0 0) 34)).setRow w2.heap.size (planC Q0 Q1 Q2 Q3 d.n0 e0 d.n1 e1 d.n2 e2 d.n3 e3 d.l d.p d.t)) (w2.heap.size + 1) w2.heap.size (stC Y0 Y1 Y2 Y3 s.pods.length f0 s.mnts.length f1 s.devs.length f2 s.lks.length f3 s.ph s.co s.ck s.bo s.ba s.lb s.gd s.pr) (by omega)).trans (setRow_heap _ _ _ (planC Q0 Q1 Q2 Q3 d.n0 e0 d.n1 e1 d.n2 e2 d.n3 e3 d.l d.p d.t) _ _ H6)
  have G7 := setRow_heap (((w2.alloc (.cells (planC none none none none 0 0 0 0 0 0 0 0 0 0 0) 29)).alloc (.cells (stC none none none none 0 0 0 0 0 0 0 0 0 false 0 0 0 0 0 0) 34)).setRow w2.heap.size (planC Q0 Q1 Q2 Q3 d.n0 e0 d.n1 e1 d.n2 e2 d.n3 e3 d.l d.p d.t)) (w2.heap.size + 1) _ (stC Y0 Y1 Y2 Y3 s.pods.length f0 s.mnts.length f1 s.devs.length f2 s.lks.length f3 s.ph s.co s.ck s.bo s.ba s.lb s.gd s.pr) _ _ H7'
  clear H6 H7 H7' hA
  replace b2 := (hA2.block _ (Array.getElem?_eq_some_iff.1 b2).1).trans b2
  replace b3 := (hA2.block _ (Array.getElem?_eq_some_iff.1 b3).1).trans b3
  replace Lp := Lp.below hA2
  replace Os := Os.below hA2
  replace KB := KB.trans (hA2.mono KB.size)
  replace CU := CU.below hA2
  have hg2 : g < w2.heap.size := by assumption
  clear hA2 hw2
  generalize (((w2.alloc (.cells (planC none none none none 0 0 0 0 0 0 0 0 0 0 0) 29)).alloc (.cells (stC none none none none 0 0 0 0 0 0 0 0 0 false 0 0 0 0 0 0) 34)).setRow w2.heap.size (planC Q0 Q1 Q2 Q3 d.n0 e0 d.n1 e1 d.n2 e2 d.n3 e3 d.l d.p d.t)).setRow (w2.heap.size + 1) (stC Y0 Y1 Y2 Y3 s.pods.length f0 s.mnts.length f1 s.devs.length f2 s.lks.length f3 s.ph s.co s.ck s.bo s.ba s.lb s.gd s.pr) = w3 at b2 b3 G6 G7 Lp Os KB CU ⊢
  obtain ⟨R7, hR7⟩ : ∃ R, w2.heap.size + 1 = R := ⟨_, rfl⟩
  rw [hR7] at G7 ⊢
  generalize w2.heap.size = R6 at G6 hR7 hz4 hl2 hg2 h2w HGa ⊢
  have H6 := G6
  have H7 := G7
  clear G6 G7
  clear Lp H6
  have hf : StFits s 1048576 := ⟨by have := hs.s0; omega, by have := hs.s1; omega, by have := hs.s2; omega, by have := hs.s3; omega⟩
  have hC7 : ∀ o, w3.cell? ⟨R7, o, none⟩ = (stC Y0 Y1 Y2 Y3 s.pods.length f0 s.mnts.length f1 s.devs.length f2 s.lks.length f3 s.ph s.co s.ck s.bo s.ba s.lb s.gd s.pr)[o]? := fun o => cell_of_row _ _ o _ _ _ H7
  go_wp2_with fail
  refine (l1Once_any g 4 w3 CU (by omega) (by omega)).mono ?_
  rintro e w4 ⟨b, rfl, CU4, hk⟩
  obtain ⟨gcs, hgc⟩ := CU.cells
  replace Os := Os.keepsT hk hgc (by decide)
  replace b2 := (hk.block _ (Array.getElem?_eq_some_iff.1 b2).1 (by show ¬ w.heap.size = g; omega)).trans b2
  replace b3 := (hk.block _ (Array.getElem?_eq_some_iff.1 b3).1 (by show ¬ w.heap.size + 1 = g; omega)).trans b3
  replace H7 := (hk.block _ (Array.getElem?_eq_some_iff.1 H7).1 (by show ¬ R7 = g; omega)).trans H7
  replace KB := KB.trans (hk.below (B := w.heap.size) KB.size (by rintro b hb rfl; omega))
  clear hk CU hgc
  have CU := CU4
  clear CU4
  cases b
  case true =>
    go_wp2_with fail
    refine (l5DrawAny_any g w4 CU).mono ?_
    rintro e x2 ⟨z0, z1, z2, z3, dq, us, s2, rfl, Lp2, Os2, hd2, hs2, CU2, hk⟩
    have h4s := KB.size
    replace Os2 := Os2.base h4s
    obtain ⟨gcs, hgc⟩ := CU.cells
    replace Os := Os.keepsT hk hgc (by decide)
    replace b2 := (hk.block _ (Array.getElem?_eq_some_iff.1 b2).1 (by show ¬ w.heap.size = g; omega)).trans b2
    replace b3 := (hk.block _ (Array.getElem?_eq_some_iff.1 b3).1 (by show ¬ w.heap.size + 1 = g; omega)).trans b3
    replace H7 := (hk.block _ (Array.getElem?_eq_some_iff.1 H7).1 (by show ¬ R7 = g; omega)).trans H7
    replace KB := KB.trans (hk.below (B := w.heap.size) KB.size (by rintro b hb rfl; omega))
    clear hk CU CU2 hgc
    obtain ⟨y0, y1, y2, y3, rfl, -⟩ := Os2.it
    obtain ⟨⟨Z0, j0, rfl⟩, ⟨Z1, j1, rfl⟩, ⟨Z2, j2, rfl⟩, ⟨Z3, j3, rfl⟩⟩ := Os2.shapes
    obtain ⟨U0, i0, rfl, -, -⟩ := Lp2.o0.formR
    obtain ⟨U1, i1, rfl, -, -⟩ := Lp2.o1.formR
    obtain ⟨U2, i2, rfl, -, -⟩ := Lp2.o2.formR
    obtain ⟨U3, i3, rfl, -, -⟩ := Lp2.o3.formR
    clear Lp2
    have hA : Below x2.heap.size x2 ((x2.alloc (.cells (planC none none none none 0 0 0 0 0 0 0 0 0 0 0) 29)).alloc (.cells (stC none none none none 0 0 0 0 0 0 0 0 0 false 0 0 0 0 0 0) 34)) := ((Below.refl _ _).alloc (Nat.le_refl _) _).alloc (by simp) _
    have G6 : ((x2.alloc (.cells (planC none none none none 0 0 0 0 0 0 0 0 0 0 0) 29)).alloc (.cells (stC none none none none 0 0 0 0 0 0 0 0 0 false 0 0 0 0 0 0) 34)).heap[x2.heap.size]? = some (.cells (planC none none none none 0 0 0 0 0 0 0 0 0 0 0) 29) := by
      have hb := (Below.refl (x2.alloc (.cells (planC none none none none 0 0 0 0 0 0 0 0 0 0 0) 29)).heap.size (x2.alloc (.cells (planC none none none none 0 0 0 0 0 0 0 0 0 0 0) 29))).alloc (Nat.le_refl _) (.cells (stC none none none none 0 0 0 0 0 0 0 0 0 false 0 0 0 0 0 0) 34)
      exact (hb.block x2.heap.size (by simp)).trans (heap_alloc_new x2 _)
    have G7 := heap_alloc2_new x2 (.cells (planC none none none none 0 0 0 0 0 0 0 0 0 0 0) 29) (.cells (stC none none none none 0 0 0 0 0 0 0 0 0 false 0 0 0 0 0 0) 34)
    have G7' := (setRow_other ((x2.alloc (.cells (planC none none none none 0 0 0 0 0 0 0 0 0 0 0) 29)).alloc (.cells (stC none none none none 0 0 0 0 0 0 0 0 0 false 0 0 0 0 0 0) 34)) x2.heap.size _ (planC U0 U1 U2 U3 dq.n0 i0 dq.n1 i1 dq.n2 i2 dq.n3 i3 dq.l dq.p dq.t) (Nat.succ_ne_self _)).trans G7
    clear hC7
    go_upto_region 5 with (first
      | ((with_reducible refine store_plan (x := 7) (y := 22) (g := x2.heap.size) (cs := planC U0 U1 U2 U3 dq.n0 i0 dq.n1 i1 dq.n2 i2 dq.n3 i3 dq.l dq.p dq.t) ?_ ?_ G6 ?_ ?_ ?_ ?_)
         · rfl
         · rfl
         · exact HIP.out
         · rfl
         · simp [Value.oneCell'])
      | ((with_reducible refine store_state (x := 8) (y := 23) (g := x2.heap.size + 1) (cs := stC Z0 Z1 Z2 Z3 s2.pods.length j0 s2.mnts.length j1 s2.devs.length j2 s2.lks.length j3 s2.ph s2.co s2.ck s2.bo s2.ba s2.lb s2.gd s2.pr) ?_ ?_ G7' ?_ ?_ ?_ ?_)
         · rfl
         · rfl
         · exact HIS.out
         · rfl
         · simp [Value.oneCell']))
    have h2x := KB.size
    have hz5 := (Array.getElem?_eq_some_iff.1 b3).1
    have hz7 := (Array.getElem?_eq_some_iff.1 H7).1
    have hA2 := below_setRow (below_setRow hA (Nat.le_refl _) (planC U0 U1 U2 U3 dq.n0 i0 dq.n1 i1 dq.n2 i2 dq.n3 i3 dq.l dq.p dq.t)) (Nat.le_succ _) (stC Z0 Z1 Z2 Z3 s2.pods.length j0 s2.mnts.length j1 s2.devs.length j2 s2.lks.length j3 s2.ph s2.co s2.ck s2.bo s2.ba s2.lb s2.gd s2.pr)
    have H9 := setRow_heap (((x2.alloc (.cells (planC none none none none 0 0 0 0 0 0 0 0 0 0 0) 29)).alloc (.cells (stC none none none none 0 0 0 0 0 0 0 0 0 false 0 0 0 0 0 0) 34)).setRow x2.heap.size (planC U0 U1 U2 U3 dq.n0 i0 dq.n1 i1 dq.n2 i2 dq.n3 i3 dq.l dq.p dq.t)) (x2.heap.size + 1) _ (stC Z0 Z1 Z2 Z3 s2.pods.length j0 s2.mnts.length j1 s2.devs.length j2 s2.lks.length j3 s2.ph s2.co s2.ck s2.bo s2.ba s2.lb s2.gd s2.pr) _ _ G7'
    clear G6 G7 G7' hA
    replace b2 := (hA2.block _ (Array.getElem?_eq_some_iff.1 b2).1).trans b2
    replace b3 := (hA2.block _ (Array.getElem?_eq_some_iff.1 b3).1).trans b3
    replace H7 := (hA2.block _ (Array.getElem?_eq_some_iff.1 H7).1).trans H7
    replace Os := Os.below hA2
    replace Os2 := Os2.below hA2
    replace KB := KB.trans (hA2.mono KB.size)
    clear hA2
    generalize (((x2.alloc (.cells (planC none none none none 0 0 0 0 0 0 0 0 0 0 0) 29)).alloc (.cells (stC none none none none 0 0 0 0 0 0 0 0 0 false 0 0 0 0 0 0) 34)).setRow x2.heap.size (planC U0 U1 U2 U3 dq.n0 i0 dq.n1 i1 dq.n2 i2 dq.n3 i3 dq.l dq.p dq.t)).setRow (x2.heap.size + 1) (stC Z0 Z1 Z2 Z3 s2.pods.length j0 s2.mnts.length j1 s2.devs.length j2 s2.lks.length j3 s2.ph s2.co s2.ck s2.bo s2.ba s2.lb s2.gd s2.pr) = x3 at b2 b3 H7 H9 Os Os2 KB ⊢
    obtain ⟨R9, hR9⟩ : ∃ R, x2.heap.size + 1 = R := ⟨_, rfl⟩
    rw [hR9] at H9 ⊢
    go_upto_region 5 with fail
    refine wp_region_noPanic ?_
    refine wp_region_held_drew (S := fun W => (∀ o, W.cell? ⟨R7, o, none⟩ = (stC Y0 Y1 Y2 Y3 s.pods.length f0 s.mnts.length f1 s.devs.length f2 s.lks.length f3 s.ph s.co s.ck s.bo s.ba s.lb s.gd s.pr)[o]?) ∧ (∀ o, W.cell? ⟨R9, o, none⟩ = (stC Z0 Z1 Z2 Z3 s2.pods.length j0 s2.mnts.length j1 s2.devs.length j2 s2.lks.length j3 s2.ph s2.co s2.ck s2.bo s2.ba s2.lb s2.gd s2.pr)[o]?)) (by kernel_rfl) (⟨fun o => cell_of_row _ _ o _ _ _ H7, fun o => cell_of_row _ _ o _ _ _ H9⟩) (fun _ => ?_)
    rw [← heap_drew x3] at b2 b3 H7 H9
    replace KB := KB.drew
    replace Os := Os.below (Below.refl _ _).drew
    replace Os2 := Os2.below (Below.refl _ _).drew
    generalize x3.drew = v0 at KB b2 b3 H7 H9 Os Os2 ⊢
    refine wpAnyH_take (i := 0) (v := ?_) rfl (by kernel_rfl) (by kernel_rfl) (by kernel_rfl) (fun _ _ _ h => h) (Or.inl ⟨by rfl, ?_⟩) ⟨fun o => cell_of_row _ _ o _ _ _ H7, fun o => cell_of_row _ _ o _ _ _ H9⟩ ?_
    rotate_left 1
    · intro w hSw
      obtain ⟨hs6, hs7⟩ := hSw
      go_simp
      try with_reducible rfl
    change wpAnyH _ _ _ _ _ _ _ (Act.put _ (some 24) _) _
    dsimp only [Act.put]
    refine wpAnyH_take (i := 1) (v := ?_) rfl (by kernel_rfl) (by kernel_rfl) (by kernel_rfl) (fun _ _ _ h => h) (Or.inl ⟨by rfl, ?_⟩) ⟨fun o => cell_of_row _ _ o _ _ _ H7, fun o => cell_of_row _ _ o _ _ _ H9⟩ ?_
    rotate_left 1
    · intro w hSw
      obtain ⟨hs6, hs7⟩ := hSw
      go_simp
      try with_reducible rfl
    change wpAnyH _ _ _ _ _ _ _ (Act.put _ (some 25) _) _
    dsimp only [Act.put]
    refine wpAnyH_ready (rs := [2]) (by kernel_rfl) (by simp) ?_
    refine AllReadyH.cons rfl (fun K' hK => ?_) AllReadyH.nil
    rw [if_pos (by rfl)]
    refine wp_store_row 34 (.tmp 2) (.tmp 24) rfl (w.heap.size) (stC Y0 Y1 Y2 Y3 s.pods.length f0 s.mnts.length f1 s.devs.length f2 s.lks.length f3 s.ph s.co s.ck s.bo s.ba s.lb s.gd s.pr) rfl rfl 34 _ b2 HIS.out rfl (by simp [Value.oneCell']) ?_
    have kk := keepsRow_ v0 (w.heap.size) (stC Y0 Y1 Y2 Y3 s.pods.length f0 s.mnts.length f1 s.devs.length f2 s.lks.length f3 s.ph s.co s.ck s.bo s.ba s.lb s.gd s.pr)
    replace KB := belowRow_ KB (B := w.heap.size) (by omega) (stC Y0 Y1 Y2 Y3 s.pods.length f0 s.mnts.length f1 s.devs.length f2 s.lks.length f3 s.ph s.co s.ck s.bo s.ba s.lb s.gd s.pr)
    replace b3 := (setRow_other _ (w.heap.size) (w.heap.size + 1) (stC Y0 Y1 Y2 Y3 s.pods.length f0 s.mnts.length f1 s.devs.length f2 s.lks.length f3 s.ph s.co s.ck s.bo s.ba s.lb s.gd s.pr) (by omega)).trans b3
    replace H7 := (setRow_other _ (w.heap.size) (R7) (stC Y0 Y1 Y2 Y3 s.pods.length f0 s.mnts.length f1 s.devs.length f2 s.lks.length f3 s.ph s.co s.ck s.bo s.ba s.lb s.gd s.pr) (by omega)).trans H7
    replace H9 := (setRow_other _ (w.heap.size) (R9) (stC Y0 Y1 Y2 Y3 s.pods.length f0 s.mnts.length f1 s.devs.length f2 s.lks.length f3 s.ph s.co s.ck s.bo s.ba s.lb s.gd s.pr) (by omega)).trans H9
    replace Os := Os.keepsT kk b2 (by decide)
    replace Os2 := Os2.keepsT kk b2 (by decide)
    replace b2 := setRow_heap _ _ _ (stC Y0 Y1 Y2 Y3 s.pods.length f0 s.mnts.length f1 s.devs.length f2 s.lks.length f3 s.ph s.co s.ck s.bo s.ba s.lb s.gd s.pr) _ _ b2
    clear kk
    generalize v0.setRow (w.heap.size) (stC Y0 Y1 Y2 Y3 s.pods.length f0 s.mnts.length f1 s.devs.length f2 s.lks.length f3 s.ph s.co s.ck s.bo s.ba s.lb s.gd s.pr) = v1 at KB b2 b3 H7 H9 Os Os2 ⊢
    refine hK.out _ _ ⟨fun o => cell_of_row _ _ o _ _ _ H7, fun o => cell_of_row _ _ o _ _ _ H9⟩ (fun _ => ?_)
    clear hK K'
    try (change wpAnyH _ _ _ _ _ _ _ (Act.put _ none _) _; dsimp only [Act.put])
    refine wpAnyH_ready (rs := [3]) (by kernel_rfl) (by simp) ?_
    refine AllReadyH.cons rfl (fun K' hK => ?_) AllReadyH.nil
    rw [if_pos (by rfl)]
    refine wp_store_row 34 (.tmp 3) (.tmp 25) rfl (w.heap.size + 1) (stC Z0 Z1 Z2 Z3 s2.pods.length j0 s2.mnts.length j1 s2.devs.length j2 s2.lks.length j3 s2.ph s2.co s2.ck s2.bo s2.ba s2.lb s2.gd s2.pr) rfl rfl 34 _ b3 HIS.out rfl (by simp [Value.oneCell']) ?_
    have kk := keepsRow_ v1 (w.heap.size + 1) (stC Z0 Z1 Z2 Z3 s2.pods.length j0 s2.mnts.length j1 s2.devs.length j2 s2.lks.length j3 s2.ph s2.co s2.ck s2.bo s2.ba s2.lb s2.gd s2.pr)
    replace KB := belowRow_ KB (B := w.heap.size + 1) (by omega) (stC Z0 Z1 Z2 Z3 s2.pods.length j0 s2.mnts.length j1 s2.devs.length j2 s2.lks.length j3 s2.ph s2.co s2.ck s2.bo s2.ba s2.lb s2.gd s2.pr)
    replace b2 := (setRow_other _ (w.heap.size + 1) (w.heap.size) (stC Z0 Z1 Z2 Z3 s2.pods.length j0 s2.mnts.length j1 s2.devs.length j2 s2.lks.length j3 s2.ph s2.co s2.ck s2.bo s2.ba s2.lb s2.gd s2.pr) (by omega)).trans b2
    replace H7 := (setRow_other _ (w.heap.size + 1) (R7) (stC Z0 Z1 Z2 Z3 s2.pods.length j0 s2.mnts.length j1 s2.devs.length j2 s2.lks.length j3 s2.ph s2.co s2.ck s2.bo s2.ba s2.lb s2.gd s2.pr) (by omega)).trans H7
    replace H9 := (setRow_other _ (w.heap.size + 1) (R9) (stC Z0 Z1 Z2 Z3 s2.pods.length j0 s2.mnts.length j1 s2.devs.length j2 s2.lks.length j3 s2.ph s2.co s2.ck s2.bo s2.ba s2.lb s2.gd s2.pr) (by omega)).trans H9
    replace Os := Os.keepsT kk b3 (by decide)
    replace Os2 := Os2.keepsT kk b3 (by decide)
    replace b3 := setRow_heap _ _ _ (stC Z0 Z1 Z2 Z3 s2.pods.length j0 s2.mnts.length j1 s2.devs.length j2 s2.lks.length j3 s2.ph s2.co s2.ck s2.bo s2.ba s2.lb s2.gd s2.pr) _ _ b3
    clear kk
    generalize v1.setRow (w.heap.size + 1) (stC Z0 Z1 Z2 Z3 s2.pods.length j0 s2.mnts.length j1 s2.devs.length j2 s2.lks.length j3 s2.ph s2.co s2.ck s2.bo s2.ba s2.lb s2.gd s2.pr) = v2 at KB b2 b3 H7 H9 Os Os2 ⊢
    refine hK.out _ _ ⟨fun o => cell_of_row _ _ o _ _ _ H7, fun o => cell_of_row _ _ o _ _ _ H9⟩ (fun _ => ?_)
    clear hK K'
    try (change wpAnyH _ _ _ _ _ _ _ (Act.put _ none _) _; dsimp only [Act.put])
    refine wpAnyH_done (by kernel_rfl) ?_ _
    refine NoPanic.normal ?_
    go_wp2_with fail
    exact bodyPost_ret (v := .tuple #[.agg (stC Y0 Y1 Y2 Y3 s.pods.length f0 s.mnts.length f1 s.devs.length f2 s.lks.length f3 s.ph s.co s.ck s.bo s.ba s.lb s.gd s.pr), .agg (stC Z0 Z1 Z2 Z3 s2.pods.length j0 s2.mnts.length j1 s2.devs.length j2 s2.lks.length j3 s2.ph s2.co s2.ck s2.bo s2.ba s2.lb s2.gd s2.pr)]) (results_two_cells Tryz.results12 _ _ _ _ _ _ _ _ _ _ _ _ rfl rfl b2 b3 Tryz.underlying34 rfl HIS.out Tryz.underlying34 rfl HIS.out) rfl ⟨_, _, _, _, rfl, Os.st, Os2.st, KB⟩
  case false =>
  have hC7 : ∀ o, w4.cell? ⟨R7, o, none⟩ = (stC Y0 Y1 Y2 Y3 s.pods.length f0 s.mnts.length f1 s.devs.length f2 s.lks.length f3 s.ph s.co s.ck s.bo s.ba s.lb s.gd s.pr)[o]? := fun o => cell_of_row _ _ o _ _ _ H7
  go_wp2_with fail
  refine (l5Copy_any _ s w4 (Os.isR hf)).mono ?_
  rintro e w5 ⟨vc, rfl, Oc, hb⟩
  have h4s := KB.size
  have hMz := hb.size
  have hg4 : g < w4.heap.size := CU.lt
  have hz7 := (Array.getElem?_eq_some_iff.1 H7).1
  have hz3 := (Array.getElem?_eq_some_iff.1 b3).1
  replace b2 := (hb.block _ (Array.getElem?_eq_some_iff.1 b2).1).trans b2
  replace b3 := (hb.block _ (Array.getElem?_eq_some_iff.1 b3).1).trans b3
  replace H7 := (hb.block _ (Array.getElem?_eq_some_iff.1 H7).1).trans H7
  replace Os := Os.below hb
  replace KB := KB.trans (hb.mono KB.size)
  replace CU := CU.below hb
  clear hb hC7
  have hs0 := hs.s0
  have hs1 := hs.s1
  have hs3 := hs.s3
  generalize hst : s = t at Oc
  rw [hst] at hs0 hs1 hs3
  clear hst
  obtain ⟨y0, y1, y2, y3, rfl, -⟩ := Oc.it
  obtain ⟨⟨X0, h0, rfl⟩, ⟨X1, h1, rfl⟩, ⟨X2, h2, rfl⟩, ⟨X3, h3, rfl⟩⟩ := Oc.shapes
  obtain ⟨ph, co, ck, bo, ba, lb, ps, ms, ds, ls, gd, pr⟩ := t
  dsimp only at Oc hs0 hs1 hs3 ⊢
  have H9z := heap_alloc_new w5 (.cells (stC none none none none 0 0 0 0 0 0 0 0 0 false 0 0 0 0 0 0) 34)
  go_upto_region 7 with (first
    | ((with_reducible refine store_state (x := 9) (y := 27) (g := w5.heap.size) (cs := stC X0 X1 X2 X3 ps.length h0 ms.length h1 ds.length h2 ls.length h3 ph co ck bo ba lb gd pr) ?_ ?_ H9z ?_ ?_ ?_ ?_)
       · rfl
       · rfl
       · exact HIS.out
       · rfl
       · simp [Value.oneCell']))
  have hA2 := below_setRow ((Below.refl w5.heap.size w5).alloc (Nat.le_refl _) (.cells (stC none none none none 0 0 0 0 0 0 0 0 0 false 0 0 0 0 0 0) 34)) (Nat.le_refl _) (stC X0 X1 X2 X3 ps.length h0 ms.length h1 ds.length h2 ls.length h3 ph co ck bo ba lb gd pr)
  have H9 := setRow_heap (w5.alloc (.cells (stC none none none none 0 0 0 0 0 0 0 0 0 false 0 0 0 0 0 0) 34)) w5.heap.size _ (stC X0 X1 X2 X3 ps.length h0 ms.length h1 ds.length h2 ls.length h3 ph co ck bo ba lb gd pr) _ _ H9z
  clear H9z
  have Ob := Oc
  clear Oc
  replace b2 := (hA2.block _ (Array.getElem?_eq_some_iff.1 b2).1).trans b2
  replace b3 := (hA2.block _ (Array.getElem?_eq_some_iff.1 b3).1).trans b3
  replace H7 := (hA2.block _ (Array.getElem?_eq_some_iff.1 H7).1).trans H7
  replace Os := Os.below hA2
  replace KB := KB.trans (hA2.mono KB.size)
  replace CU := CU.below hA2
  replace Ob := Ob.below hA2
  clear hA2
  generalize (w5.alloc (.cells (stC none none none none 0 0 0 0 0 0 0 0 0 false 0 0 0 0 0 0) 34)).setRow w5.heap.size (stC X0 X1 X2 X3 ps.length h0 ms.length h1 ds.length h2 ls.length h3 ph co ck bo ba lb gd pr) = w6 at b2 b3 H7 H9 Os Ob KB CU ⊢
  replace HGa : ∀ r, rowsOf (.agg (stC Y0 Y1 Y2 Y3 s.pods.length f0 s.mnts.length f1 s.devs.length f2 s.lks.length f3 s.ph s.co s.ck s.bo s.ba s.lb s.gd s.pr)) r → r < w4.heap.size := fun r hr => by have := HGa r hr; omega
  generalize w5.heap.size = R9 at H9 hMz ⊢
  generalize w4.heap.size = M at Ob hMz hg4 hz7 hz3 h4s HGa ⊢
  go_wp2_with fail
  refine (l1Below_any g 12 w6 CU (by omega) (by omega)).mono ?_
  rintro e w7 ⟨k, rfl, k0, k1, CU4, hk⟩
  obtain ⟨gcs, hgc⟩ := CU.cells
  replace Os := Os.keepsT hk hgc (by decide)
  replace Ob := Ob.keepsT hk hgc (by decide)
  replace b2 := (hk.block _ (Array.getElem?_eq_some_iff.1 b2).1 (by show ¬ w.heap.size = g; omega)).trans b2
  replace b3 := (hk.block _ (Array.getElem?_eq_some_iff.1 b3).1 (by show ¬ w.heap.size + 1 = g; omega)).trans b3
  replace H7 := (hk.block _ (Array.getElem?_eq_some_iff.1 H7).1 (by show ¬ R7 = g; omega)).trans H7
  replace H9 := (hk.block _ (Array.getElem?_eq_some_iff.1 H9).1 (by show ¬ R9 = g; omega)).trans H9
  replace KB := KB.trans (hk.below (B := w.heap.size) KB.size (by rintro b hb rfl; omega))
  clear hk CU hgc
  have CU := CU4
  clear CU4
  obtain ⟨i0, hi, hz0, hz1, hz2⟩ := info_parts info_i64
  have hI := Lib.hid hi
  have hI0 := Lib.hid hz0
  have hI1 := Lib.hid hz1
  have hI2 := Lib.hid hz2
  clear hi hz0 hz1 hz2
  go_upto_block 0 with fail
  go_cut [] from 30 to 78 (fun wx => ∃ (ph ck bo ba lb gd pr : Int) (ls : List Int) (X3 : Option Addr) (h3 : Nat) (P : List (Int × Int)) (Q : List (Bool × Int)), Hid (P.length = ps.length) ∧ Hid (Q.length = ms.length) ∧ ls.length ≤ 14 ∧ Cur 141 .i64 wx g ∧ Below w.heap.size w wx ∧ wx.heap[w.heap.size]? = some (.cells (stC none none none none 0 0 0 0 0 0 0 0 0 false 0 0 0 0 0 0) 34) ∧ wx.heap[w.heap.size + 1]? = some (.cells (stC none none none none 0 0 0 0 0 0 0 0 0 false 0 0 0 0 0 0) 34) ∧ wx.heap[R7]? = some (.cells (stC Y0 Y1 Y2 Y3 s.pods.length f0 s.mnts.length f1 s.devs.length f2 s.lks.length f3 s.ph s.co s.ck s.bo s.ba s.lb s.gd s.pr) 34) ∧ OwnSt wx w.heap.size (.agg (stC Y0 Y1 Y2 Y3 s.pods.length f0 s.mnts.length f1 s.devs.length f2 s.lks.length f3 s.ph s.co s.ck s.bo s.ba s.lb s.gd s.pr)) s ∧ wx.heap[R9]? = some (.cells (stC X0 X1 X2 X3 P.length h0 Q.length h1 ds.length h2 ls.length h3 ph co ck bo ba lb gd pr) 34) ∧ OwnSt wx M (.agg (stC X0 X1 X2 X3 P.length h0 Q.length h1 ds.length h2 ls.length h3 ph co ck bo ba lb gd pr)) ⟨ph, co, ck, bo, ba, lb, P, Q, ds, ls, gd, pr⟩)
  case first =>
    have hls : ls.length ≤ 14 := by omega
    rcases (by omega : k = 0 ∨ k = 1 ∨ k = 2 ∨ k = 3 ∨ k = 4 ∨ k = 5 ∨ k = 6 ∨ k = 7 ∨ 8 ≤ k) with rfl | rfl | rfl | rfl | rfl | rfl | rfl | rfl | hk8
    · clear k0 k1
      have hC9 : ∀ o, w7.cell? ⟨R9, o, none⟩ = (stC X0 X1 X2 X3 ps.length h0 ms.length h1 ds.length h2 ls.length h3 ph co ck bo ba lb gd pr)[o]? := fun o => cell_of_row _ _ o _ _ _ H9
      have hF9 : ∀ o, w7.frozen? ⟨R9, o, none⟩ = false := fun o => frozen_of_row _ _ _ _ _ H9
      have h90 := heap_setCell_same w7 R9 0 _ _ (.int .i64 (wrap64 (ph + 1))) H9
      go_wp2_with fail
      go_meet
      have kk : Keeps (· = R9) w7 (w7.setCell ⟨R9, 0, none⟩ (.int .i64 (wrap64 (ph + 1)))) := Keeps.set (S := (· = R9)) (Keeps.refl _ _) rfl _
      refine ⟨(wrap64 (ph + 1)), ck, bo, ba, lb, gd, pr, ls, X3, h3, ps, ms, Lib.hid rfl, Lib.hid rfl, hls, CU.keeps kk (fun b hb e => by omega), KB.trans (kk.below (B := w.heap.size) KB.size (by rintro b hb rfl; omega)), (kk.block _ (Array.getElem?_eq_some_iff.1 b2).1 (by show ¬ w.heap.size = R9; omega)).trans b2, (kk.block _ (Array.getElem?_eq_some_iff.1 b3).1 (by show ¬ w.heap.size + 1 = R9; omega)).trans b3, (kk.block _ (Array.getElem?_eq_some_iff.1 H7).1 (by show ¬ R7 = R9; omega)).trans H7, Os.keepsT kk H9 (by decide), h90, (Ob.keepsT kk H9 (by decide)).nums _ _ _ _ _ _ _ _⟩
    · clear k0 k1
      have hC9 : ∀ o, w7.cell? ⟨R9, o, none⟩ = (stC X0 X1 X2 X3 ps.length h0 ms.length h1 ds.length h2 ls.length h3 ph co ck bo ba lb gd pr)[o]? := fun o => cell_of_row _ _ o _ _ _ H9
      have hF9 : ∀ o, w7.frozen? ⟨R9, o, none⟩ = false := fun o => frozen_of_row _ _ _ _ _ H9
      have h90 := heap_setCell_same w7 R9 2 _ _ (.int .i64 (wrap64 (ck + 1))) H9
      go_wp2_with fail
      go_meet
      have kk : Keeps (· = R9) w7 (w7.setCell ⟨R9, 2, none⟩ (.int .i64 (wrap64 (ck + 1)))) := Keeps.set (S := (· = R9)) (Keeps.refl _ _) rfl _
      refine ⟨ph, (wrap64 (ck + 1)), bo, ba, lb, gd, pr, ls, X3, h3, ps, ms, Lib.hid rfl, Lib.hid rfl, hls, CU.keeps kk (fun b hb e => by omega), KB.trans (kk.below (B := w.heap.size) KB.size (by rintro b hb rfl; omega)), (kk.block _ (Array.getElem?_eq_some_iff.1 b2).1 (by show ¬ w.heap.size = R9; omega)).trans b2, (kk.block _ (Array.getElem?_eq_some_iff.1 b3).1 (by show ¬ w.heap.size + 1 = R9; omega)).trans b3, (kk.block _ (Array.getElem?_eq_some_iff.1 H7).1 (by show ¬ R7 = R9; omega)).trans H7, Os.keepsT kk H9 (by decide), h90, (Ob.keepsT kk H9 (by decide)).nums _ _ _ _ _ _ _ _⟩
    · clear k0 k1
      have hC9 : ∀ o, w7.cell? ⟨R9, o, none⟩ = (stC X0 X1 X2 X3 ps.length h0 ms.length h1 ds.length h2 ls.length h3 ph co ck bo ba lb gd pr)[o]? := fun o => cell_of_row _ _ o _ _ _ H9
      have hF9 : ∀ o, w7.frozen? ⟨R9, o, none⟩ = false := fun o => frozen_of_row _ _ _ _ _ H9
      have h90 := heap_setCell_same w7 R9 4 _ _ (.int .i64 (wrap64 (ba + 1))) H9
      go_wp2_with fail
      go_meet
      have kk : Keeps (· = R9) w7 (w7.setCell ⟨R9, 4, none⟩ (.int .i64 (wrap64 (ba + 1)))) := Keeps.set (S := (· = R9)) (Keeps.refl _ _) rfl _
      refine ⟨ph, ck, bo, (wrap64 (ba + 1)), lb, gd, pr, ls, X3, h3, ps, ms, Lib.hid rfl, Lib.hid rfl, hls, CU.keeps kk (fun b hb e => by omega), KB.trans (kk.below (B := w.heap.size) KB.size (by rintro b hb rfl; omega)), (kk.block _ (Array.getElem?_eq_some_iff.1 b2).1 (by show ¬ w.heap.size = R9; omega)).trans b2, (kk.block _ (Array.getElem?_eq_some_iff.1 b3).1 (by show ¬ w.heap.size + 1 = R9; omega)).trans b3, (kk.block _ (Array.getElem?_eq_some_iff.1 H7).1 (by show ¬ R7 = R9; omega)).trans H7, Os.keepsT kk H9 (by decide), h90, (Ob.keepsT kk H9 (by decide)).nums _ _ _ _ _ _ _ _⟩
    · clear k0 k1
      have hC9 : ∀ o, w7.cell? ⟨R9, o, none⟩ = (stC X0 X1 X2 X3 ps.length h0 ms.length h1 ds.length h2 ls.length h3 ph co ck bo ba lb gd pr)[o]? := fun o => cell_of_row _ _ o _ _ _ H9
      have hF9 : ∀ o, w7.frozen? ⟨R9, o, none⟩ = false := fun o => frozen_of_row _ _ _ _ _ H9
      have h90 := heap_setCell_same w7 R9 5 _ _ (.int .i64 (wrap64 (lb + 1))) H9
      go_wp2_with fail
      go_meet
      have kk : Keeps (· = R9) w7 (w7.setCell ⟨R9, 5, none⟩ (.int .i64 (wrap64 (lb + 1)))) := Keeps.set (S := (· = R9)) (Keeps.refl _ _) rfl _
      refine ⟨ph, ck, bo, ba, (wrap64 (lb + 1)), gd, pr, ls, X3, h3, ps, ms, Lib.hid rfl, Lib.hid rfl, hls, CU.keeps kk (fun b hb e => by omega), KB.trans (kk.below (B := w.heap.size) KB.size (by rintro b hb rfl; omega)), (kk.block _ (Array.getElem?_eq_some_iff.1 b2).1 (by show ¬ w.heap.size = R9; omega)).trans b2, (kk.block _ (Array.getElem?_eq_some_iff.1 b3).1 (by show ¬ w.heap.size + 1 = R9; omega)).trans b3, (kk.block _ (Array.getElem?_eq_some_iff.1 H7).1 (by show ¬ R7 = R9; omega)).trans H7, Os.keepsT kk H9 (by decide), h90, (Ob.keepsT kk H9 (by decide)).nums _ _ _ _ _ _ _ _⟩
    · clear k0 k1
      have hC9 : ∀ o, w7.cell? ⟨R9, o, none⟩ = (stC X0 X1 X2 X3 ps.length h0 ms.length h1 ds.length h2 ls.length h3 ph co ck bo ba lb gd pr)[o]? := fun o => cell_of_row _ _ o _ _ _ H9
      have hZ3 : w7.ownsRow M 2 1 (.slice X3 ls.length h3) ls.length (lkCs ls) := Ob.lksRow
      have hlt3 := fun r hr => (World.ownsRow.lt hZ3 r hr).1
      have hz9 := (Array.getElem?_eq_some_iff.1 H9).1
      have hm1 : ls.length + 1 ≤ maxLen := by unfold maxLen; omega
      go_wp2_with (at_builtin; refine wpList_append_own _ rfl _ _ 25 rfl M 2 i0 (.int .i64 0) 1 8 Tryz.underlying25 hI.out hI0.out hI1.out hI2.out rfl (by decide) _ _ _ rfl (ownsRow_below hZ3 ((Below.refl _ _).alloc (Nat.le_refl _) _)) ⟨w7.heap.size, 0, none⟩ 1 1 [.int .i64 7] rfl rfl (cell_one_new _ _ _) (fun x hx => by simp at hx; subst hx; rfl) hm1 (by omega) (by simp; omega) ?_; intro v' w8 hown' hgrow hnil; obtain ⟨A', c', rfl, -, -⟩ := open_rowR hown'; have kk : Keeps (fun b => (Value.slice X3 ls.length h3).ownBlock = some b) w7 w8 := (Keeps.of_below ((Below.refl _ _).alloc (Nat.le_refl _) _)).trans ⟨hgrow.os, hgrow.tape, hgrow.output, hgrow.size, fun b hb hn => hgrow.block b hb fun e => hn e.symm⟩; have H9' := (kk.block _ (Array.getElem?_eq_some_iff.1 H9).1 (fun e => row_apart hZ3 H9 (by decide) _ e rfl)).trans H9; have hC9' : ∀ o, w8.cell? ⟨R9, o, none⟩ = (stC X0 X1 X2 X3 ps.length h0 ms.length h1 ds.length h2 ls.length h3 ph co ck bo ba lb gd pr)[o]? := fun o => cell_of_row _ _ o _ _ _ H9'; have hF9' : ∀ o, w8.frozen? ⟨R9, o, none⟩ = false := fun o => frozen_of_row _ _ _ _ _ H9')
      go_meet
      have hle : (ls ++ [7]).length = ls.length + 1 := by simp
      have hown2 : w8.ownsRow M 2 1 (.slice A' (ls.length + 1) c') (ls ++ [7]).length (lkCs (ls ++ [7])) := by simpa [lkCs] using hown'
      have kb : Keeps (· = R9) w8 (w8.setCell ⟨R9, 9, none⟩ (.slice A' (ls.length + 1) c')) := Keeps.set (S := (· = R9)) (Keeps.refl _ _) rfl _
      have h90 := heap_setCell_same w8 R9 9 _ _ (.slice A' (ls.length + 1) c') H9'
      have ObX := (Ob.lksPut kk hown2).keepsT kb H9' (by decide)
      have KBX := (KB.trans (kk.below (B := w.heap.size) KB.size (by rintro b hb e; have := hlt3 b e; omega)))
      replace KBX := KBX.trans (kb.below (B := w.heap.size) KBX.size (by rintro b hb rfl; omega))
      have x2 := (kk.block _ (Array.getElem?_eq_some_iff.1 b2).1 (fun e => by have := hlt3 _ e; omega)).trans b2
      have x3 := (kk.block _ (Array.getElem?_eq_some_iff.1 b3).1 (fun e => by have := hlt3 _ e; omega)).trans b3
      have x7 := (kk.block _ (Array.getElem?_eq_some_iff.1 H7).1 (fun e => by have := hlt3 _ e; omega)).trans H7
      replace x2 := (kb.block _ (Array.getElem?_eq_some_iff.1 x2).1 (by show ¬ w.heap.size = R9; omega)).trans x2
      replace x3 := (kb.block _ (Array.getElem?_eq_some_iff.1 x3).1 (by show ¬ w.heap.size + 1 = R9; omega)).trans x3
      replace x7 := (kb.block _ (Array.getElem?_eq_some_iff.1 x7).1 (by show ¬ R7 = R9; omega)).trans x7
      have OsX := (Os.keeps kk (fun r hr e => by have := hlt3 r e; have := HGa r hr; omega)).keepsT kb H9' (by decide)
      have CUX := (CU.keeps kk (fun b hb e => by have := hlt3 b e; omega)).keeps kb (fun b hb e => by omega)
      exact ⟨ph, ck, bo, ba, lb, gd, pr, ls ++ [7], A', c', ps, ms, Lib.hid rfl, Lib.hid rfl, by rw [hle]; omega, CUX, KBX, x2, x3, x7, OsX, by rw [hle]; exact h90, by rw [hle]; exact ObX⟩
    · clear k0 k1
      have hC9 : ∀ o, w7.cell? ⟨R9, o, none⟩ = (stC X0 X1 X2 X3 ps.length h0 ms.length h1 ds.length h2 ls.length h3 ph co ck bo ba lb gd pr)[o]? := fun o => cell_of_row _ _ o _ _ _ H9
      have hF9 : ∀ o, w7.frozen? ⟨R9, o, none⟩ = false := fun o => frozen_of_row _ _ _ _ _ H9
      have h90 := heap_setCell_same w7 R9 10 _ _ (.int .i64 (wrap64 (gd + 1))) H9
      go_wp2_with fail
      go_meet
      have kk : Keeps (· = R9) w7 (w7.setCell ⟨R9, 10, none⟩ (.int .i64 (wrap64 (gd + 1)))) := Keeps.set (S := (· = R9)) (Keeps.refl _ _) rfl _
      refine ⟨ph, ck, bo, ba, lb, (wrap64 (gd + 1)), pr, ls, X3, h3, ps, ms, Lib.hid rfl, Lib.hid rfl, hls, CU.keeps kk (fun b hb e => by omega), KB.trans (kk.below (B := w.heap.size) KB.size (by rintro b hb rfl; omega)), (kk.block _ (Array.getElem?_eq_some_iff.1 b2).1 (by show ¬ w.heap.size = R9; omega)).trans b2, (kk.block _ (Array.getElem?_eq_some_iff.1 b3).1 (by show ¬ w.heap.size + 1 = R9; omega)).trans b3, (kk.block _ (Array.getElem?_eq_some_iff.1 H7).1 (by show ¬ R7 = R9; omega)).trans H7, Os.keepsT kk H9 (by decide), h90, (Ob.keepsT kk H9 (by decide)).nums _ _ _ _ _ _ _ _⟩
    · clear k0 k1
      have hC9 : ∀ o, w7.cell? ⟨R9, o, none⟩ = (stC X0 X1 X2 X3 ps.length h0 ms.length h1 ds.length h2 ls.length h3 ph co ck bo ba lb gd pr)[o]? := fun o => cell_of_row _ _ o _ _ _ H9
      have hF9 : ∀ o, w7.frozen? ⟨R9, o, none⟩ = false := fun o => frozen_of_row _ _ _ _ _ H9
      have h90 := heap_setCell_same w7 R9 11 _ _ (.int .i64 (wrap64 (pr + 1))) H9
      go_wp2_with fail
      go_meet
      have kk : Keeps (· = R9) w7 (w7.setCell ⟨R9, 11, none⟩ (.int .i64 (wrap64 (pr + 1)))) := Keeps.set (S := (· = R9)) (Keeps.refl _ _) rfl _
      refine ⟨ph, ck, bo, ba, lb, gd, (wrap64 (pr + 1)), ls, X3, h3, ps, ms, Lib.hid rfl, Lib.hid rfl, hls, CU.keeps kk (fun b hb e => by omega), KB.trans (kk.below (B := w.heap.size) KB.size (by rintro b hb rfl; omega)), (kk.block _ (Array.getElem?_eq_some_iff.1 b2).1 (by show ¬ w.heap.size = R9; omega)).trans b2, (kk.block _ (Array.getElem?_eq_some_iff.1 b3).1 (by show ¬ w.heap.size + 1 = R9; omega)).trans b3, (kk.block _ (Array.getElem?_eq_some_iff.1 H7).1 (by show ¬ R7 = R9; omega)).trans H7, Os.keepsT kk H9 (by decide), h90, (Ob.keepsT kk H9 (by decide)).nums _ _ _ _ _ _ _ _⟩
    · clear k0 k1
      have hC9 : ∀ o, w7.cell? ⟨R9, o, none⟩ = (stC X0 X1 X2 X3 ps.length h0 ms.length h1 ds.length h2 ls.length h3 ph co ck bo ba lb gd pr)[o]? := fun o => cell_of_row _ _ o _ _ _ H9
      have hF9 : ∀ o, w7.frozen? ⟨R9, o, none⟩ = false := fun o => frozen_of_row _ _ _ _ _ H9
      have h90 := heap_setCell_same w7 R9 3 _ _ (.int .i64 (wrap64 (bo + 1))) H9
      go_wp2_with fail
      go_meet
      have kk : Keeps (· = R9) w7 (w7.setCell ⟨R9, 3, none⟩ (.int .i64 (wrap64 (bo + 1)))) := Keeps.set (S := (· = R9)) (Keeps.refl _ _) rfl _
      refine ⟨ph, ck, (wrap64 (bo + 1)), ba, lb, gd, pr, ls, X3, h3, ps, ms, Lib.hid rfl, Lib.hid rfl, hls, CU.keeps kk (fun b hb e => by omega), KB.trans (kk.below (B := w.heap.size) KB.size (by rintro b hb rfl; omega)), (kk.block _ (Array.getElem?_eq_some_iff.1 b2).1 (by show ¬ w.heap.size = R9; omega)).trans b2, (kk.block _ (Array.getElem?_eq_some_iff.1 b3).1 (by show ¬ w.heap.size + 1 = R9; omega)).trans b3, (kk.block _ (Array.getElem?_eq_some_iff.1 H7).1 (by show ¬ R7 = R9; omega)).trans H7, Os.keepsT kk H9 (by decide), h90, (Ob.keepsT kk H9 (by decide)).nums _ _ _ _ _ _ _ _⟩
    · have e0 : (k == 0) = false := by simp; omega
      have e1 : (k == 1) = false := by simp; omega
      have e2 : (k == 2) = false := by simp; omega
      have e3 : (k == 3) = false := by simp; omega
      have e4 : (k == 4) = false := by simp; omega
      have e5 : (k == 5) = false := by simp; omega
      have e6 : (k == 6) = false := by simp; omega
      have e7 : (k == 7) = false := by simp; omega
      go_wp2_with fail
      go_meet
      exact ⟨ph, ck, bo, ba, lb, gd, pr, ls, X3, h3, ps, ms, Lib.hid rfl, Lib.hid rfl, hls, CU, KB, b2, b3, H7, Os, H9, Ob⟩
  case rest =>
  clear CU KB b2 b3 H7 Os H9 Ob
  obtain ⟨ph, ck, bo, ba, lb, gd, pr, ls, X3, h3, P, Q, hlP, hlQ, hls, CU, KB, b2, b3, H7, Os, H9, Ob⟩ := hcut
  go_upto_region 24 with fail
  go_cut [86] from 79 to 86 (fun sx wx => ∃ q : Bool, sx = .bool q ∧ (q = true → 0 < P.length) ∧ Cur 141 .i64 wx g ∧ Below w.heap.size w wx ∧ wx.heap[w.heap.size]? = some (.cells (stC none none none none 0 0 0 0 0 0 0 0 0 false 0 0 0 0 0 0) 34) ∧ wx.heap[w.heap.size + 1]? = some (.cells (stC none none none none 0 0 0 0 0 0 0 0 0 false 0 0 0 0 0 0) 34) ∧ wx.heap[R7]? = some (.cells (stC Y0 Y1 Y2 Y3 s.pods.length f0 s.mnts.length f1 s.devs.length f2 s.lks.length f3 s.ph s.co s.ck s.bo s.ba s.lb s.gd s.pr) 34) ∧ OwnSt wx w.heap.size (.agg (stC Y0 Y1 Y2 Y3 s.pods.length f0 s.mnts.length f1 s.devs.length f2 s.lks.length f3 s.ph s.co s.ck s.bo s.ba s.lb s.gd s.pr)) s ∧ wx.heap[R9]? = some (.cells (stC X0 X1 X2 X3 P.length h0 Q.length h1 ds.length h2 ls.length h3 ph co ck bo ba lb gd pr) 34) ∧ OwnSt wx M (.agg (stC X0 X1 X2 X3 P.length h0 Q.length h1 ds.length h2 ls.length h3 ph co ck bo ba lb gd pr)) ⟨ph, co, ck, bo, ba, lb, P, Q, ds, ls, gd, pr⟩)
  case first =>
    have hC9 : ∀ o, wc.cell? ⟨R9, o, none⟩ = (stC X0 X1 X2 X3 P.length h0 Q.length h1 ds.length h2 ls.length h3 ph co ck bo ba lb gd pr)[o]? := fun o => cell_of_row _ _ o _ _ _ H9
    go_wp2_with fail
    refine (l1Once_any g 2 wc CU (by omega) (by omega)).mono ?_
    rintro e w8 ⟨b, rfl, CU4, hk⟩
    obtain ⟨gcs, hgc⟩ := CU.cells
    replace Os := Os.keepsT hk hgc (by decide)
    replace Ob := Ob.keepsT hk hgc (by decide)
    replace b2 := (hk.block _ (Array.getElem?_eq_some_iff.1 b2).1 (by show ¬ w.heap.size = g; omega)).trans b2
    replace b3 := (hk.block _ (Array.getElem?_eq_some_iff.1 b3).1 (by show ¬ w.heap.size + 1 = g; omega)).trans b3
    replace H7 := (hk.block _ (Array.getElem?_eq_some_iff.1 H7).1 (by show ¬ R7 = g; omega)).trans H7
    replace H9 := (hk.block _ (Array.getElem?_eq_some_iff.1 H9).1 (by show ¬ R9 = g; omega)).trans H9
    replace KB := KB.trans (hk.below (B := w.heap.size) KB.size (by rintro b hb rfl; omega))
    clear hk CU hgc
    have CU := CU4
    clear CU4
    clear hC9
    have hC9 : ∀ o, w8.cell? ⟨R9, o, none⟩ = (stC X0 X1 X2 X3 P.length h0 Q.length h1 ds.length h2 ls.length h3 ph co ck bo ba lb gd pr)[o]? := fun o => cell_of_row _ _ o _ _ _ H9
    cases b
    · go_wp2_with fail
      go_meet
      exact ⟨false, rfl, (fun h => by cases h), CU, KB, b2, b3, H7, Os, H9, Ob⟩
    · go_wp2_with fail
      go_meet
      exact ⟨decide (0 < P.length), rfl, (fun h => of_decide_eq_true h), CU, KB, b2, b3, H7, Os, H9, Ob⟩
  case rest =>
  clear CU KB b2 b3 H7 Os H9 Ob
  obtain ⟨q, rfl, hq, CU, KB, b2, b3, H7, Os, H9, Ob⟩ := hcut
  go_upto_if 86 with fail
  go_cut [] from 87 to 96 (fun wx => ∃ (ph ck bo ba lb gd pr : Int) (ls : List Int) (X3 : Option Addr) (h3 : Nat) (P : List (Int × Int)) (Q : List (Bool × Int)), Hid (P.length = ps.length) ∧ Hid (Q.length = ms.length) ∧ ls.length ≤ 14 ∧ Cur 141 .i64 wx g ∧ Below w.heap.size w wx ∧ wx.heap[w.heap.size]? = some (.cells (stC none none none none 0 0 0 0 0 0 0 0 0 false 0 0 0 0 0 0) 34) ∧ wx.heap[w.heap.size + 1]? = some (.cells (stC none none none none 0 0 0 0 0 0 0 0 0 false 0 0 0 0 0 0) 34) ∧ wx.heap[R7]? = some (.cells (stC Y0 Y1 Y2 Y3 s.pods.length f0 s.mnts.length f1 s.devs.length f2 s.lks.length f3 s.ph s.co s.ck s.bo s.ba s.lb s.gd s.pr) 34) ∧ OwnSt wx w.heap.size (.agg (stC Y0 Y1 Y2 Y3 s.pods.length f0 s.mnts.length f1 s.devs.length f2 s.lks.length f3 s.ph s.co s.ck s.bo s.ba s.lb s.gd s.pr)) s ∧ wx.heap[R9]? = some (.cells (stC X0 X1 X2 X3 P.length h0 Q.length h1 ds.length h2 ls.length h3 ph co ck bo ba lb gd pr) 34) ∧ OwnSt wx M (.agg (stC X0 X1 X2 X3 P.length h0 Q.length h1 ds.length h2 ls.length h3 ph co ck bo ba lb gd pr)) ⟨ph, co, ck, bo, ba, lb, P, Q, ds, ls, gd, pr⟩)
  case first =>
    cases q
    · clear hq
      go_wp2_with fail
      go_meet
      exact ⟨ph, ck, bo, ba, lb, gd, pr, ls, X3, h3, P, Q, hlP, hlQ, hls, CU, KB, b2, b3, H7, Os, H9, Ob⟩
    · have hpos := hq rfl
      clear hq
      obtain ⟨gr, hX, hMg, hgz, ⟨rcs, hgr⟩, HR⟩ := Ob.podRow (i := 0) (by show 0 < P.length; omega)
      subst hX
      have q0 := (HR 1 (by rw [podCs_len]; show 1 < P.length * 2; omega)).1.trans (podCs_at P (i := 0) (by omega)).2
      have hf0 := (HR 1 (by rw [podCs_len]; show 1 < P.length * 2; omega)).2
      have n9 : ¬ R9 = gr := ne_types hgr H9 (by decide)
      have n7 : ¬ R7 = gr := ne_types hgr H7 (by decide)
      have n2 : ¬ w.heap.size = gr := ne_types hgr b2 (by decide)
      have n3 : ¬ w.heap.size + 1 = gr := ne_types hgr b3 (by decide)
      have hL0 : (0 : Int) < (P.length : Int) := by omega
      clear HR hgr hgz
      go_upto_region 25 with fail
      refine wp_region_noPanic ?_
      refine wp_region_held_drew (S := fun W => ∀ o, W.cell? ⟨R9, o, none⟩ = (stC (some ⟨gr, 0, none⟩) X1 X2 X3 P.length h0 Q.length h1 ds.length h2 ls.length h3 ph co ck bo ba lb gd pr)[o]?) (by kernel_rfl) (fun o => cell_of_row _ _ o _ _ _ H9) (fun _ => ?_)
      rw [← heap_drew wc] at b2 b3 H7 H9
      replace KB := KB.drew
      replace Os := Os.below (Below.refl _ _).drew
      replace Ob := Ob.below (Below.refl _ _).drew
      replace CU := CU.below (Below.refl _ _).drew
      replace q0 : wc.drew.cell? ⟨gr, 1, none⟩ = _ := q0
      replace hf0 : wc.drew.frozen? ⟨gr, 1, none⟩ = _ := hf0
      generalize wc.drew = v0 at q0 hf0 KB b2 b3 H7 H9 Os Ob CU ⊢
      refine wpAnyH_take (i := 0) (v := ?_) rfl (by kernel_rfl) (by kernel_rfl) (by kernel_rfl) (fun _ _ _ h => h) (Or.inl ⟨by rfl, ?_⟩) (fun o => cell_of_row _ _ o _ _ _ H9) ?_
      rotate_left 1
      · intro w hSw
        skip
        go_simp
        try with_reducible rfl
      change wpAnyH _ _ _ _ _ _ _ (Act.put _ (some 87) _) _
      dsimp only [Act.put]
      refine wpAnyH_take (i := 1) (v := ?_) rfl (by kernel_rfl) (by kernel_rfl) (by kernel_rfl) (fun _ _ _ h => h) (Or.inl ⟨by rfl, ?_⟩) (fun o => cell_of_row _ _ o _ _ _ H9) ?_
      rotate_left 1
      · intro w hSw
        skip
        go_simp
        try with_reducible rfl
      change wpAnyH _ _ _ _ _ _ _ (Act.put _ (some 88) _) _
      dsimp only [Act.put]
      refine wpAnyH_take (i := 2) (v := ?_) rfl (by kernel_rfl) (by kernel_rfl) (by kernel_rfl) (fun _ _ _ h => h) (Or.inl ⟨by rfl, ?_⟩) (fun o => cell_of_row _ _ o _ _ _ H9) ?_
      rotate_left 1
      · intro w hSw
        skip
        go_simp
        try with_reducible rfl
      change wpAnyH _ _ _ _ _ _ _ (Act.put _ (some 89) _) _
      dsimp only [Act.put]
      refine wpAnyH_take (i := 3) (v := ?_) rfl (by kernel_rfl) (by kernel_rfl) (by kernel_rfl) (fun _ _ _ h => h) (Or.inl ⟨by rfl, ?_⟩) (fun o => cell_of_row _ _ o _ _ _ H9) ?_
      rotate_left 1
      · intro w hSw
        skip
        go_simp
        try with_reducible rfl
      change wpAnyH _ _ _ _ _ _ _ (Act.put _ (some 90) _) _
      dsimp only [Act.put]
      refine wpAnyH_take (i := 4) (v := ?_) rfl (by kernel_rfl) (by kernel_rfl) (by kernel_rfl) (fun _ _ _ h => h) (Or.inl ⟨by rfl, ?_⟩) (fun o => cell_of_row _ _ o _ _ _ H9) ?_
      rotate_left 1
      · intro w hSw
        skip
        go_simp
        try with_reducible rfl
      change wpAnyH _ _ _ _ _ _ _ (Act.put _ (some 91) _) _
      dsimp only [Act.put]
      refine wpAnyH_take (i := 5) (v := ?_) rfl (by kernel_rfl) (by kernel_rfl) (by kernel_rfl) (fun _ _ _ h => h) (Or.inl ⟨by rfl, ?_⟩) (fun o => cell_of_row _ _ o _ _ _ H9) ?_
      rotate_left 1
      · intro w hSw
        skip
        go_simp
        try with_reducible rfl
      change wpAnyH _ _ _ _ _ _ _ (Act.put _ (some 92) _) _
      dsimp only [Act.put]
      refine wpAnyH_ready (rs := [6]) (by kernel_rfl) (by simp) ?_
      refine AllReadyH.cons rfl (fun K' hK => ?_) AllReadyH.nil
      go_simp
      refine hK.out _ _ (fun o => cell_of_row _ _ o _ _ _ H9) (fun _ => ?_)
      clear hK K'
      try (change wpAnyH _ _ _ _ _ _ _ (Act.put _ (some 93) _) _; dsimp only [Act.put])
      refine wpAnyH_take (i := 7) (v := ?_) rfl (by kernel_rfl) (by kernel_rfl) (by kernel_rfl) (fun _ _ _ h => h) (Or.inl ⟨by rfl, ?_⟩) (fun o => cell_of_row _ _ o _ _ _ H9) ?_
      rotate_left 1
      · intro w hSw
        skip
        go_simp
        try with_reducible rfl
      change wpAnyH _ _ _ _ _ _ _ (Act.put _ (some 94) _) _
      dsimp only [Act.put]
      refine wpAnyH_take (i := 8) (v := ?_) rfl (by kernel_rfl) (by kernel_rfl) (by kernel_rfl) (fun _ _ _ h => h) (Or.inl ⟨by rfl, ?_⟩) (fun o => cell_of_row _ _ o _ _ _ H9) ?_
      rotate_left 1
      · intro w hSw
        skip
        go_simp
        try with_reducible rfl
      change wpAnyH _ _ _ _ _ _ _ (Act.put _ (some 95) _) _
      dsimp only [Act.put]
      refine wpAnyH_take (i := 9) (v := ?_) rfl (by kernel_rfl) (by kernel_rfl) (by kernel_rfl) (fun _ _ _ h => h) (Or.inl ⟨by rfl, ?_⟩) (fun o => cell_of_row _ _ o _ _ _ H9) ?_
      rotate_left 1
      · intro w hSw
        skip
        go_simp
        try with_reducible rfl
      change wpAnyH _ _ _ _ _ _ _ (Act.put _ (some 96) _) _
      dsimp only [Act.put]
      refine wpAnyH_ready (rs := [10]) (by kernel_rfl) (by simp) ?_
      refine AllReadyH.cons rfl (fun K' hK => ?_) AllReadyH.nil
      go_simp
      have kk : Keeps (· = gr) v0 (v0.setCell ⟨gr, 1, none⟩ (.int .i64 (IntKind.i64.wrap ((podA P 0).2 + 1)))) := Keeps.set (S := (· = gr)) (Keeps.refl _ _) rfl _
      replace Ob := Ob.podSince (i := 0) (by show 0 < P.length; omega) (IntKind.i64.wrap ((podA P 0).2 + 1))
      simp only [Nat.zero_mul, Nat.zero_add] at Ob
      replace Os := Os.keeps kk (fun r hr e => by have := HGa r hr; omega)
      replace CU := CU.keeps kk (fun b hb e => by omega)
      replace KB := KB.trans (kk.below (B := w.heap.size) KB.size (by rintro b hb rfl; omega))
      replace b2 := (kk.block _ (Array.getElem?_eq_some_iff.1 b2).1 n2).trans b2
      replace b3 := (kk.block _ (Array.getElem?_eq_some_iff.1 b3).1 n3).trans b3
      replace H7 := (kk.block _ (Array.getElem?_eq_some_iff.1 H7).1 n7).trans H7
      replace H9 := (kk.block _ (Array.getElem?_eq_some_iff.1 H9).1 n9).trans H9
      clear kk q0 hf0
      generalize v0.setCell ⟨gr, 1, none⟩ (.int .i64 (IntKind.i64.wrap ((podA P 0).2 + 1))) = v1 at KB b2 b3 H7 H9 Os Ob CU ⊢
      refine hK.out _ _ (fun o => cell_of_row _ _ o _ _ _ H9) (fun _ => ?_)
      clear hK K'
      try (change wpAnyH _ _ _ _ _ _ _ (Act.put _ none _) _; dsimp only [Act.put])
      refine wpAnyH_done (by kernel_rfl) ?_ _
      refine NoPanic.normal ?_
      go_wp2_with fail
      go_meet
      exact ⟨ph, ck, bo, ba, lb, gd, pr, ls, X3, h3, (P.set 0 ((podA P 0).1, IntKind.i64.wrap ((podA P 0).2 + 1))), Q, Lib.hid (by rw [List.length_set]; exact hlP.out), hlQ, hls, CU, KB, b2, b3, H7, Os, by rw [List.length_set]; exact H9, by rw [List.length_set]; exact Ob⟩
  case rest =>
  clear CU KB b2 b3 H7 Os H9 Ob hlP hlQ hls hq
  obtain ⟨ph, ck, bo, ba, lb, gd, pr, ls, X3, h3, P, Q, hlP, hlQ, hls, CU, KB, b2, b3, H7, Os, H9, Ob⟩ := hcut
  go_upto_region 26 with fail
  go_cut [104] from 97 to 104 (fun sx wx => ∃ q : Bool, sx = .bool q ∧ (q = true → 0 < Q.length) ∧ Cur 141 .i64 wx g ∧ Below w.heap.size w wx ∧ wx.heap[w.heap.size]? = some (.cells (stC none none none none 0 0 0 0 0 0 0 0 0 false 0 0 0 0 0 0) 34) ∧ wx.heap[w.heap.size + 1]? = some (.cells (stC none none none none 0 0 0 0 0 0 0 0 0 false 0 0 0 0 0 0) 34) ∧ wx.heap[R7]? = some (.cells (stC Y0 Y1 Y2 Y3 s.pods.length f0 s.mnts.length f1 s.devs.length f2 s.lks.length f3 s.ph s.co s.ck s.bo s.ba s.lb s.gd s.pr) 34) ∧ OwnSt wx w.heap.size (.agg (stC Y0 Y1 Y2 Y3 s.pods.length f0 s.mnts.length f1 s.devs.length f2 s.lks.length f3 s.ph s.co s.ck s.bo s.ba s.lb s.gd s.pr)) s ∧ wx.heap[R9]? = some (.cells (stC X0 X1 X2 X3 P.length h0 Q.length h1 ds.length h2 ls.length h3 ph co ck bo ba lb gd pr) 34) ∧ OwnSt wx M (.agg (stC X0 X1 X2 X3 P.length h0 Q.length h1 ds.length h2 ls.length h3 ph co ck bo ba lb gd pr)) ⟨ph, co, ck, bo, ba, lb, P, Q, ds, ls, gd, pr⟩)
  case first =>
    have hC9 : ∀ o, wc.cell? ⟨R9, o, none⟩ = (stC X0 X1 X2 X3 P.length h0 Q.length h1 ds.length h2 ls.length h3 ph co ck bo ba lb gd pr)[o]? := fun o => cell_of_row _ _ o _ _ _ H9
    go_wp2_with fail
    refine (l1Once_any g 2 wc CU (by omega) (by omega)).mono ?_
    rintro e w8 ⟨b, rfl, CU4, hk⟩
    obtain ⟨gcs, hgc⟩ := CU.cells
    replace Os := Os.keepsT hk hgc (by decide)
    replace Ob := Ob.keepsT hk hgc (by decide)
    replace b2 := (hk.block _ (Array.getElem?_eq_some_iff.1 b2).1 (by show ¬ w.heap.size = g; omega)).trans b2
    replace b3 := (hk.block _ (Array.getElem?_eq_some_iff.1 b3).1 (by show ¬ w.heap.size + 1 = g; omega)).trans b3
    replace H7 := (hk.block _ (Array.getElem?_eq_some_iff.1 H7).1 (by show ¬ R7 = g; omega)).trans H7
    replace H9 := (hk.block _ (Array.getElem?_eq_some_iff.1 H9).1 (by show ¬ R9 = g; omega)).trans H9
    replace KB := KB.trans (hk.below (B := w.heap.size) KB.size (by rintro b hb rfl; omega))
    clear hk CU hgc
    have CU := CU4
    clear CU4
    clear hC9
    have hC9 : ∀ o, w8.cell? ⟨R9, o, none⟩ = (stC X0 X1 X2 X3 P.length h0 Q.length h1 ds.length h2 ls.length h3 ph co ck bo ba lb gd pr)[o]? := fun o => cell_of_row _ _ o _ _ _ H9
    cases b
    · go_wp2_with fail
      go_meet
      exact ⟨false, rfl, (fun h => by cases h), CU, KB, b2, b3, H7, Os, H9, Ob⟩
    · go_wp2_with fail
      go_meet
      exact ⟨decide (0 < Q.length), rfl, (fun h => of_decide_eq_true h), CU, KB, b2, b3, H7, Os, H9, Ob⟩
  case rest =>
  clear CU KB b2 b3 H7 Os H9 Ob
  obtain ⟨q, rfl, hq, CU, KB, b2, b3, H7, Os, H9, Ob⟩ := hcut
  go_upto_if 104 with fail
  go_cut [] from 105 to 114 (fun wx => ∃ (ph ck bo ba lb gd pr : Int) (ls : List Int) (X3 : Option Addr) (h3 : Nat) (P : List (Int × Int)) (Q : List (Bool × Int)), Hid (P.length = ps.length) ∧ Hid (Q.length = ms.length) ∧ ls.length ≤ 14 ∧ Cur 141 .i64 wx g ∧ Below w.heap.size w wx ∧ wx.heap[w.heap.size]? = some (.cells (stC none none none none 0 0 0 0 0 0 0 0 0 false 0 0 0 0 0 0) 34) ∧ wx.heap[w.heap.size + 1]? = some (.cells (stC none none none none 0 0 0 0 0 0 0 0 0 false 0 0 0 0 0 0) 34) ∧ wx.heap[R7]? = some (.cells (stC Y0 Y1 Y2 Y3 s.pods.length f0 s.mnts.length f1 s.devs.length f2 s.lks.length f3 s.ph s.co s.ck s.bo s.ba s.lb s.gd s.pr) 34) ∧ OwnSt wx w.heap.size (.agg (stC Y0 Y1 Y2 Y3 s.pods.length f0 s.mnts.length f1 s.devs.length f2 s.lks.length f3 s.ph s.co s.ck s.bo s.ba s.lb s.gd s.pr)) s ∧ wx.heap[R9]? = some (.cells (stC X0 X1 X2 X3 P.length h0 Q.length h1 ds.length h2 ls.length h3 ph co ck bo ba lb gd pr) 34) ∧ OwnSt wx M (.agg (stC X0 X1 X2 X3 P.length h0 Q.length h1 ds.length h2 ls.length h3 ph co ck bo ba lb gd pr)) ⟨ph, co, ck, bo, ba, lb, P, Q, ds, ls, gd, pr⟩)
  case first =>
    cases q
    · clear hq
      go_wp2_with fail
      go_meet
      exact ⟨ph, ck, bo, ba, lb, gd, pr, ls, X3, h3, P, Q, hlP, hlQ, hls, CU, KB, b2, b3, H7, Os, H9, Ob⟩
    · have hpos := hq rfl
      clear hq
      obtain ⟨gr, hX, hMg, hgz, ⟨rcs, hgr⟩, HR⟩ := Ob.mntRow (i := 0) (by show 0 < Q.length; omega)
      subst hX
      have q0 := (HR 0 (by rw [mntCs_len]; show 0 < Q.length * 2; omega)).1.trans (mntCs_at Q (i := 0) (by omega)).1
      have hf0 := (HR 0 (by rw [mntCs_len]; show 0 < Q.length * 2; omega)).2
      have n9 : ¬ R9 = gr := ne_types hgr H9 (by decide)
      have n7 : ¬ R7 = gr := ne_types hgr H7 (by decide)
      have n2 : ¬ w.heap.size = gr := ne_types hgr b2 (by decide)
      have n3 : ¬ w.heap.size + 1 = gr := ne_types hgr b3 (by decide)
      have hL0 : (0 : Int) < (Q.length : Int) := by omega
      clear HR hgr hgz
      go_upto_region 27 with fail
      refine wp_region_noPanic ?_
      refine wp_region_held_drew (S := fun W => ∀ o, W.cell? ⟨R9, o, none⟩ = (stC X0 (some ⟨gr, 0, none⟩) X2 X3 P.length h0 Q.length h1 ds.length h2 ls.length h3 ph co ck bo ba lb gd pr)[o]?) (by kernel_rfl) (fun o => cell_of_row _ _ o _ _ _ H9) (fun _ => ?_)
      rw [← heap_drew wc] at b2 b3 H7 H9
      replace KB := KB.drew
      replace Os := Os.below (Below.refl _ _).drew
      replace Ob := Ob.below (Below.refl _ _).drew
      replace CU := CU.below (Below.refl _ _).drew
      replace q0 : wc.drew.cell? ⟨gr, 0, none⟩ = _ := q0
      replace hf0 : wc.drew.frozen? ⟨gr, 0, none⟩ = _ := hf0
      generalize wc.drew = v0 at q0 hf0 KB b2 b3 H7 H9 Os Ob CU ⊢
      refine wpAnyH_take (i := 0) (v := ?_) rfl (by kernel_rfl) (by kernel_rfl) (by kernel_rfl) (fun _ _ _ h => h) (Or.inl ⟨by rfl, ?_⟩) (fun o => cell_of_row _ _ o _ _ _ H9) ?_
      rotate_left 1
      · intro w hSw
        skip
        go_simp
        try with_reducible rfl
      change wpAnyH _ _ _ _ _ _ _ (Act.put _ (some 105) _) _
      dsimp only [Act.put]
      refine wpAnyH_take (i := 1) (v := ?_) rfl (by kernel_rfl) (by kernel_rfl) (by kernel_rfl) (fun _ _ _ h => h) (Or.inl ⟨by rfl, ?_⟩) (fun o => cell_of_row _ _ o _ _ _ H9) ?_
      rotate_left 1
      · intro w hSw
        skip
        go_simp
        try with_reducible rfl
      change wpAnyH _ _ _ _ _ _ _ (Act.put _ (some 106) _) _
      dsimp only [Act.put]
      refine wpAnyH_take (i := 2) (v := ?_) rfl (by kernel_rfl) (by kernel_rfl) (by kernel_rfl) (fun _ _ _ h => h) (Or.inl ⟨by rfl, ?_⟩) (fun o => cell_of_row _ _ o _ _ _ H9) ?_
      rotate_left 1
      · intro w hSw
        skip
        go_simp
        try with_reducible rfl
      change wpAnyH _ _ _ _ _ _ _ (Act.put _ (some 107) _) _
      dsimp only [Act.put]
      refine wpAnyH_take (i := 3) (v := ?_) rfl (by kernel_rfl) (by kernel_rfl) (by kernel_rfl) (fun _ _ _ h => h) (Or.inl ⟨by rfl, ?_⟩) (fun o => cell_of_row _ _ o _ _ _ H9) ?_
      rotate_left 1
      · intro w hSw
        skip
        go_simp
        try with_reducible rfl
      change wpAnyH _ _ _ _ _ _ _ (Act.put _ (some 108) _) _
      dsimp only [Act.put]
      refine wpAnyH_take (i := 4) (v := ?_) rfl (by kernel_rfl) (by kernel_rfl) (by kernel_rfl) (fun _ _ _ h => h) (Or.inl ⟨by rfl, ?_⟩) (fun o => cell_of_row _ _ o _ _ _ H9) ?_
      rotate_left 1
      · intro w hSw
        skip
        go_simp
        try with_reducible rfl
      change wpAnyH _ _ _ _ _ _ _ (Act.put _ (some 109) _) _
      dsimp only [Act.put]
      refine wpAnyH_take (i := 5) (v := ?_) rfl (by kernel_rfl) (by kernel_rfl) (by kernel_rfl) (fun _ _ _ h => h) (Or.inl ⟨by rfl, ?_⟩) (fun o => cell_of_row _ _ o _ _ _ H9) ?_
      rotate_left 1
      · intro w hSw
        skip
        go_simp
        try with_reducible rfl
      change wpAnyH _ _ _ _ _ _ _ (Act.put _ (some 110) _) _
      dsimp only [Act.put]
      refine wpAnyH_ready (rs := [6]) (by kernel_rfl) (by simp) ?_
      refine AllReadyH.cons rfl (fun K' hK => ?_) AllReadyH.nil
      go_simp
      refine hK.out _ _ (fun o => cell_of_row _ _ o _ _ _ H9) (fun _ => ?_)
      clear hK K'
      try (change wpAnyH _ _ _ _ _ _ _ (Act.put _ (some 111) _) _; dsimp only [Act.put])
      refine wpAnyH_take (i := 7) (v := ?_) rfl (by kernel_rfl) (by kernel_rfl) (by kernel_rfl) (fun _ _ _ h => h) (Or.inl ⟨by rfl, ?_⟩) (fun o => cell_of_row _ _ o _ _ _ H9) ?_
      rotate_left 1
      · intro w hSw
        skip
        go_simp
        try with_reducible rfl
      change wpAnyH _ _ _ _ _ _ _ (Act.put _ (some 112) _) _
      dsimp only [Act.put]
      refine wpAnyH_take (i := 8) (v := ?_) rfl (by kernel_rfl) (by kernel_rfl) (by kernel_rfl) (fun _ _ _ h => h) (Or.inl ⟨by rfl, ?_⟩) (fun o => cell_of_row _ _ o _ _ _ H9) ?_
      rotate_left 1
      · intro w hSw
        skip
        go_simp
        try with_reducible rfl
      change wpAnyH _ _ _ _ _ _ _ (Act.put _ (some 113) _) _
      dsimp only [Act.put]
      refine wpAnyH_take (i := 9) (v := ?_) rfl (by kernel_rfl) (by kernel_rfl) (by kernel_rfl) (fun _ _ _ h => h) (Or.inl ⟨by rfl, ?_⟩) (fun o => cell_of_row _ _ o _ _ _ H9) ?_
      rotate_left 1
      · intro w hSw
        skip
        go_simp
        try with_reducible rfl
      change wpAnyH _ _ _ _ _ _ _ (Act.put _ (some 114) _) _
      dsimp only [Act.put]
      refine wpAnyH_ready (rs := [10]) (by kernel_rfl) (by simp) ?_
      refine AllReadyH.cons rfl (fun K' hK => ?_) AllReadyH.nil
      go_simp
      have kk : Keeps (· = gr) v0 (v0.setCell ⟨gr, 0, none⟩ (.bool (!(mntA Q 0).1))) := Keeps.set (S := (· = gr)) (Keeps.refl _ _) rfl _
      replace Ob := Ob.mntHeld (i := 0) (by show 0 < Q.length; omega) (!(mntA Q 0).1)
      simp only [Nat.zero_mul] at Ob
      replace Os := Os.keeps kk (fun r hr e => by have := HGa r hr; omega)
      replace CU := CU.keeps kk (fun b hb e => by omega)
      replace KB := KB.trans (kk.below (B := w.heap.size) KB.size (by rintro b hb rfl; omega))
      replace b2 := (kk.block _ (Array.getElem?_eq_some_iff.1 b2).1 n2).trans b2
      replace b3 := (kk.block _ (Array.getElem?_eq_some_iff.1 b3).1 n3).trans b3
      replace H7 := (kk.block _ (Array.getElem?_eq_some_iff.1 H7).1 n7).trans H7
      replace H9 := (kk.block _ (Array.getElem?_eq_some_iff.1 H9).1 n9).trans H9
      clear kk q0 hf0
      generalize v0.setCell ⟨gr, 0, none⟩ (.bool (!(mntA Q 0).1)) = v1 at KB b2 b3 H7 H9 Os Ob CU ⊢
      refine hK.out _ _ (fun o => cell_of_row _ _ o _ _ _ H9) (fun _ => ?_)
      clear hK K'
      try (change wpAnyH _ _ _ _ _ _ _ (Act.put _ none _) _; dsimp only [Act.put])
      refine wpAnyH_done (by kernel_rfl) ?_ _
      refine NoPanic.normal ?_
      go_wp2_with fail
      go_meet
      exact ⟨ph, ck, bo, ba, lb, gd, pr, ls, X3, h3, P, (Q.set 0 (!(mntA Q 0).1, (mntA Q 0).2)), hlP, Lib.hid (by rw [List.length_set]; exact hlQ.out), hls, CU, KB, b2, b3, H7, Os, by rw [List.length_set]; exact H9, by rw [List.length_set]; exact Ob⟩
  case rest =>
  clear CU KB b2 b3 H7 Os H9 Ob hlP hlQ hls hq
  obtain ⟨ph, ck, bo, ba, lb, gd, pr, ls, X3, h3, P, Q, hlP, hlQ, hls, CU, KB, b2, b3, H7, Os, H9, Ob⟩ := hcut
  go_upto_region 28 with fail
  refine wp_region_noPanic ?_
  refine wp_region_held_drew (S := fun W => (∀ o, W.cell? ⟨R7, o, none⟩ = (stC Y0 Y1 Y2 Y3 s.pods.length f0 s.mnts.length f1 s.devs.length f2 s.lks.length f3 s.ph s.co s.ck s.bo s.ba s.lb s.gd s.pr)[o]?) ∧ (∀ o, W.cell? ⟨R9, o, none⟩ = (stC X0 X1 X2 X3 P.length h0 Q.length h1 ds.length h2 ls.length h3 ph co ck bo ba lb gd pr)[o]?)) (by kernel_rfl) (⟨fun o => cell_of_row _ _ o _ _ _ H7, fun o => cell_of_row _ _ o _ _ _ H9⟩) (fun _ => ?_)
  rw [← heap_drew wc] at b2 b3 H7 H9
  replace KB := KB.drew
  replace Os := Os.below (Below.refl _ _).drew
  replace Ob := Ob.below (Below.refl _ _).drew
  generalize wc.drew = v0 at KB b2 b3 H7 H9 Os Ob ⊢
  refine wpAnyH_take (i := 0) (v := ?_) rfl (by kernel_rfl) (by kernel_rfl) (by kernel_rfl) (fun _ _ _ h => h) (Or.inl ⟨by rfl, ?_⟩) ⟨fun o => cell_of_row _ _ o _ _ _ H7, fun o => cell_of_row _ _ o _ _ _ H9⟩ ?_
  rotate_left 1
  · intro w hSw
    obtain ⟨hs6, hs7⟩ := hSw
    go_simp
    try with_reducible rfl
  change wpAnyH _ _ _ _ _ _ _ (Act.put _ (some 115) _) _
  dsimp only [Act.put]
  refine wpAnyH_take (i := 1) (v := ?_) rfl (by kernel_rfl) (by kernel_rfl) (by kernel_rfl) (fun _ _ _ h => h) (Or.inl ⟨by rfl, ?_⟩) ⟨fun o => cell_of_row _ _ o _ _ _ H7, fun o => cell_of_row _ _ o _ _ _ H9⟩ ?_
  rotate_left 1
  · intro w hSw
    obtain ⟨hs6, hs7⟩ := hSw
    go_simp
    try with_reducible rfl
  change wpAnyH _ _ _ _ _ _ _ (Act.put _ (some 116) _) _
  dsimp only [Act.put]
  refine wpAnyH_ready (rs := [2]) (by kernel_rfl) (by simp) ?_
  refine AllReadyH.cons rfl (fun K' hK => ?_) AllReadyH.nil
  rw [if_pos (by rfl)]
  refine wp_store_row 34 (.tmp 2) (.tmp 115) rfl (w.heap.size) (stC Y0 Y1 Y2 Y3 s.pods.length f0 s.mnts.length f1 s.devs.length f2 s.lks.length f3 s.ph s.co s.ck s.bo s.ba s.lb s.gd s.pr) rfl rfl 34 _ b2 HIS.out rfl (by simp [Value.oneCell']) ?_
  have kk := keepsRow_ v0 (w.heap.size) (stC Y0 Y1 Y2 Y3 s.pods.length f0 s.mnts.length f1 s.devs.length f2 s.lks.length f3 s.ph s.co s.ck s.bo s.ba s.lb s.gd s.pr)
  replace KB := belowRow_ KB (B := w.heap.size) (by omega) (stC Y0 Y1 Y2 Y3 s.pods.length f0 s.mnts.length f1 s.devs.length f2 s.lks.length f3 s.ph s.co s.ck s.bo s.ba s.lb s.gd s.pr)
  replace b3 := (setRow_other _ (w.heap.size) (w.heap.size + 1) (stC Y0 Y1 Y2 Y3 s.pods.length f0 s.mnts.length f1 s.devs.length f2 s.lks.length f3 s.ph s.co s.ck s.bo s.ba s.lb s.gd s.pr) (by omega)).trans b3
  replace H7 := (setRow_other _ (w.heap.size) (R7) (stC Y0 Y1 Y2 Y3 s.pods.length f0 s.mnts.length f1 s.devs.length f2 s.lks.length f3 s.ph s.co s.ck s.bo s.ba s.lb s.gd s.pr) (by omega)).trans H7
  replace H9 := (setRow_other _ (w.heap.size) (R9) (stC Y0 Y1 Y2 Y3 s.pods.length f0 s.mnts.length f1 s.devs.length f2 s.lks.length f3 s.ph s.co s.ck s.bo s.ba s.lb s.gd s.pr) (by omega)).trans H9
  replace Os := Os.keepsT kk b2 (by decide)
  replace Ob := Ob.keepsT kk b2 (by decide)
  replace b2 := setRow_heap _ _ _ (stC Y0 Y1 Y2 Y3 s.pods.length f0 s.mnts.length f1 s.devs.length f2 s.lks.length f3 s.ph s.co s.ck s.bo s.ba s.lb s.gd s.pr) _ _ b2
  clear kk
  generalize v0.setRow (w.heap.size) (stC Y0 Y1 Y2 Y3 s.pods.length f0 s.mnts.length f1 s.devs.length f2 s.lks.length f3 s.ph s.co s.ck s.bo s.ba s.lb s.gd s.pr) = v1 at KB b2 b3 H7 H9 Os Ob ⊢
  refine hK.out _ _ ⟨fun o => cell_of_row _ _ o _ _ _ H7, fun o => cell_of_row _ _ o _ _ _ H9⟩ (fun _ => ?_)
  clear hK K'
  try (change wpAnyH _ _ _ _ _ _ _ (Act.put _ none _) _; dsimp only [Act.put])
  refine wpAnyH_ready (rs := [3]) (by kernel_rfl) (by simp) ?_
  refine AllReadyH.cons rfl (fun K' hK => ?_) AllReadyH.nil
  rw [if_pos (by rfl)]
  refine wp_store_row 34 (.tmp 3) (.tmp 116) rfl (w.heap.size + 1) (stC X0 X1 X2 X3 P.length h0 Q.length h1 ds.length h2 ls.length h3 ph co ck bo ba lb gd pr) rfl rfl 34 _ b3 HIS.out rfl (by simp [Value.oneCell']) ?_
  have kk := keepsRow_ v1 (w.heap.size + 1) (stC X0 X1 X2 X3 P.length h0 Q.length h1 ds.length h2 ls.length h3 ph co ck bo ba lb gd pr)
  replace KB := belowRow_ KB (B := w.heap.size + 1) (by omega) (stC X0 X1 X2 X3 P.length h0 Q.length h1 ds.length h2 ls.length h3 ph co ck bo ba lb gd pr)
  replace b2 := (setRow_other _ (w.heap.size + 1) (w.heap.size) (stC X0 X1 X2 X3 P.length h0 Q.length h1 ds.length h2 ls.length h3 ph co ck bo ba lb gd pr) (by omega)).trans b2
  replace H7 := (setRow_other _ (w.heap.size + 1) (R7) (stC X0 X1 X2 X3 P.length h0 Q.length h1 ds.length h2 ls.length h3 ph co ck bo ba lb gd pr) (by omega)).trans H7
  replace H9 := (setRow_other _ (w.heap.size + 1) (R9) (stC X0 X1 X2 X3 P.length h0 Q.length h1 ds.length h2 ls.length h3 ph co ck bo ba lb gd pr) (by omega)).trans H9
  replace Os := Os.keepsT kk b3 (by decide)
  replace Ob := Ob.keepsT kk b3 (by decide)
  replace b3 := setRow_heap _ _ _ (stC X0 X1 X2 X3 P.length h0 Q.length h1 ds.length h2 ls.length h3 ph co ck bo ba lb gd pr) _ _ b3
  clear kk
  generalize v1.setRow (w.heap.size + 1) (stC X0 X1 X2 X3 P.length h0 Q.length h1 ds.length h2 ls.length h3 ph co ck bo ba lb gd pr) = v2 at KB b2 b3 H7 H9 Os Ob ⊢
  refine hK.out _ _ ⟨fun o => cell_of_row _ _ o _ _ _ H7, fun o => cell_of_row _ _ o _ _ _ H9⟩ (fun _ => ?_)
  clear hK K'
  try (change wpAnyH _ _ _ _ _ _ _ (Act.put _ none _) _; dsimp only [Act.put])
  refine wpAnyH_done (by kernel_rfl) ?_ _
  refine NoPanic.normal ?_
  go_wp2_with fail
  exact bodyPost_ret (v := .tuple #[.agg (stC Y0 Y1 Y2 Y3 s.pods.length f0 s.mnts.length f1 s.devs.length f2 s.lks.length f3 s.ph s.co s.ck s.bo s.ba s.lb s.gd s.pr), .agg (stC X0 X1 X2 X3 P.length h0 Q.length h1 ds.length h2 ls.length h3 ph co ck bo ba lb gd pr)]) (results_two_cells Tryz.results12 _ _ _ _ _ _ _ _ _ _ _ _ rfl rfl b2 b3 Tryz.underlying34 rfl HIS.out Tryz.underlying34 rfl HIS.out) rfl ⟨_, _, _, _, rfl, Os.st, Ob.st, KB⟩
end Go.Proofs.YtdkmhaghnfhajaaGreatDoor
