/-
  FnTicks' walk.
-/
import Derived.Test.YtdkmhaghnfhajaaGreatDoorMZ17
import Derived.Test.YtdkmhaghnfhajaaGreatDoorMZxId
import Derived.Test.YtdkmhaghnfhajaaGreatDoorMZxXj
import Derived.Test.YtdkmhaghnfhajaaGreatDoorMZxDk
import Derived.Test.YtdkmhaghnfhajaaGreatDoorMZ0
import Derived.Test.YtdkmhaghnfhajaaGreatDoorMZ21
/- Ig -/
set_option linter.unusedVariables false
namespace Go.Proofs.YtdkmhaghnfhajaaGreatDoor
open Go.RowKit

set_option maxRecDepth 100000 in
set_option maxHeartbeats 8000000 in
theorem drawTickRecs_any (A : Option Addr) (n c : Nat) (w : World) (hB : Bytes w w.heap.size A n) (hn : n ≤ 4096) : Calls Tryz.prog 31 #[.slice A n c] w (GivesPS w) := by
  have HIP : Hid ((Tryz.prog.info? 29).map (·.size) = some 7) := Lib.hid (by kernel_rfl)
  have HIS : Hid ((Tryz.prog.info? 34).map (·.size) = some 12) := Lib.hid (by kernel_rfl)
  have b2 : ((w.alloc (.cells (planC none none none none 0 0 0 0 0 0 0 0 0 0 0) 29)).alloc (.cells (stC none none none none 0 0 0 0 0 0 0 0 0 false 0 0 0 0 0 0) 34)).heap[w.heap.size]? = some (.cells (planC none none none none 0 0 0 0 0 0 0 0 0 0 0) 29) := by
    have hb := (Below.refl (w.alloc (.cells (planC none none none none 0 0 0 0 0 0 0 0 0 0 0) 29)).heap.size (w.alloc (.cells (planC none none none none 0 0 0 0 0 0 0 0 0 0 0) 29))).alloc (Nat.le_refl _) (.cells (stC none none none none 0 0 0 0 0 0 0 0 0 false 0 0 0 0 0 0) 34)
    exact (hb.block w.heap.size (by simp)).trans (heap_alloc_new w _)
  have b3 := heap_alloc2_new w (.cells (planC none none none none 0 0 0 0 0 0 0 0 0 0 0) 29) (.cells (stC none none none none 0 0 0 0 0 0 0 0 0 false 0 0 0 0 0 0) 34)
  have KB : Below w.heap.size w ((w.alloc (.cells (planC none none none none 0 0 0 0 0 0 0 0 0 0 0) 29)).alloc (.cells (stC none none none none 0 0 0 0 0 0 0 0 0 false 0 0 0 0 0 0) 34)) := ((Below.refl _ _).alloc (Nat.le_refl _) _).alloc (by simp) _
  have HB := Lib.hid ((hB.below KB (Nat.le_refl _)).more KB.size)
  clear hB
  go_enter Tryz.func31, Tryz.ntmps31
  go_wp2_with fail
  generalize ((w.alloc (.cells (planC none none none none 0 0 0 0 0 0 0 0 0 0 0) 29)).alloc (.cells (stC none none none none 0 0 0 0 0 0 0 0 0 false 0 0 0 0 0 0) 34)) = w0 at b2 b3 KB HB ⊢
  refine (l1New_any A n c w0 HB.out hn).mono ?_
  rintro e w1 ⟨g, rfl, hg, hc1, K1⟩
  have hz3 := (Array.getElem?_eq_some_iff.1 b3).1
  replace b2 := (K1.block _ (Array.getElem?_eq_some_iff.1 b2).1).trans b2
  replace b3 := (K1.block _ (Array.getElem?_eq_some_iff.1 b3).1).trans b3
  replace KB := KB.trans (K1.mono KB.size)
  clear K1 HB
  go_wp2_with fail
  refine (l5DrawAny_any g w1 hc1).mono ?_
  rintro e w2 ⟨v0, v1, v2, v3, d, vs, s, rfl, Lp, Os, hd, hs, CU, hk⟩
  replace b2 := (hk.block _ (Array.getElem?_eq_some_iff.1 b2).1 (by show ¬ w.heap.size = g; omega)).trans b2
  replace b3 := (hk.block _ (Array.getElem?_eq_some_iff.1 b3).1 (by show ¬ w.heap.size + 1 = g; omega)).trans b3
  have hl2 : g < w2.heap.size := CU.lt
  have hz4 := (Array.getElem?_eq_some_iff.1 b3).1
  replace Lp := Lp.base KB.size
  have HG : ∀ r, rowsOf vs r → g < r := fun r hr => Nat.lt_of_lt_of_le hc1.lt (Os.blocks hr).1
  replace Os := Os.base KB.size
  replace KB := KB.trans (hk.below (B := w.heap.size) KB.size (by rintro b hb rfl; omega))
  clear hk hc1
  obtain ⟨y0, y1, y2, y3, rfl, -⟩ := Os.it
  obtain ⟨⟨Y0, f0, rfl⟩, ⟨Y1, f1, rfl⟩, ⟨Y2, f2, rfl⟩, ⟨Y3, f3, rfl⟩⟩ := Os.shapes
  obtain ⟨Q0, e0, rfl, -, -⟩ := Lp.o0.formR
  obtain ⟨Q1, e1, rfl, -, -⟩ := Lp.o1.formR
  obtain ⟨Q2, e2, rfl, -, -⟩ := Lp.o2.formR
  obtain ⟨Q3, e3, rfl, -, -⟩ := Lp.o3.formR
  have hA : Below w2.heap.size w2 ((w2.alloc (.cells (planC none none none none 0 0 0 0 0 0 0 0 0 0 0) 29)).alloc (.cells (stC none none none none 0 0 0 0 0 0 0 0 0 false 0 0 0 0 0 0) 34)) := ((Below.refl _ _).alloc (Nat.le_refl _) _).alloc (by simp) _
  have H6 : ((w2.alloc (.cells (planC none none none none 0 0 0 0 0 0 0 0 0 0 0) 29)).alloc (.cells (stC none none none none 0 0 0 0 0 0 0 0 0 false 0 0 0 0 0 0) 34)).heap[w2.heap.size]? = some (.cells (planC none none none none 0 0 0 0 0 0 0 0 0 0 0) 29) := by
    have hb := (Below.refl (w2.alloc (.cells (planC none none none none 0 0 0 0 0 0 0 0 0 0 0) 29)).heap.size (w2.alloc (.cells (planC none none none none 0 0 0 0 0 0 0 0 0 0 0) 29))).alloc (Nat.le_refl _) (.cells (stC none none none none 0 0 0 0 0 0 0 0 0 false 0 0 0 0 0 0) 34)
    exact (hb.block w2.heap.size (by simp)).trans (heap_alloc_new w2 _)
  have H7 := heap_alloc2_new w2 (.cells (planC none none none none 0 0 0 0 0 0 0 0 0 0 0) 29) (.cells (stC none none none none 0 0 0 0 0 0 0 0 0 false 0 0 0 0 0 0) 34)
  have H7' := (setRow_other ((w2.alloc (.cells (planC none none none none 0 0 0 0 0 0 0 0 0 0 0) 29)).alloc (.cells (stC none none none none 0 0 0 0 0 0 0 0 0 false 0 0 0 0 0 0) 34)) w2.heap.size _ (planC Q0 Q1 Q2 Q3 d.n0 e0 d.n1 e1 d.n2 e2 d.n3 e3 d.l d.p d.t) (Nat.succ_ne_self _)).trans H7
  go_upto_region 3 with (first
    | ((with_reducible refine store_plan (x := 5) (y := 13) (g := w2.heap.size) (cs := planC Q0 Q1 Q2 Q3 d.n0 e0 d.n1 e1 d.n2 e2 d.n3 e3 d.l d.p d.t) ?_ ?_ H6 ?_ ?_ ?_ ?_)
       · rfl
       · rfl
       · exact HIP.out
       · rfl
       · simp [Value.oneCell'])
    | ((with_reducible refine store_state (x := 6) (y := 14) (g := w2.heap.size + 1) (cs := stC Y0 Y1 Y2 Y3 s.pods.length f0 s.mnts.length f1 s.devs.length f2 s.lks.length f3 s.ph s.co s.ck s.bo s.ba s.lb s.gd s.pr) ?_ ?_ H7' ?_ ?_ ?_ ?_)
       · rfl
       · rfl
       · exact HIS.out
       · rfl
       · simp [Value.oneCell']))
  have h2w := KB.size
  have hw2 : w2.heap.size < w2.heap.size + 1 := Nat.lt_succ_self _
  have hA2 := below_setRow (below_setRow hA (Nat.le_refl _) (planC Q0 Q1 Q2 Q3 d.n0 e0 d.n1 e1 d.n2 e2 d.n3 e3 d.l d.p d.t)) (Nat.le_succ _) (stC Y0 Y1 Y2 Y3 s.pods.length f0 s.mnts.length f1 s.devs.length f2 s.lks.length f3 s.ph s.co s.ck s.bo s.ba s.lb s.gd s.pr)
  have G6 := (setRow_other (((w2.alloc (.cells (planC none none none none 0 0 0 0 0 0 0 0 0 0 0) 29)).alloc (.cells (stC none none none none 0 0 0 0 0 0 0 0 0 false 0 0 0 0 0 0) 34)).setRow w2.heap.size (planC Q0 Q1 Q2 Q3 d.n0 e0 d.n1 e1 d.n2 e2 d.n3 e3 d.l d.p d.t)) (w2.heap.size + 1) w2.heap.size (stC Y0 Y1 Y2 Y3 s.pods.length f0 s.mnts.length f1 s.devs.length f2 s.lks.length f3 s.ph s.co s.ck s.bo s.ba s.lb s.gd s.pr) (by omega)).trans (setRow_heap _ _ _ (planC Q0 Q1 Q2 Q3 d.n0 e0 d.n1 e1 d.n2 e2 d.n3 e3 d.l d.p d.t) _ _ H6)
  have G7 := setRow_heap (((w2.alloc (.cells (planC none none none none 0 0 0 0 0 0 0 0 0 0 0) 29)).alloc (.cells (stC none none none none 0 0 0 0 0 0 0 0 0 false 0 0 0 0 0 0) 34)).setRow w2.heap.size (planC Q0 Q1 Q2 Q3 d.n0 e0 d.n1 e1 d.n2 e2 d.n3 e3 d.l d.p d.t)) (w2.heap.size + 1) _ (stC Y0 Y1 Y2 Y3 s.pods.length f0 s.mnts.length f1 s.devs.length f2 s.lks.length f3 s.ph s.co s.ck s.bo s.ba s.lb s.gd s.pr) _ _ H7'
  clear H6 H7 H7' hA
  replace b2 := (hA2.block _ (Array.getElem?_eq_some_iff.1 b2).1).trans b2
  replace b3 := (hA2.block _ (Array.getElem?_eq_some_iff.1 b3).1).trans b3
  replace Lp := Lp.below hA2
  replace Os := Os.below hA2
  replace KB := KB.trans (hA2.mono KB.size)
  replace CU := CU.below hA2
  have hg2 : g < w2.heap.size := by assumption
  clear hA2 hw2
  generalize (((w2.alloc (.cells (planC none none none none 0 0 0 0 0 0 0 0 0 0 0) 29)).alloc (.cells (stC none none none none 0 0 0 0 0 0 0 0 0 false 0 0 0 0 0 0) 34)).setRow w2.heap.size (planC Q0 Q1 Q2 Q3 d.n0 e0 d.n1 e1 d.n2 e2 d.n3 e3 d.l d.p d.t)).setRow (w2.heap.size + 1) (stC Y0 Y1 Y2 Y3 s.pods.length f0 s.mnts.length f1 s.devs.length f2 s.lks.length f3 s.ph s.co s.ck s.bo s.ba s.lb s.gd s.pr) = w3 at b2 b3 G6 G7 Lp Os KB CU ⊢
  obtain ⟨R7, hR7⟩ : ∃ R, w2.heap.size + 1 = R := ⟨_, rfl⟩
  rw [hR7] at G7 ⊢
  generalize w2.heap.size = R6 at G6 hR7 hz4 hl2 hg2 h2w ⊢
  have H6 := G6
  have H7 := G7
  clear G6 G7
  obtain ⟨ph, co, ck, bo, ba, lb, ps, ms, ds, ls, gd, pr⟩ := s
  dsimp only at Os H7 hs ⊢
  have hs0 : ps.length ≤ 12 := hs.s0
  have hps1 : ps.length ≤ 12 := hs.s0
  go_wp2_with fail
  refine (l1Once_any g 3 w3 CU (by omega) (by omega)).mono ?_
  rintro e w4 ⟨b, rfl, CU4, hk4⟩
  obtain ⟨gcs, hgc⟩ := CU.cells
  replace Lp := Lp.keeps hk4 hgc (by decide)
  replace Os := Os.keepsT hk4 hgc (by decide)
  replace b2 := (hk4.block _ (Array.getElem?_eq_some_iff.1 b2).1 (by show ¬ w.heap.size = g; omega)).trans b2
  replace b3 := (hk4.block _ (Array.getElem?_eq_some_iff.1 b3).1 (by show ¬ w.heap.size + 1 = g; omega)).trans b3
  replace H6 := (hk4.block _ (Array.getElem?_eq_some_iff.1 H6).1 (by show ¬ R6 = g; omega)).trans H6
  replace H7 := (hk4.block _ (Array.getElem?_eq_some_iff.1 H7).1 (by show ¬ R7 = g; omega)).trans H7
  replace KB := KB.trans (hk4.below (B := w.heap.size) KB.size (by rintro b hb rfl; omega))
  clear hk4 CU hgc
  have CU := CU4
  clear CU4
  cases b
  · skip
    go_upto_region 11 with fail
    skip
    refine wp_region_noPanic ?_
    refine wp_region_held_drew (S := fun W => (∀ o, W.cell? ⟨R6, o, none⟩ = (planC Q0 Q1 Q2 Q3 d.n0 e0 d.n1 e1 d.n2 e2 d.n3 e3 d.l d.p d.t)[o]?) ∧ (∀ o, W.cell? ⟨R7, o, none⟩ = (stC Y0 Y1 Y2 Y3 ps.length f0 ms.length f1 ds.length f2 ls.length f3 ph co ck bo ba lb gd pr)[o]?)) (by kernel_rfl) (by rw [← heap_drew w4] at H6 H7; exact ⟨fun o => cell_of_row _ _ o _ _ _ H6, fun o => cell_of_row _ _ o _ _ _ H7⟩) (fun _ => ?_)
    rw [← heap_drew w4] at b2 b3 H6 H7
    replace Lp := Lp.below (Below.refl _ _).drew
    replace Os := Os.below (Below.refl _ _).drew
    replace KB := KB.drew
    replace CU := CU.below (Below.refl _ _).drew
    generalize w4.drew = v0 at KB b2 b3 H6 H7 Lp Os CU ⊢
    refine wpAnyH_take (i := 0) (v := ?_) rfl (by kernel_rfl) (by kernel_rfl) (by kernel_rfl) (fun _ _ _ h => h) (Or.inl ⟨by rfl, ?_⟩) ⟨fun o => cell_of_row _ _ o _ _ _ H6, fun o => cell_of_row _ _ o _ _ _ H7⟩ ?_
    rotate_left 1
    · intro w hSw
      obtain ⟨hs6, hs7⟩ := hSw
      go_simp
      try with_reducible rfl
    change wpAnyH _ _ _ _ _ _ _ (Act.put _ (some 37) _) _
    dsimp only [Act.put]
    refine wpAnyH_take (i := 1) (v := ?_) rfl (by kernel_rfl) (by kernel_rfl) (by kernel_rfl) (fun _ _ _ h => h) (Or.inl ⟨by rfl, ?_⟩) ⟨fun o => cell_of_row _ _ o _ _ _ H6, fun o => cell_of_row _ _ o _ _ _ H7⟩ ?_
    rotate_left 1
    · intro w hSw
      obtain ⟨hs6, hs7⟩ := hSw
      go_simp
      try with_reducible rfl
    change wpAnyH _ _ _ _ _ _ _ (Act.put _ (some 38) _) _
    dsimp only [Act.put]
    refine wpAnyH_ready (rs := [2]) (by kernel_rfl) (by simp) ?_
    refine AllReadyH.cons rfl (fun K' hK => ?_) AllReadyH.nil
    rw [if_pos (by rfl)]
    refine wp_store_row 29 (.tmp 2) (.tmp 37) rfl (w.heap.size) (planC Q0 Q1 Q2 Q3 d.n0 e0 d.n1 e1 d.n2 e2 d.n3 e3 d.l d.p d.t) rfl rfl 29 _ b2 HIP.out rfl (by simp [Value.oneCell']) ?_
    have kk := keepsRow_ v0 (w.heap.size) (planC Q0 Q1 Q2 Q3 d.n0 e0 d.n1 e1 d.n2 e2 d.n3 e3 d.l d.p d.t)
    replace KB := belowRow_ KB (B := w.heap.size) (by omega) (planC Q0 Q1 Q2 Q3 d.n0 e0 d.n1 e1 d.n2 e2 d.n3 e3 d.l d.p d.t)
    replace b3 := (setRow_other _ (w.heap.size) (w.heap.size + 1) (planC Q0 Q1 Q2 Q3 d.n0 e0 d.n1 e1 d.n2 e2 d.n3 e3 d.l d.p d.t) (by omega)).trans b3
    replace H6 := (setRow_other _ (w.heap.size) (R6) (planC Q0 Q1 Q2 Q3 d.n0 e0 d.n1 e1 d.n2 e2 d.n3 e3 d.l d.p d.t) (by omega)).trans H6
    replace H7 := (setRow_other _ (w.heap.size) (R7) (planC Q0 Q1 Q2 Q3 d.n0 e0 d.n1 e1 d.n2 e2 d.n3 e3 d.l d.p d.t) (by omega)).trans H7
    replace Lp := Lp.keeps kk b2 (by decide)
    replace Os := Os.keepsT kk b2 (by decide)
    replace b2 := setRow_heap _ _ _ (planC Q0 Q1 Q2 Q3 d.n0 e0 d.n1 e1 d.n2 e2 d.n3 e3 d.l d.p d.t) _ _ b2
    clear kk
    generalize v0.setRow (w.heap.size) (planC Q0 Q1 Q2 Q3 d.n0 e0 d.n1 e1 d.n2 e2 d.n3 e3 d.l d.p d.t) = v1 at KB b2 b3 H6 H7 Lp Os ⊢
    refine hK.out _ _ ⟨fun o => cell_of_row _ _ o _ _ _ H6, fun o => cell_of_row _ _ o _ _ _ H7⟩ (fun _ => ?_)
    clear hK K'
    try (change wpAnyH _ _ _ _ _ _ _ (Act.put _ none _) _; dsimp only [Act.put])
    refine wpAnyH_ready (rs := [3]) (by kernel_rfl) (by simp) ?_
    refine AllReadyH.cons rfl (fun K' hK => ?_) AllReadyH.nil
    rw [if_pos (by rfl)]
    refine wp_store_row 34 (.tmp 3) (.tmp 38) rfl (w.heap.size + 1) (stC Y0 Y1 Y2 Y3 ps.length f0 ms.length f1 ds.length f2 ls.length f3 ph co ck bo ba lb gd pr) rfl rfl 34 _ b3 HIS.out rfl (by simp [Value.oneCell']) ?_
    have kk := keepsRow_ v1 (w.heap.size + 1) (stC Y0 Y1 Y2 Y3 ps.length f0 ms.length f1 ds.length f2 ls.length f3 ph co ck bo ba lb gd pr)
    replace KB := belowRow_ KB (B := w.heap.size + 1) (by omega) (stC Y0 Y1 Y2 Y3 ps.length f0 ms.length f1 ds.length f2 ls.length f3 ph co ck bo ba lb gd pr)
    replace b2 := (setRow_other _ (w.heap.size + 1) (w.heap.size) (stC Y0 Y1 Y2 Y3 ps.length f0 ms.length f1 ds.length f2 ls.length f3 ph co ck bo ba lb gd pr) (by omega)).trans b2
    replace H6 := (setRow_other _ (w.heap.size + 1) (R6) (stC Y0 Y1 Y2 Y3 ps.length f0 ms.length f1 ds.length f2 ls.length f3 ph co ck bo ba lb gd pr) (by omega)).trans H6
    replace H7 := (setRow_other _ (w.heap.size + 1) (R7) (stC Y0 Y1 Y2 Y3 ps.length f0 ms.length f1 ds.length f2 ls.length f3 ph co ck bo ba lb gd pr) (by omega)).trans H7
    replace Lp := Lp.keeps kk b3 (by decide)
    replace Os := Os.keepsT kk b3 (by decide)
    replace b3 := setRow_heap _ _ _ (stC Y0 Y1 Y2 Y3 ps.length f0 ms.length f1 ds.length f2 ls.length f3 ph co ck bo ba lb gd pr) _ _ b3
    clear kk
    generalize v1.setRow (w.heap.size + 1) (stC Y0 Y1 Y2 Y3 ps.length f0 ms.length f1 ds.length f2 ls.length f3 ph co ck bo ba lb gd pr) = v2 at KB b2 b3 H6 H7 Lp Os ⊢
    refine hK.out _ _ ⟨fun o => cell_of_row _ _ o _ _ _ H6, fun o => cell_of_row _ _ o _ _ _ H7⟩ (fun _ => ?_)
    clear hK K'
    try (change wpAnyH _ _ _ _ _ _ _ (Act.put _ none _) _; dsimp only [Act.put])
    refine wpAnyH_done (by kernel_rfl) ?_ _
    refine NoPanic.normal ?_
    go_wp2_with fail
    exact bodyPost_ret (v := .tuple #[.agg (planC Q0 Q1 Q2 Q3 d.n0 e0 d.n1 e1 d.n2 e2 d.n3 e3 d.l d.p d.t), .agg (stC Y0 Y1 Y2 Y3 ps.length f0 ms.length f1 ds.length f2 ls.length f3 ph co ck bo ba lb gd pr)]) (results_two_cells Tryz.results31 _ _ _ _ _ _ _ _ _ _ _ _ rfl rfl b2 b3 Tryz.underlying29 rfl HIP.out Tryz.underlying34 rfl HIS.out) rfl ⟨_, _, _, _, d, _, ⟨ph, co, ck, bo, ba, lb, ps, ms, ds, ls, gd, pr⟩, rfl, Lp, Os, hd, ⟨hs.s0, hs.s1, hs.s2, hs.s3⟩, KB⟩
  · go_wp2_with fail
    refine (l1From_any g 3 4 w4 CU (by omega) (by omega) (by omega) (by omega)).mono ?_
    rintro e w5 ⟨kn, rfl, -, -, CU4, hk4⟩
    obtain ⟨gcs, hgc⟩ := CU.cells
    replace Lp := Lp.keeps hk4 hgc (by decide)
    replace Os := Os.keepsT hk4 hgc (by decide)
    replace b2 := (hk4.block _ (Array.getElem?_eq_some_iff.1 b2).1 (by show ¬ w.heap.size = g; omega)).trans b2
    replace b3 := (hk4.block _ (Array.getElem?_eq_some_iff.1 b3).1 (by show ¬ w.heap.size + 1 = g; omega)).trans b3
    replace H6 := (hk4.block _ (Array.getElem?_eq_some_iff.1 H6).1 (by show ¬ R6 = g; omega)).trans H6
    replace H7 := (hk4.block _ (Array.getElem?_eq_some_iff.1 H7).1 (by show ¬ R7 = g; omega)).trans H7
    replace KB := KB.trans (hk4.below (B := w.heap.size) KB.size (by rintro b hb rfl; omega))
    clear hk4 CU hgc
    have CU := CU4
    clear CU4
    have hC7 : ∀ o, w5.cell? ⟨R7, o, none⟩ = (stC Y0 Y1 Y2 Y3 ps.length f0 ms.length f1 ds.length f2 ls.length f3 ph co ck bo ba lb gd pr)[o]? := fun o => cell_of_row _ _ o _ _ _ H7
    have hF7 : ∀ o, w5.frozen? ⟨R7, o, none⟩ = false := fun o => frozen_of_row _ _ _ _ _ H7
    have h7a := heap_setCell_same w5 R7 0 _ _ (.int .i64 kn) H7
    have h7b := heap_setCell_same (w5.setCell ⟨R7, 0, none⟩ (.int .i64 kn)) R7 1 _ _ (.bool true) h7a
    have hC7b : ∀ o, ((w5.setCell ⟨R7, 0, none⟩ (.int .i64 kn)).setCell ⟨R7, 1, none⟩ (.bool true)).cell? ⟨R7, o, none⟩ = (stC Y0 Y1 Y2 Y3 ps.length f0 ms.length f1 ds.length f2 ls.length f3 kn true ck bo ba lb gd pr)[o]? := fun o => cell_of_row _ _ o _ _ _ h7b
    go_upto_region 6 with fail
    have kk : Keeps (· = R7) w5 ((w5.setCell ⟨R7, 0, none⟩ (.int .i64 kn)).setCell ⟨R7, 1, none⟩ (.bool true)) := Keeps.set (S := (· = R7)) (Keeps.set (S := (· = R7)) (Keeps.refl _ _) rfl _) rfl _
    replace Lp := Lp.keeps kk H7 (by decide)
    replace Os := (Os.keepsT kk H7 (by decide)).nums kn true ck bo ba lb gd pr
    replace b2 := (kk.block _ (Array.getElem?_eq_some_iff.1 b2).1 (by show ¬ w.heap.size = R7; omega)).trans b2
    replace b3 := (kk.block _ (Array.getElem?_eq_some_iff.1 b3).1 (by show ¬ w.heap.size + 1 = R7; omega)).trans b3
    replace H6 := (kk.block _ (Array.getElem?_eq_some_iff.1 H6).1 (by show ¬ R6 = R7; omega)).trans H6
    replace KB := KB.trans (kk.below (B := w.heap.size) KB.size (by rintro b hb rfl; omega))
    replace CU := CU.keeps kk (fun b hb e => by omega)
    replace H7 : ((w5.setCell ⟨R7, 0, none⟩ (.int .i64 kn)).setCell ⟨R7, 1, none⟩ (.bool true)).heap[R7]? = some (.cells (stC Y0 Y1 Y2 Y3 ps.length f0 ms.length f1 ds.length f2 ls.length f3 kn true ck bo ba lb gd pr) 34) := h7b
    clear h7a h7b kk hC7 hF7 hC7b
    generalize (w5.setCell ⟨R7, 0, none⟩ (.int .i64 kn)).setCell ⟨R7, 1, none⟩ (.bool true) = w6 at KB b2 b3 H6 H7 Lp Os CU ⊢
    have h7 : ∀ o, w6.cell? ⟨R7, o, none⟩ = (stC Y0 Y1 Y2 Y3 ps.length f0 ms.length f1 ds.length f2 ls.length f3 kn true ck bo ba lb gd pr)[o]? := fun o => cell_of_row _ _ o _ _ _ H7
    go_wp2_with fail
    go_loopw [7] (fun i wr => ∃ (k : Nat) (P : List (Int × Int)), P.length = ps.length ∧ k ≤ ps.length ∧ i = .int .i64 k ∧ Cur 141 .i64 wr g ∧ Below w.heap.size w wr ∧ Lists wr w.heap.size (.slice Q0 d.n0 e0) (.slice Q1 d.n1 e1) (.slice Q2 d.n2 e2) (.slice Q3 d.n3 e3) d ∧ OwnSt wr w.heap.size (.agg (stC Y0 Y1 Y2 Y3 ps.length f0 ms.length f1 ds.length f2 ls.length f3 kn true ck bo ba lb gd pr)) ⟨kn, true, ck, bo, ba, lb, P, ms, ds, ls, gd, pr⟩ ∧ wr.heap[w.heap.size]? = some (.cells (planC none none none none 0 0 0 0 0 0 0 0 0 0 0) 29) ∧ wr.heap[w.heap.size + 1]? = some (.cells (stC none none none none 0 0 0 0 0 0 0 0 0 false 0 0 0 0 0 0) 34) ∧ wr.heap[R6]? = some (.cells (planC Q0 Q1 Q2 Q3 d.n0 e0 d.n1 e1 d.n2 e2 d.n3 e3 d.l d.p d.t) 29) ∧ wr.heap[R7]? = some (.cells (stC Y0 Y1 Y2 Y3 ps.length f0 ms.length f1 ds.length f2 ls.length f3 kn true ck bo ba lb gd pr) 34)) (fun i _ => ps.length - (intOf i).toNat)
    case atStart => exact ⟨0, ps, rfl, Nat.zero_le _, rfl, CU, KB, Lp, Os, b2, b3, H6, H7⟩
    case round =>
      clear h7 CU KB b2 b3 H6 H7 Lp Os
      obtain ⟨k, P, hl, hk, rfl, CU, KB, Lp, Os, b2, b3, H6, H7⟩ := hrel
      have h7 : ∀ o, wr.cell? ⟨R7, o, none⟩ = (stC Y0 Y1 Y2 Y3 ps.length f0 ms.length f1 ds.length f2 ls.length f3 kn true ck bo ba lb gd pr)[o]? := fun o => cell_of_row _ _ o _ _ _ H7
      by_cases hlt : k < ps.length
      · go_wp2_with fail
        refine (l1Once_any g 2 wr CU (by omega) (by omega)).mono ?_
        rintro e w7 ⟨b, rfl, CU4, hk4⟩
        obtain ⟨gcs, hgc⟩ := CU.cells
        replace Lp := Lp.keeps hk4 hgc (by decide)
        replace Os := Os.keepsT hk4 hgc (by decide)
        replace b2 := (hk4.block _ (Array.getElem?_eq_some_iff.1 b2).1 (by show ¬ w.heap.size = g; omega)).trans b2
        replace b3 := (hk4.block _ (Array.getElem?_eq_some_iff.1 b3).1 (by show ¬ w.heap.size + 1 = g; omega)).trans b3
        replace H6 := (hk4.block _ (Array.getElem?_eq_some_iff.1 H6).1 (by show ¬ R6 = g; omega)).trans H6
        replace H7 := (hk4.block _ (Array.getElem?_eq_some_iff.1 H7).1 (by show ¬ R7 = g; omega)).trans H7
        replace KB := KB.trans (hk4.below (B := w.heap.size) KB.size (by rintro b hb rfl; omega))
        clear hk4 CU hgc h7
        have CU := CU4
        clear CU4
        have h7 : ∀ o, w7.cell? ⟨R7, o, none⟩ = (stC Y0 Y1 Y2 Y3 ps.length f0 ms.length f1 ds.length f2 ls.length f3 kn true ck bo ba lb gd pr)[o]? := fun o => cell_of_row _ _ o _ _ _ H7
        cases b
        · go_wp2_with fail
          exact ⟨⟨k + 1, P, hl, by omega, by go_num, CU, KB, Lp, Os, b2, b3, H6, H7⟩, by simp [intOf]; omega⟩
        · obtain ⟨gr, hY, hBg, hgz, ⟨rcs, hgr⟩, HR⟩ := Os.podRow (i := k) (by show k < P.length; omega)
          subst hY
          clear HR hgr hBg hgz rcs h7
          go_upto_region 10 with fail
          refine wp_region_noPanic ?_
          refine wp_region_held_drew (S := fun W => (∀ o, W.cell? ⟨R6, o, none⟩ = (planC Q0 Q1 Q2 Q3 d.n0 e0 d.n1 e1 d.n2 e2 d.n3 e3 d.l d.p d.t)[o]?) ∧ (∀ o, W.cell? ⟨R7, o, none⟩ = (stC (some ⟨gr, 0, none⟩) Y1 Y2 Y3 ps.length f0 ms.length f1 ds.length f2 ls.length f3 kn true ck bo ba lb gd pr)[o]?)) (by kernel_rfl) (by rw [← heap_drew w7] at H6 H7; exact ⟨fun o => cell_of_row _ _ o _ _ _ H6, fun o => cell_of_row _ _ o _ _ _ H7⟩) (fun _ => ?_)
          rw [← heap_drew w7] at b2 b3 H6 H7
          replace Lp := Lp.below (Below.refl _ _).drew
          replace Os := Os.below (Below.refl _ _).drew
          replace KB := KB.drew
          replace CU := CU.below (Below.refl _ _).drew
          generalize w7.drew = v0 at KB b2 b3 H6 H7 Lp Os CU ⊢
          refine wpAnyH_take (i := 0) (v := ?_) rfl (by kernel_rfl) (by kernel_rfl) (by kernel_rfl) (fun _ _ _ h => h) (Or.inl ⟨by rfl, ?_⟩) ⟨fun o => cell_of_row _ _ o _ _ _ H6, fun o => cell_of_row _ _ o _ _ _ H7⟩ ?_
          rotate_left 1
          · intro w hSw
            obtain ⟨hs6, hs7⟩ := hSw
            go_simp
            try with_reducible rfl
          change wpAnyH _ _ _ _ _ _ _ (Act.put _ (some 30) _) _
          dsimp only [Act.put]
          refine wpAnyH_take (i := 1) (v := ?_) rfl (by kernel_rfl) (by kernel_rfl) (by kernel_rfl) (fun _ _ _ h => h) (Or.inl ⟨by rfl, ?_⟩) ⟨fun o => cell_of_row _ _ o _ _ _ H6, fun o => cell_of_row _ _ o _ _ _ H7⟩ ?_
          rotate_left 1
          · intro w hSw
            obtain ⟨hs6, hs7⟩ := hSw
            go_simp
            try with_reducible rfl
          change wpAnyH _ _ _ _ _ _ _ (Act.put _ (some 31) _) _
          dsimp only [Act.put]
          refine wpAnyH_take (i := 2) (v := ?_) rfl (by kernel_rfl) (by kernel_rfl) (by kernel_rfl) (fun _ _ _ h => h) (Or.inl ⟨by rfl, ?_⟩) ⟨fun o => cell_of_row _ _ o _ _ _ H6, fun o => cell_of_row _ _ o _ _ _ H7⟩ ?_
          rotate_left 1
          · intro w hSw
            obtain ⟨hs6, hs7⟩ := hSw
            go_simp
            try with_reducible rfl
          change wpAnyH _ _ _ _ _ _ _ (Act.put _ (some 32) _) _
          dsimp only [Act.put]
          refine wpAnyH_take (i := 3) (v := ?_) rfl (by kernel_rfl) (by kernel_rfl) (by kernel_rfl) (fun _ _ _ h => h) (Or.inl ⟨by rfl, ?_⟩) ⟨fun o => cell_of_row _ _ o _ _ _ H6, fun o => cell_of_row _ _ o _ _ _ H7⟩ ?_
          rotate_left 1
          · intro w hSw
            obtain ⟨hs6, hs7⟩ := hSw
            go_simp
            try with_reducible rfl
          change wpAnyH _ _ _ _ _ _ _ (Act.put _ (some 33) _) _
          dsimp only [Act.put]
          refine wpAnyH_ready (rs := [4]) (by kernel_rfl) (by simp) ?_
          refine AllReadyH.cons rfl (fun K' hK => ?_) AllReadyH.nil
          go_simp
          go_at_call 77
          refine (l1From_any g 0 4 v0 CU (by omega) (by omega) (by omega) (by omega)).mono ?_
          rintro e v1 ⟨kx, rfl, -, -, CU9, hk4⟩
          obtain ⟨gcs, hgc⟩ := CU.cells
          replace Lp := Lp.keeps hk4 hgc (by decide)
          replace Os := Os.keepsT hk4 hgc (by decide)
          replace b2 := (hk4.block _ (Array.getElem?_eq_some_iff.1 b2).1 (by show ¬ w.heap.size = g; omega)).trans b2
          replace b3 := (hk4.block _ (Array.getElem?_eq_some_iff.1 b3).1 (by show ¬ w.heap.size + 1 = g; omega)).trans b3
          replace H6 := (hk4.block _ (Array.getElem?_eq_some_iff.1 H6).1 (by show ¬ R6 = g; omega)).trans H6
          replace H7 := (hk4.block _ (Array.getElem?_eq_some_iff.1 H7).1 (by show ¬ R7 = g; omega)).trans H7
          replace KB := KB.trans (hk4.below (B := w.heap.size) KB.size (by rintro b hb rfl; omega))
          clear hk4 CU hgc
          have CU := CU9
          clear CU9
          go_wp2_with fail
          refine hK.out _ _ ⟨fun o => cell_of_row _ _ o _ _ _ H6, fun o => cell_of_row _ _ o _ _ _ H7⟩ (fun _ => ?_)
          clear hK K'
          try (change wpAnyH _ _ _ _ _ _ _ (Act.put _ (some 34) _) _; dsimp only [Act.put])
          refine wpAnyH_take (i := 5) (v := ?_) rfl (by kernel_rfl) (by kernel_rfl) (by kernel_rfl) (fun _ _ _ h => h) (Or.inl ⟨by rfl, ?_⟩) ⟨fun o => cell_of_row _ _ o _ _ _ H6, fun o => cell_of_row _ _ o _ _ _ H7⟩ ?_
          rotate_left 1
          · intro w hSw
            obtain ⟨hs6, hs7⟩ := hSw
            go_simp
            try with_reducible rfl
          change wpAnyH _ _ _ _ _ _ _ (Act.put _ (some 35) _) _
          dsimp only [Act.put]
          refine wpAnyH_take (i := 6) (v := ?_) rfl (by kernel_rfl) (by kernel_rfl) (by kernel_rfl) (fun _ _ _ h => h) (Or.inl ⟨by rfl, ?_⟩) ⟨fun o => cell_of_row _ _ o _ _ _ H6, fun o => cell_of_row _ _ o _ _ _ H7⟩ ?_
          rotate_left 1
          · intro w hSw
            obtain ⟨hs6, hs7⟩ := hSw
            go_simp
            try with_reducible rfl
          change wpAnyH _ _ _ _ _ _ _ (Act.put _ (some 36) _) _
          dsimp only [Act.put]
          refine wpAnyH_ready (rs := [7]) (by kernel_rfl) (by simp) ?_
          refine AllReadyH.cons rfl (fun K' hK => ?_) AllReadyH.nil
          obtain ⟨gr2, hY2, hBg, hgz, ⟨rcs, hgr⟩, HR⟩ := Os.podRow (i := k) (by show k < P.length; omega)
          have hY3 : gr = gr2 := by
            injection hY2 with e
            injection e
          subst hY3
          have q0 := (HR (k * 2) (by rw [podCs_len]; show _ < P.length * 2; omega)).1.trans (podCs_at P (i := k) (by omega)).1
          have hf0 := (HR (k * 2) (by rw [podCs_len]; show _ < P.length * 2; omega)).2
          go_simp
          have kk : Keeps (· = gr) v1 (v1.setCell ⟨gr, k * 2, none⟩ (.int .i64 kx)) := Keeps.set (S := (· = gr)) (Keeps.refl _ _) rfl _
          have n6 : ¬ R6 = gr := ne_types hgr H6 (by decide)
          have n7 : ¬ R7 = gr := ne_types hgr H7 (by decide)
          have n2 : ¬ w.heap.size = gr := ne_types hgr b2 (by decide)
          have n3 : ¬ w.heap.size + 1 = gr := ne_types hgr b3 (by decide)
          have OsX := Os.podSet (i := k) (by show k < P.length; omega) kx
          replace H6 := (kk.block _ (Array.getElem?_eq_some_iff.1 H6).1 n6).trans H6
          replace H7 := (kk.block _ (Array.getElem?_eq_some_iff.1 H7).1 n7).trans H7
          replace b2 := (kk.block _ (Array.getElem?_eq_some_iff.1 b2).1 n2).trans b2
          replace b3 := (kk.block _ (Array.getElem?_eq_some_iff.1 b3).1 n3).trans b3
          have hgg : g < gr := HG gr ⟨_, 6, _, rfl, rfl, rfl⟩
          replace Lp := Lp.keeps kk hgr (by decide)
          replace CU := CU.keeps kk (fun b hb e => by omega)
          replace KB := KB.trans (kk.below (B := w.heap.size) KB.size (by rintro b hb rfl; omega))
          clear kk q0 hf0 HR hgr hBg hgz Os
          generalize v1.setCell ⟨gr, k * 2, none⟩ (.int .i64 kx) = v2 at OsX H6 H7 b2 b3 Lp CU KB ⊢
          have Os := OsX
          clear OsX
          refine hK.out _ _ ⟨fun o => cell_of_row _ _ o _ _ _ H6, fun o => cell_of_row _ _ o _ _ _ H7⟩ (fun _ => ?_)
          clear hK K'
          try (change wpAnyH _ _ _ _ _ _ _ (Act.put _ none _) _; dsimp only [Act.put])
          refine wpAnyH_done (by kernel_rfl) ?_ _
          refine NoPanic.normal ?_
          go_wp2_with fail
          exact ⟨⟨k + 1, P.set k (kx, (podA P k).2), by rw [List.length_set]; exact hl, by omega, by go_num, CU, KB, Lp, Os, b2, b3, H6, H7⟩, by simp [intOf]; omega⟩
      · obtain rfl : k = ps.length := by omega
        go_upto_region 11 with fail
        clear h7 hk
        refine wp_region_noPanic ?_
        refine wp_region_held_drew (S := fun W => (∀ o, W.cell? ⟨R6, o, none⟩ = (planC Q0 Q1 Q2 Q3 d.n0 e0 d.n1 e1 d.n2 e2 d.n3 e3 d.l d.p d.t)[o]?) ∧ (∀ o, W.cell? ⟨R7, o, none⟩ = (stC Y0 Y1 Y2 Y3 ps.length f0 ms.length f1 ds.length f2 ls.length f3 kn true ck bo ba lb gd pr)[o]?)) (by kernel_rfl) (by rw [← heap_drew wr] at H6 H7; exact ⟨fun o => cell_of_row _ _ o _ _ _ H6, fun o => cell_of_row _ _ o _ _ _ H7⟩) (fun _ => ?_)
        rw [← heap_drew wr] at b2 b3 H6 H7
        replace Lp := Lp.below (Below.refl _ _).drew
        replace Os := Os.below (Below.refl _ _).drew
        replace KB := KB.drew
        replace CU := CU.below (Below.refl _ _).drew
        generalize wr.drew = v0 at KB b2 b3 H6 H7 Lp Os CU ⊢
        refine wpAnyH_take (i := 0) (v := ?_) rfl (by kernel_rfl) (by kernel_rfl) (by kernel_rfl) (fun _ _ _ h => h) (Or.inl ⟨by rfl, ?_⟩) ⟨fun o => cell_of_row _ _ o _ _ _ H6, fun o => cell_of_row _ _ o _ _ _ H7⟩ ?_
        rotate_left 1
        · intro w hSw
          obtain ⟨hs6, hs7⟩ := hSw
          go_simp
          try with_reducible rfl
        change wpAnyH _ _ _ _ _ _ _ (Act.put _ (some 37) _) _
        dsimp only [Act.put]
        refine wpAnyH_take (i := 1) (v := ?_) rfl (by kernel_rfl) (by kernel_rfl) (by kernel_rfl) (fun _ _ _ h => h) (Or.inl ⟨by rfl, ?_⟩) ⟨fun o => cell_of_row _ _ o _ _ _ H6, fun o => cell_of_row _ _ o _ _ _ H7⟩ ?_
        rotate_left 1
        · intro w hSw
          obtain ⟨hs6, hs7⟩ := hSw
          go_simp
          try with_reducible rfl
        change wpAnyH _ _ _ _ _ _ _ (Act.put _ (some 38) _) _
        dsimp only [Act.put]
        refine wpAnyH_ready (rs := [2]) (by kernel_rfl) (by simp) ?_
        refine AllReadyH.cons rfl (fun K' hK => ?_) AllReadyH.nil
        rw [if_pos (by rfl)]
        refine wp_store_row 29 (.tmp 2) (.tmp 37) rfl (w.heap.size) (planC Q0 Q1 Q2 Q3 d.n0 e0 d.n1 e1 d.n2 e2 d.n3 e3 d.l d.p d.t) rfl rfl 29 _ b2 HIP.out rfl (by simp [Value.oneCell']) ?_
        have kk := keepsRow_ v0 (w.heap.size) (planC Q0 Q1 Q2 Q3 d.n0 e0 d.n1 e1 d.n2 e2 d.n3 e3 d.l d.p d.t)
        replace KB := belowRow_ KB (B := w.heap.size) (by omega) (planC Q0 Q1 Q2 Q3 d.n0 e0 d.n1 e1 d.n2 e2 d.n3 e3 d.l d.p d.t)
        replace b3 := (setRow_other _ (w.heap.size) (w.heap.size + 1) (planC Q0 Q1 Q2 Q3 d.n0 e0 d.n1 e1 d.n2 e2 d.n3 e3 d.l d.p d.t) (by omega)).trans b3
        replace H6 := (setRow_other _ (w.heap.size) (R6) (planC Q0 Q1 Q2 Q3 d.n0 e0 d.n1 e1 d.n2 e2 d.n3 e3 d.l d.p d.t) (by omega)).trans H6
        replace H7 := (setRow_other _ (w.heap.size) (R7) (planC Q0 Q1 Q2 Q3 d.n0 e0 d.n1 e1 d.n2 e2 d.n3 e3 d.l d.p d.t) (by omega)).trans H7
        replace Lp := Lp.keeps kk b2 (by decide)
        replace Os := Os.keepsT kk b2 (by decide)
        replace b2 := setRow_heap _ _ _ (planC Q0 Q1 Q2 Q3 d.n0 e0 d.n1 e1 d.n2 e2 d.n3 e3 d.l d.p d.t) _ _ b2
        clear kk
        generalize v0.setRow (w.heap.size) (planC Q0 Q1 Q2 Q3 d.n0 e0 d.n1 e1 d.n2 e2 d.n3 e3 d.l d.p d.t) = v1 at KB b2 b3 H6 H7 Lp Os ⊢
        refine hK.out _ _ ⟨fun o => cell_of_row _ _ o _ _ _ H6, fun o => cell_of_row _ _ o _ _ _ H7⟩ (fun _ => ?_)
        clear hK K'
        try (change wpAnyH _ _ _ _ _ _ _ (Act.put _ none _) _; dsimp only [Act.put])
        refine wpAnyH_ready (rs := [3]) (by kernel_rfl) (by simp) ?_
        refine AllReadyH.cons rfl (fun K' hK => ?_) AllReadyH.nil
        rw [if_pos (by rfl)]
        refine wp_store_row 34 (.tmp 3) (.tmp 38) rfl (w.heap.size + 1) (stC Y0 Y1 Y2 Y3 ps.length f0 ms.length f1 ds.length f2 ls.length f3 kn true ck bo ba lb gd pr) rfl rfl 34 _ b3 HIS.out rfl (by simp [Value.oneCell']) ?_
        have kk := keepsRow_ v1 (w.heap.size + 1) (stC Y0 Y1 Y2 Y3 ps.length f0 ms.length f1 ds.length f2 ls.length f3 kn true ck bo ba lb gd pr)
        replace KB := belowRow_ KB (B := w.heap.size + 1) (by omega) (stC Y0 Y1 Y2 Y3 ps.length f0 ms.length f1 ds.length f2 ls.length f3 kn true ck bo ba lb gd pr)
        replace b2 := (setRow_other _ (w.heap.size + 1) (w.heap.size) (stC Y0 Y1 Y2 Y3 ps.length f0 ms.length f1 ds.length f2 ls.length f3 kn true ck bo ba lb gd pr) (by omega)).trans b2
        replace H6 := (setRow_other _ (w.heap.size + 1) (R6) (stC Y0 Y1 Y2 Y3 ps.length f0 ms.length f1 ds.length f2 ls.length f3 kn true ck bo ba lb gd pr) (by omega)).trans H6
        replace H7 := (setRow_other _ (w.heap.size + 1) (R7) (stC Y0 Y1 Y2 Y3 ps.length f0 ms.length f1 ds.length f2 ls.length f3 kn true ck bo ba lb gd pr) (by omega)).trans H7
        replace Lp := Lp.keeps kk b3 (by decide)
        replace Os := Os.keepsT kk b3 (by decide)
        replace b3 := setRow_heap _ _ _ (stC Y0 Y1 Y2 Y3 ps.length f0 ms.length f1 ds.length f2 ls.length f3 kn true ck bo ba lb gd pr) _ _ b3
        clear kk
        generalize v1.setRow (w.heap.size + 1) (stC Y0 Y1 Y2 Y3 ps.length f0 ms.length f1 ds.length f2 ls.length f3 kn true ck bo ba lb gd pr) = v2 at KB b2 b3 H6 H7 Lp Os ⊢
        refine hK.out _ _ ⟨fun o => cell_of_row _ _ o _ _ _ H6, fun o => cell_of_row _ _ o _ _ _ H7⟩ (fun _ => ?_)
        clear hK K'
        try (change wpAnyH _ _ _ _ _ _ _ (Act.put _ none _) _; dsimp only [Act.put])
        refine wpAnyH_done (by kernel_rfl) ?_ _
        refine NoPanic.normal ?_
        go_wp2_with fail
        exact bodyPost_ret (v := .tuple #[.agg (planC Q0 Q1 Q2 Q3 d.n0 e0 d.n1 e1 d.n2 e2 d.n3 e3 d.l d.p d.t), .agg (stC Y0 Y1 Y2 Y3 ps.length f0 ms.length f1 ds.length f2 ls.length f3 kn true ck bo ba lb gd pr)]) (results_two_cells Tryz.results31 _ _ _ _ _ _ _ _ _ _ _ _ rfl rfl b2 b3 Tryz.underlying29 rfl HIP.out Tryz.underlying34 rfl HIS.out) rfl ⟨_, _, _, _, d, _, ⟨kn, true, ck, bo, ba, lb, P, ms, ds, ls, gd, pr⟩, rfl, Lp, Os, hd, ⟨(by show P.length ≤ 12; rw [hl]; exact hs.s0), hs.s1, hs.s2, hs.s3⟩, KB⟩
end Go.Proofs.YtdkmhaghnfhajaaGreatDoor
/- Ih -/
set_option linter.unusedVariables false
namespace Go.Proofs.YtdkmhaghnfhajaaGreatDoor
open Go.RowKit

theorem tickS_ck {d : PlanD} {s : StD} : (tickS d s).ck = s.ck + 1 := by
  unfold tickS
  repeat' split
  all_goals rfl
/-- What a tick answers is applied: one more of the clock, the phase not less, no pod less far, and but in the shutting all pods as they were; or nothing, with a code. -/
theorem tick_good {d : PlanD} {s : StD} {l : List RecD} {cd : Int} (h : (if stOkB d s then tickD d s else noR 1) = (l, cd)) :
    (cd = 0 ∧ ∃ x, appliedL d s l = (x, true) ∧ x.ck = s.ck + 1 ∧ s.ph ≤ x.ph ∧ x.pods.length = s.pods.length ∧ (∀ i, i < s.pods.length → (podA s.pods i).1 ≤ (podA x.pods i).1 ∧ (s.ph ≠ 3 → podA x.pods i = podA s.pods i)) ∧ StFits x 1048576 ∧ (0 ≤ s.ck ∧ s.ck ≤ 1000000)) ∨ (cd ≠ 0 ∧ l = []) := by
  by_cases hs : stOkB d s = true
  · rw [if_pos hs] at h
    have hok := stOkB_iff.1 hs
    have hck := hok.ck
    unfold tickD at h
    split at h
    · right
      cases h
      exact ⟨by decide, rfl⟩
    · left
      have hlt : s.ck < 1000000 := by omega
      injection h with h1 h2
      subst h1 h2
      refine ⟨rfl, tickS d s, by rw [appliedL, if_pos hs, tick_run hok hlt], tickS_ck, tick_ph, tick_len hok hlt, fun i hi => tick_pods hok (by rw [← hok.np]; exact hi), fits_ok (tick_ok hok hlt), by omega⟩
  · rw [if_neg hs] at h
    right
    cases h
    exact ⟨by decide, rfl⟩

set_option maxRecDepth 100000 in
set_option maxHeartbeats 16000000 in
theorem lawTicks (A : Option Addr) (n c : Nat) (w : World) (hN : Names w) (hB : Bytes w w.heap.size A n) (hn : n ≤ maxLen) : Calls Tryz.prog 6 #[.slice A n c] w fun e w' => e = .returned (.bool true) ∧ Below w.heap.size w w' := by
  have HB := Lib.hid hB
  have HN := Lib.hid hN
  clear hB hN
  go_enter Tryz.func6, Tryz.ntmps6
  go_wp2_with fail
  refine (big_any A n c _ hn).mono ?_
  rintro e w2 ⟨rfl, rfl⟩
  by_cases hbig : 4096 < (n : Int)
  · go_wp2_with fail
    go_ret
    exact ⟨rfl, Below.refl _ _⟩
  · have hn4 : n ≤ 4096 := by omega
    clear hbig
    go_wp2_with fail
    refine (drawTickRecs_any A n c _ HB.out hn4).mono ?_
    rintro e w3 ⟨v0, v1, v2, v3, d, vs, s, rfl, L, Os, hd, hs, K⟩
    obtain ⟨V0, C0, rfl, -, -⟩ := L.o0.formR
    obtain ⟨V1, C1, rfl, -, -⟩ := L.o1.formR
    obtain ⟨V2, C2, rfl, -, -⟩ := L.o2.formR
    obtain ⟨V3, C3, rfl, -, -⟩ := L.o3.formR
    obtain ⟨y0, y1, y2, y3, rfl, -⟩ := Os.it
    obtain ⟨⟨E0, k0, rfl⟩, ⟨E1, k1, rfl⟩, ⟨E2, k2, rfl⟩, ⟨E3, k3, rfl⟩⟩ := Os.shapes
    have hf : StFits s 1048576 := ⟨by have := hs.s0; omega, by have := hs.s1; omega, by have := hs.s2; omega, by have := hs.s3; omega⟩
    go_upto_region 4 with fail
    have hK0 : Below w3.heap.size w3 w3 := Below.refl _ _
    have XP := Own.box2 K (planC V0 V1 V2 V3 d.n0 C0 d.n1 C1 d.n2 C2 d.n3 C3 d.l d.p d.t) 29
    have hK1 := hK0.alloc hK0.size (.cells (planC V0 V1 V2 V3 d.n0 C0 d.n1 C1 d.n2 C2 d.n3 C3 d.l d.p d.t) 29)
    have XS := Own.box2 (K.trans (hK1.mono K.size)) (stC E0 E1 E2 E3 s.pods.length k0 s.mnts.length k1 s.devs.length k2 s.lks.length k3 s.ph s.co s.ck s.bo s.ba s.lb s.gd s.pr) 34
    have hK2 := hK1.alloc hK1.size (.cells (stC E0 E1 E2 E3 s.pods.length k0 s.mnts.length k1 s.devs.length k2 s.lks.length k3 s.ph s.co s.ck s.bo s.ba s.lb s.gd s.pr) 34)
    replace XP := XP.alloc (.cells (stC E0 E1 E2 E3 s.pods.length k0 s.mnts.length k1 s.devs.length k2 s.lks.length k3 s.ph s.co s.ck s.bo s.ba s.lb s.gd s.pr) 34)
    have hb := hK2
    replace K := K.trans (hb.mono K.size)
    replace L := L.below hb
    replace Os := Os.below hb
    clear hb hK0 hK1 hK2
    try rw [heap_size_alloc_] at XS
    generalize ((w3.alloc (.cells (planC V0 V1 V2 V3 d.n0 C0 d.n1 C1 d.n2 C2 d.n3 C3 d.l d.p d.t) 29)).alloc (.cells (stC E0 E1 E2 E3 s.pods.length k0 s.mnts.length k1 s.devs.length k2 s.lks.length k3 s.ph s.co s.ck s.bo s.ba s.lb s.gd s.pr) 34)) = w4 at K L Os XP XS ⊢
    generalize hw3 : w3.heap.size = b3 at XP XS ⊢
    obtain ⟨l, cd, hx⟩ : ∃ l cd, (if stOkB d s then tickD d s else noR 1) = (l, cd) := by
      generalize (if stOkB d s then tickD d s else noR 1) = q
      exact ⟨q.1, q.2, rfl⟩
    have HX := Lib.hid hx
    have HG := Lib.hid (tick_good (d := d) (s := s) hx)
    clear hx
    have h1 := XP.C
    have h2 := XS.C
    go_wp2_with fail
    have hall := implTickRecs_any _ _ d s w4 L.plan Os.st
    rw [HX.out] at hall
    refine hall.mono ?_
    rintro e w5 ⟨v, rfl, O1, hb⟩
    dsimp only at O1 ⊢
    clear hall h1 h2
    replace K := K.trans (hb.mono K.size)
    replace L := L.below hb
    replace Os := Os.below hb
    replace XP := XP.step hb
    replace XS := XS.step hb
    clear hb
    have h1 := XP.C
    have h2 := XS.C
    go_wp2_with fail
    have hall := tickRecs_any _ _ d s w5 L.plan Os.st
    rw [HX.out] at hall
    refine hall.mono ?_
    rintro e w6 ⟨v', rfl, O2, hb⟩
    dsimp only at O2 ⊢
    clear hall h1 h2
    replace K := K.trans (hb.mono K.size)
    replace L := L.below hb
    replace Os := Os.below hb
    replace XP := XP.step hb
    replace XS := XS.step hb
    replace O1 := O1.below hb
    clear hb
    go_wp2_with fail
    refine (likeRecs_same _ _ l _ O1.rt O2.rt).mono ?_
    rintro e w7 ⟨rfl, hb⟩
    replace K := K.trans (hb.mono K.size)
    replace L := L.below hb
    replace Os := Os.below hb
    replace XP := XP.step hb
    replace XS := XS.step hb
    replace O1 := O1.below hb
    replace O2 := O2.below hb
    clear hb O2
    obtain ⟨AL, CL, sl, rfl, -⟩ := O1.open_
    have hlb : l.length ≤ 2 ^ 63 - 1 := by have := O1.len; unfold maxLen at this; omega
    rcases HG.out with ⟨h0, x, hx1, hx2, hx3, hx4, hx5, hx6, hx7⟩ | ⟨h0, hl⟩
    case inr =>
      have HL : Hid (l.length = 0) := Lib.hid (by rw [hl]; rfl)
      have hc1 : (cd != 0) = true := by simpa using h0
      have hl0 : (l.length : Int) = 0 := by have := HL.out; omega
      clear h0 hl
      go_wp2
      all_goals (go_ret; exact ⟨ret_bool (by simp), K⟩)
    case inl =>
      subst h0
      obtain ⟨xph, xco, xck, xbo, xba, xlb, xps, xms, xds, xls, xgd, xpr⟩ := x
      dsimp only at hx2 hx3 hx4 hx5 hx6
      subst hx2
      have HX1 := Lib.hid hx1
      have HPH := Lib.hid hx3
      have HLX := Lib.hid hx4
      have HPX := Lib.hid hx5
      have HFX := Lib.hid hx6
      have hsl := hs.s0
      clear hx1 hx3 hx4 hx5 hx6
      have h1 := XP.C
      have h2 := XS.C
      go_wp2_with fail
      have hall := implAll_any _ _ _ d s l w7 L.plan (Os.isR hf) O1.rt (HN.out.go K)
      rw [HX1.out] at hall
      refine hall.mono ?_
      rintro e w8 ⟨vx, rfl, Ox, hb⟩
      dsimp only at Ox ⊢
      clear hall h1 h2
      replace K := K.trans (hb.mono K.size)
      replace L := L.below hb
      replace Os := Os.below hb
      replace XP := XP.step hb
      replace XS := XS.step hb
      replace O1 := O1.below hb
      clear hb
      obtain ⟨y0, y1, y2, y3, rfl, -⟩ := Ox.it
      obtain ⟨⟨X0, m0, rfl⟩, ⟨X1, m1, rfl⟩, ⟨X2, m2, rfl⟩, ⟨X3, m3, rfl⟩⟩ := Ox.shapes
      dsimp only at Ox ⊢
      go_upto_region 11 with fail
      have hK0 : Below w8.heap.size w8 w8 := Below.refl _ _
      have XX := Own.box2 K (stC X0 X1 X2 X3 xps.length m0 xms.length m1 xds.length m2 xls.length m3 xph xco (s.ck + 1) xbo xba xlb xgd xpr) 34
      have hK1 := hK0.alloc hK0.size (.cells (stC X0 X1 X2 X3 xps.length m0 xms.length m1 xds.length m2 xls.length m3 xph xco (s.ck + 1) xbo xba xlb xgd xpr) 34)
      have hb := hK1
      replace K := K.trans (hb.mono K.size)
      replace L := L.below hb
      replace Os := Os.below hb
      replace XP := XP.step hb
      replace XS := XS.step hb
      replace O1 := O1.below hb
      replace Ox := Ox.below hb
      clear hb hK0 hK1
      generalize (w8.alloc (.cells (stC X0 X1 X2 X3 xps.length m0 xms.length m1 xds.length m2 xls.length m3 xph xco (s.ck + 1) xbo xba xlb xgd xpr) 34)) = w9 at K L Os XP XS O1 Ox XX ⊢
      generalize hw8 : w8.heap.size = b8 at XX ⊢
      have HK := Lib.hid K
      have HOs := Lib.hid Os
      have HOx := Lib.hid Ox
      have HXS := Lib.hid XS
      have HXX := Lib.hid XX
      have h1 := XS.C
      have h2 := XX.C
      have hph1 : ¬ xph < s.ph := by have := HPH.out; omega
      clear K Os Ox XS XX L XP O1 hd hs hf
      obtain ⟨c0, c1⟩ := hx7
      go_wp2_with fail
      clear hph1
      go_loopw [11, 12] (fun m i wr => ∃ (k c : Nat), k ≤ s.pods.length ∧ c ≤ k ∧ i = .int .i64 k ∧ m = .int .i64 c ∧ Hid (s.ph = 3 ∨ c = 0) ∧ Below w9.heap.size w9 wr) (fun _ i _ => s.pods.length - (intOf i).toNat)
      case atStart => exact ⟨0, 0, Nat.zero_le _, Nat.le_refl _, rfl, rfl, Lib.hid (.inr rfl), Below.refl _ _⟩
      case round =>
        clear h1 h2
        obtain ⟨k, c, hk, hck, rfl, rfl, HC, KB⟩ := hrel
        have h1 := (HXS.out.step KB).C
        have h2 := (HXX.out.step KB).C
        by_cases hlt : k < s.pods.length
        · have hltx : k < xps.length := by rw [HLX.out]; exact hlt
          obtain ⟨gs, hY, -, hgs, -, HRs⟩ := HOs.out.podRow (i := k) hlt
          obtain ⟨gx, hZ, -, hgx, -, HRx⟩ := HOx.out.podRow (i := k) hltx
          dsimp only at HRx
          subst hY hZ
          have p0 := (KB.cell (p := ⟨gs, k * 2, none⟩) hgs).trans ((HRs (k * 2) (by rw [podCs_len]; omega)).1.trans (podCs_at s.pods (i := k) hlt).1)
          have p1 := (KB.cell (p := ⟨gs, k * 2 + 1, none⟩) hgs).trans ((HRs (k * 2 + 1) (by rw [podCs_len]; omega)).1.trans (podCs_at s.pods (i := k) hlt).2)
          have q0 := (KB.cell (p := ⟨gx, k * 2, none⟩) hgx).trans ((HRx (k * 2) (by rw [podCs_len]; omega)).1.trans (podCs_at xps (i := k) hltx).1)
          have q1 := (KB.cell (p := ⟨gx, k * 2 + 1, none⟩) hgx).trans ((HRx (k * 2 + 1) (by rw [podCs_len]; omega)).1.trans (podCs_at xps (i := k) hltx).2)
          clear HRs HRx
          have hle := (HPX.out k hlt).1
          have HEQ := Lib.hid (HPX.out k hlt).2
          have hxl : xps.length ≤ 12 := by rw [HLX.out]; exact hsl
          generalize podA s.pods k = a at p0 p1 hle HEQ
          generalize podA xps k = b at q0 q1 hle HEQ
          obtain ⟨a0, a1⟩ := a
          obtain ⟨y0, y1⟩ := b
          dsimp only at p0 p1 q0 q1 hle
          have hlt1 : ¬ y0 < a0 := by omega
          clear hle
          by_cases hsame : y0 = a0 ∧ y1 = a1
          · obtain ⟨rfl, rfl⟩ := hsame
            clear HEQ
            go_wp2_with fail
            go_quiet (fail)
            go_wp2_with fail
            go_quiet (fail)
            go_wp2
            exact ⟨⟨k + 1, c, by omega, by omega, by go_num, rfl, HC, below_drewN KB _⟩, by simp [intOf]; omega⟩
          · have H3 : Hid (s.ph = 3) := Lib.hid (by
              by_cases e : s.ph = 3
              · exact e
              · have := HEQ.out e
                injection this with e1 e2
                exact absurd ⟨e1, e2⟩ hsame)
            clear HEQ
            by_cases h0 : y0 = a0
            · subst h0
              have h9 : ¬ y1 = a1 := fun e => hsame ⟨rfl, e⟩
              clear hsame
              go_wp2_with fail
              go_quiet (fail)
              go_wp2_with fail
              go_quiet (fail)
              go_wp2
              exact ⟨⟨k + 1, c + 1, by omega, by omega, by go_num, by go_num, Lib.hid (.inl H3.out), below_drewN KB _⟩, by simp [intOf]; omega⟩
            · clear hsame
              go_wp2_with fail
              go_quiet (fail)
              go_wp2_with fail
              go_quiet (fail)
              go_wp2
              exact ⟨⟨k + 1, c + 1, by omega, by omega, by go_num, by go_num, Lib.hid (.inl H3.out), below_drewN KB _⟩, by simp [intOf]; omega⟩
        · rcases HC.out with h3 | h3
          · have h4 : (s.ph == 3) = true := by simp [h3]
            have H3 := Lib.hid h3
            clear h3
            by_cases hc0 : c = 0
            · subst hc0
              go_wp2
              all_goals (go_ret; exact ⟨ret_bool (by simp), HK.out.trans (KB.mono HK.out.size)⟩)
            · have hc1 : ¬ (c : Int) = 0 := by omega
              go_wp2
              all_goals (go_ret; exact ⟨ret_bool (by first | rfl | simp [H3.out]), HK.out.trans (KB.mono HK.out.size)⟩)
          · subst h3
            go_wp2
            all_goals (go_ret; exact ⟨ret_bool (by simp), HK.out.trans (KB.mono HK.out.size)⟩)
end Go.Proofs.YtdkmhaghnfhajaaGreatDoor
