/-
  FnBoots' walk.
-/
import Derived.Test.YtdkmhaghnfhajaaGreatDoorMZ17
import Derived.Test.YtdkmhaghnfhajaaGreatDoorMZ3
import Derived.Test.YtdkmhaghnfhajaaGreatDoorMZ21
import Derived.Test.YtdkmhaghnfhajaaGreatDoorMZ13
import Derived.Test.YtdkmhaghnfhajaaGreatDoorMZxXj
import Derived.Test.YtdkmhaghnfhajaaGreatDoorMZ20
import Derived.Test.YtdkmhaghnfhajaaGreatDoorMZ9
import Derived.Test.YtdkmhaghnfhajaaGreatDoorMZxOc
import Derived.Deep.RegionHeld3
import Derived.Test.YtdkmhaghnfhajaaGreatDoorMZxDk
import Derived.Test.YtdkmhaghnfhajaaGreatDoorMZ0
/- Og -/
set_option linter.unusedVariables false
namespace Go.Proofs.YtdkmhaghnfhajaaGreatDoor
open Go.RowKit

set_option maxRecDepth 100000 in
set_option maxHeartbeats 2000000 in
theorem drawBootRecs_any (A : Option Addr) (n c : Nat) (w : World) (hB : Bytes w w.heap.size A n) (hn : n ≤ 4096) : Calls Tryz.prog 34 #[.slice A n c] w (GivesPSN w) := by
  have HIP : Hid ((Tryz.prog.info? 29).map (·.size) = some 7) := Lib.hid (by kernel_rfl)
  have HIS : Hid ((Tryz.prog.info? 34).map (·.size) = some 12) := Lib.hid (by kernel_rfl)
  have b2 : ((w.alloc (.cells (planC none none none none 0 0 0 0 0 0 0 0 0 0 0) 29)).alloc (.cells (stC none none none none 0 0 0 0 0 0 0 0 0 false 0 0 0 0 0 0) 34)).heap[w.heap.size]? = some (.cells (planC none none none none 0 0 0 0 0 0 0 0 0 0 0) 29) := by
    have hb := (Below.refl (w.alloc (.cells (planC none none none none 0 0 0 0 0 0 0 0 0 0 0) 29)).heap.size (w.alloc (.cells (planC none none none none 0 0 0 0 0 0 0 0 0 0 0) 29))).alloc (Nat.le_refl _) (.cells (stC none none none none 0 0 0 0 0 0 0 0 0 false 0 0 0 0 0 0) 34)
    exact (hb.block w.heap.size (by simp)).trans (heap_alloc_new w _)
  have b3 := heap_alloc2_new w (.cells (planC none none none none 0 0 0 0 0 0 0 0 0 0 0) 29) (.cells (stC none none none none 0 0 0 0 0 0 0 0 0 false 0 0 0 0 0 0) 34)
  have KB : Below w.heap.size w ((w.alloc (.cells (planC none none none none 0 0 0 0 0 0 0 0 0 0 0) 29)).alloc (.cells (stC none none none none 0 0 0 0 0 0 0 0 0 false 0 0 0 0 0 0) 34)) := ((Below.refl _ _).alloc (Nat.le_refl _) _).alloc (by simp) _
  have HB := Lib.hid ((hB.below KB (Nat.le_refl _)).more KB.size)
  clear hB
  go_enter Tryz.func34, Tryz.ntmps34
  go_wp2_with fail
  generalize ((w.alloc (.cells (planC none none none none 0 0 0 0 0 0 0 0 0 0 0) 29)).alloc (.cells (stC none none none none 0 0 0 0 0 0 0 0 0 false 0 0 0 0 0 0) 34)) = w0 at b2 b3 KB HB ⊢
  refine (l1New_any A n c w0 HB.out hn).mono ?_
  rintro e w1 ⟨g, rfl, hg, hc1, K1⟩
  have hz3 := (Array.getElem?_eq_some_iff.1 b3).1
  replace b2 := (K1.block _ (Array.getElem?_eq_some_iff.1 b2).1).trans b2
  replace b3 := (K1.block _ (Array.getElem?_eq_some_iff.1 b3).1).trans b3
  replace KB := KB.trans (K1.mono KB.size)
  clear K1 HB
  go_wp2_with fail
  refine (l5DrawAny_any g w1 hc1).mono ?_
  rintro e w2 ⟨v0, v1, v2, v3, d, vs, s, rfl, Lp, Os, hd, hs, CU, hk⟩
  replace b2 := (hk.block _ (Array.getElem?_eq_some_iff.1 b2).1 (by show ¬ w.heap.size = g; omega)).trans b2
  replace b3 := (hk.block _ (Array.getElem?_eq_some_iff.1 b3).1 (by show ¬ w.heap.size + 1 = g; omega)).trans b3
  have hl2 : g < w2.heap.size := CU.lt
  have hz4 := (Array.getElem?_eq_some_iff.1 b3).1
  replace Lp := Lp.base KB.size
  replace Os := Os.base KB.size
  replace KB := KB.trans (hk.below (B := w.heap.size) KB.size (by rintro b hb rfl; omega))
  clear hk hc1
  obtain ⟨y0, y1, y2, y3, rfl, -⟩ := Os.it
  obtain ⟨⟨Y0, f0, rfl⟩, ⟨Y1, f1, rfl⟩, ⟨Y2, f2, rfl⟩, ⟨Y3, f3, rfl⟩⟩ := Os.shapes
  obtain ⟨Q0, e0, rfl, -, -⟩ := Lp.o0.formR
  obtain ⟨Q1, e1, rfl, -, -⟩ := Lp.o1.formR
  obtain ⟨Q2, e2, rfl, -, -⟩ := Lp.o2.formR
  obtain ⟨Q3, e3, rfl, -, -⟩ := Lp.o3.formR
  have hA : Below w2.heap.size w2 ((w2.alloc (.cells (planC none none none none 0 0 0 0 0 0 0 0 0 0 0) 29)).alloc (.cells (stC none none none none 0 0 0 0 0 0 0 0 0 false 0 0 0 0 0 0) 34)) := ((Below.refl _ _).alloc (Nat.le_refl _) _).alloc (by simp) _
  have H6 : ((w2.alloc (.cells (planC none none none none 0 0 0 0 0 0 0 0 0 0 0) 29)).alloc (.cells (stC none none none none 0 0 0 0 0 0 0 0 0 false 0 0 0 0 0 0) 34)).heap[w2.heap.size]? = some (.cells (planC none none none none 0 0 0 0 0 0 0 0 0 0 0) 29) := by
    have hb := (Below.refl (w2.alloc (.cells (planC none none none none 0 0 0 0 0 0 0 0 0 0 0) 29)).heap.size (w2.alloc (.cells (planC none none none none 0 0 0 0 0 0 0 0 0 0 0) 29))).alloc (Nat.le_refl _) (.cells (stC none none none none 0 0 0 0 0 0 0 0 0 false 0 0 0 0 0 0) 34)
    exact (hb.block w2.heap.size (by simp)).trans (heap_alloc_new w2 _)
  have H7 := heap_alloc2_new w2 (.cells (planC none none none none 0 0 0 0 0 0 0 0 0 0 0) 29) (.cells (stC none none none none 0 0 0 0 0 0 0 0 0 false 0 0 0 0 0 0) 34)
  have H7' := (setRow_other ((w2.alloc (.cells (planC none none none none 0 0 0 0 0 0 0 0 0 0 0) 29)).alloc (.cells (stC none none none none 0 0 0 0 0 0 0 0 0 false 0 0 0 0 0 0) 34)) w2.heap.size _ (planC Q0 Q1 Q2 Q3 d.n0 e0 d.n1 e1 d.n2 e2 d.n3 e3 d.l d.p d.t) (Nat.succ_ne_self _)).trans H7
  go_upto_region 3 with (first
    | ((with_reducible refine store_plan (x := 6) (y := 13) (g := w2.heap.size) (cs := planC Q0 Q1 Q2 Q3 d.n0 e0 d.n1 e1 d.n2 e2 d.n3 e3 d.l d.p d.t) ?_ ?_ H6 ?_ ?_ ?_ ?_)
       · rfl
       · rfl
       · exact HIP.out
       · rfl
       · simp [Value.oneCell'])
    | ((with_reducible refine store_state (x := 7) (y := 14) (g := w2.heap.size + 1) (cs := stC Y0 Y1 Y2 Y3 s.pods.length f0 s.mnts.length f1 s.devs.length f2 s.lks.length f3 s.ph s.co s.ck s.bo s.ba s.lb s.gd s.pr) ?_ ?_ H7' ?_ ?_ ?_ ?_)
       · rfl
       · rfl
       · exact HIS.out
       · rfl
       · simp [Value.oneCell']))
  have h2w := KB.size
  have hw2 : w2.heap.size < w2.heap.size + 1 := Nat.lt_succ_self _
  have hA2 := below_setRow (below_setRow hA (Nat.le_refl _) (planC Q0 Q1 Q2 Q3 d.n0 e0 d.n1 e1 d.n2 e2 d.n3 e3 d.l d.p d.t)) (Nat.le_succ _) (stC Y0 Y1 Y2 Y3 s.pods.length f0 s.mnts.length f1 s.devs.length f2 s.lks.length f3 s.ph s.co s.ck s.bo s.ba s.lb s.gd s.pr)
  have G6 := (setRow_other (((w2.alloc (.cells (planC none none none none 0 0 0 0 0 0 0 0 0 0 0) 29)).alloc (.cells (stC none none none none 0 0 0 0 0 0 0 0 0 false 0 0 0 0 0 0) 34)).setRow w2.heap.size (planC Q0 Q1 Q2 Q3 d.n0 e0 d.n1 e1 d.n2 e2 d.n3 e3 d.l d.p d.t)) (w2.heap.size + 1) w2.heap.size (stC Y0 Y1 Y2 Y3 s.pods.length f0 s.mnts.length f1 s.devs.length f2 s.lks.length f3 s.ph s.co s.ck s.bo s.ba s.lb s.gd s.pr) (by omega)).trans (setRow_heap _ _ _ (planC Q0 Q1 Q2 Q3 d.n0 e0 d.n1 e1 d.n2 e2 d.n3 e3 d.l d.p d.t) _ _ H6)
  have G7 := setRow_heap (((w2.alloc (.cells (planC none none none none 0 0 0 0 0 0 0 0 0 0 0) 29)).alloc (.cells (stC none none none none 0 0 0 0 0 0 0 0 0 false 0 0 0 0 0 0) 34)).setRow w2.heap.size (planC Q0 Q1 Q2 Q3 d.n0 e0 d.n1 e1 d.n2 e2 d.n3 e3 d.l d.p d.t)) (w2.heap.size + 1) _ (stC Y0 Y1 Y2 Y3 s.pods.length f0 s.mnts.length f1 s.devs.length f2 s.lks.length f3 s.ph s.co s.ck s.bo s.ba s.lb s.gd s.pr) _ _ H7'
  clear H6 H7 H7' hA
  replace b2 := (hA2.block _ (Array.getElem?_eq_some_iff.1 b2).1).trans b2
  replace b3 := (hA2.block _ (Array.getElem?_eq_some_iff.1 b3).1).trans b3
  replace Lp := Lp.below hA2
  replace Os := Os.below hA2
  replace KB := KB.trans (hA2.mono KB.size)
  replace CU := CU.below hA2
  have hg2 : g < w2.heap.size := by assumption
  clear hA2 hw2
  generalize (((w2.alloc (.cells (planC none none none none 0 0 0 0 0 0 0 0 0 0 0) 29)).alloc (.cells (stC none none none none 0 0 0 0 0 0 0 0 0 false 0 0 0 0 0 0) 34)).setRow w2.heap.size (planC Q0 Q1 Q2 Q3 d.n0 e0 d.n1 e1 d.n2 e2 d.n3 e3 d.l d.p d.t)).setRow (w2.heap.size + 1) (stC Y0 Y1 Y2 Y3 s.pods.length f0 s.mnts.length f1 s.devs.length f2 s.lks.length f3 s.ph s.co s.ck s.bo s.ba s.lb s.gd s.pr) = w3 at b2 b3 G6 G7 Lp Os KB CU ⊢
  obtain ⟨R7, hR7⟩ : ∃ R, w2.heap.size + 1 = R := ⟨_, rfl⟩
  rw [hR7] at G7 ⊢
  generalize w2.heap.size = R6 at G6 hR7 hz4 hl2 hg2 h2w ⊢
  have H6 := G6
  have H7 := G7
  clear G6 G7
  obtain ⟨ph, co, ck, bo, ba, lb, ps, ms, ds, ls, gd, pr⟩ := s
  dsimp only at Os H7 hs ⊢
  have hs0 : ps.length ≤ 12 := hs.s0
  go_wp2_with fail
  refine (l1Once_any g 5 w3 CU (by omega) (by omega)).mono ?_
  rintro e w4 ⟨b, rfl, CU4, hk⟩
  obtain ⟨gcs, hgc⟩ := CU.cells
  replace Lp := Lp.keeps hk hgc (by decide)
  replace Os := Os.keepsT hk hgc (by decide)
  replace b2 := (hk.block _ (Array.getElem?_eq_some_iff.1 b2).1 (by show ¬ w.heap.size = g; omega)).trans b2
  replace b3 := (hk.block _ (Array.getElem?_eq_some_iff.1 b3).1 (by show ¬ w.heap.size + 1 = g; omega)).trans b3
  replace H6 := (hk.block _ (Array.getElem?_eq_some_iff.1 H6).1 (by show ¬ R6 = g; omega)).trans H6
  replace H7 := (hk.block _ (Array.getElem?_eq_some_iff.1 H7).1 (by show ¬ R7 = g; omega)).trans H7
  replace KB := KB.trans (hk.below (B := w.heap.size) KB.size (by rintro b hb rfl; omega))
  clear hk CU hgc
  have CU := CU4
  clear CU4
  cases b
  · skip
    go_wp2_with fail
    refine (l1Once_any g 8 w4 CU (by omega) (by omega)).mono ?_
    rintro e w5 ⟨b, rfl, CU4, hk⟩
    obtain ⟨gcs, hgc⟩ := CU.cells
    replace Lp := Lp.keeps hk hgc (by decide)
    replace Os := Os.keepsT hk hgc (by decide)
    replace b2 := (hk.block _ (Array.getElem?_eq_some_iff.1 b2).1 (by show ¬ w.heap.size = g; omega)).trans b2
    replace b3 := (hk.block _ (Array.getElem?_eq_some_iff.1 b3).1 (by show ¬ w.heap.size + 1 = g; omega)).trans b3
    replace H6 := (hk.block _ (Array.getElem?_eq_some_iff.1 H6).1 (by show ¬ R6 = g; omega)).trans H6
    replace H7 := (hk.block _ (Array.getElem?_eq_some_iff.1 H7).1 (by show ¬ R7 = g; omega)).trans H7
    replace KB := KB.trans (hk.below (B := w.heap.size) KB.size (by rintro b hb rfl; omega))
    clear hk CU hgc
    have CU := CU4
    clear CU4
    cases b
    · skip
      go_upto_region 7 with fail
      refine wp_region_noPanic ?_
      refine wp_region_held_drew (S := fun W => (∀ o, W.cell? ⟨R6, o, none⟩ = (planC Q0 Q1 Q2 Q3 d.n0 e0 d.n1 e1 d.n2 e2 d.n3 e3 d.l d.p d.t)[o]?) ∧ (∀ o, W.cell? ⟨R7, o, none⟩ = (stC Y0 Y1 Y2 Y3 ps.length f0 ms.length f1 ds.length f2 ls.length f3 ph co ck bo ba lb gd pr)[o]?)) (by kernel_rfl) (by rw [← heap_drew w5] at H6 H7; exact ⟨fun o => cell_of_row _ _ o _ _ _ H6, fun o => cell_of_row _ _ o _ _ _ H7⟩) (fun _ => ?_)
      rw [← heap_drew w5] at b2 b3 H6 H7
      replace Lp := Lp.below (Below.refl _ _).drew
      replace Os := Os.below (Below.refl _ _).drew
      replace KB := KB.drew
      replace CU := CU.below (Below.refl _ _).drew
      generalize w5.drew = v0 at KB b2 b3 H6 H7 Lp Os CU ⊢
      refine wpAnyH_take (i := 0) (v := ?_) rfl (by kernel_rfl) (by kernel_rfl) (by kernel_rfl) (fun _ _ _ h => h) (Or.inl ⟨by rfl, ?_⟩) ⟨fun o => cell_of_row _ _ o _ _ _ H6, fun o => cell_of_row _ _ o _ _ _ H7⟩ ?_
      rotate_left 1
      · intro w hSw
        obtain ⟨hs6, hs7⟩ := hSw
        go_simp
        try with_reducible rfl
      change wpAnyH _ _ _ _ _ _ _ (Act.put _ (some 27) _) _
      dsimp only [Act.put]
      refine wpAnyH_take (i := 1) (v := ?_) rfl (by kernel_rfl) (by kernel_rfl) (by kernel_rfl) (fun _ _ _ h => h) (Or.inl ⟨by rfl, ?_⟩) ⟨fun o => cell_of_row _ _ o _ _ _ H6, fun o => cell_of_row _ _ o _ _ _ H7⟩ ?_
      rotate_left 1
      · intro w hSw
        obtain ⟨hs6, hs7⟩ := hSw
        go_simp
        try with_reducible rfl
      change wpAnyH _ _ _ _ _ _ _ (Act.put _ (some 28) _) _
      dsimp only [Act.put]
      refine wpAnyH_take (i := 2) (v := ?_) rfl (by kernel_rfl) (by kernel_rfl) (by kernel_rfl) (fun _ _ _ h => h) (Or.inl ⟨by rfl, ?_⟩) ⟨fun o => cell_of_row _ _ o _ _ _ H6, fun o => cell_of_row _ _ o _ _ _ H7⟩ ?_
      rotate_left 1
      · intro w hSw
        obtain ⟨hs6, hs7⟩ := hSw
        go_simp
        try with_reducible rfl
      change wpAnyH _ _ _ _ _ _ _ (Act.put _ (some 29) _) _
      dsimp only [Act.put]
      refine wpAnyH_ready (rs := [3]) (by kernel_rfl) (by simp) ?_
      refine AllReadyH.cons rfl (fun K' hK => ?_) AllReadyH.nil
      go_simp
      go_at_call 51
      refine (l1Below_any g 9 v0 CU (by omega) (by omega)).mono ?_
      rintro e v1 ⟨kb, rfl, kb0, kb1, CU9, hk⟩
      obtain ⟨gcs, hgc⟩ := CU.cells
      replace Lp := Lp.keeps hk hgc (by decide)
      replace Os := Os.keepsT hk hgc (by decide)
      replace b2 := (hk.block _ (Array.getElem?_eq_some_iff.1 b2).1 (by show ¬ w.heap.size = g; omega)).trans b2
      replace b3 := (hk.block _ (Array.getElem?_eq_some_iff.1 b3).1 (by show ¬ w.heap.size + 1 = g; omega)).trans b3
      replace H6 := (hk.block _ (Array.getElem?_eq_some_iff.1 H6).1 (by show ¬ R6 = g; omega)).trans H6
      replace H7 := (hk.block _ (Array.getElem?_eq_some_iff.1 H7).1 (by show ¬ R7 = g; omega)).trans H7
      replace KB := KB.trans (hk.below (B := w.heap.size) KB.size (by rintro b hb rfl; omega))
      clear hk CU CU9 hgc
      go_wp2_with fail
      refine hK.out _ _ ⟨fun o => cell_of_row _ _ o _ _ _ H6, fun o => cell_of_row _ _ o _ _ _ H7⟩ (fun _ => ?_)
      clear hK K'
      try (change wpAnyH _ _ _ _ _ _ _ (Act.put _ (some 30) _) _; dsimp only [Act.put])
      refine wpAnyH_take (i := 4) (v := ?_) rfl (by kernel_rfl) (by kernel_rfl) (by kernel_rfl) (fun _ _ _ h => h) (Or.inl ⟨by rfl, ?_⟩) ⟨fun o => cell_of_row _ _ o _ _ _ H6, fun o => cell_of_row _ _ o _ _ _ H7⟩ ?_
      rotate_left 1
      · intro w hSw
        obtain ⟨hs6, hs7⟩ := hSw
        go_simp
        try with_reducible rfl
      change wpAnyH _ _ _ _ _ _ _ (Act.put _ (some 31) _) _
      dsimp only [Act.put]
      refine wpAnyH_ready (rs := [5]) (by kernel_rfl) (by simp) ?_
      refine AllReadyH.cons rfl (fun K' hK => ?_) AllReadyH.nil
      rw [if_pos (by rfl)]
      refine wp_store_row 29 (.tmp 2) (.tmp 27) rfl (w.heap.size) (planC Q0 Q1 Q2 Q3 d.n0 e0 d.n1 e1 d.n2 e2 d.n3 e3 d.l d.p d.t) rfl rfl 29 _ b2 HIP.out rfl (by simp [Value.oneCell']) ?_
      have kk := keepsRow_ v1 (w.heap.size) (planC Q0 Q1 Q2 Q3 d.n0 e0 d.n1 e1 d.n2 e2 d.n3 e3 d.l d.p d.t)
      replace KB := belowRow_ KB (B := w.heap.size) (by omega) (planC Q0 Q1 Q2 Q3 d.n0 e0 d.n1 e1 d.n2 e2 d.n3 e3 d.l d.p d.t)
      replace b3 := (setRow_other _ (w.heap.size) (w.heap.size + 1) (planC Q0 Q1 Q2 Q3 d.n0 e0 d.n1 e1 d.n2 e2 d.n3 e3 d.l d.p d.t) (by omega)).trans b3
      replace H6 := (setRow_other _ (w.heap.size) (R6) (planC Q0 Q1 Q2 Q3 d.n0 e0 d.n1 e1 d.n2 e2 d.n3 e3 d.l d.p d.t) (by omega)).trans H6
      replace H7 := (setRow_other _ (w.heap.size) (R7) (planC Q0 Q1 Q2 Q3 d.n0 e0 d.n1 e1 d.n2 e2 d.n3 e3 d.l d.p d.t) (by omega)).trans H7
      replace Lp := Lp.keeps kk b2 (by decide)
      replace Os := Os.keepsT kk b2 (by decide)
      replace b2 := setRow_heap _ _ _ (planC Q0 Q1 Q2 Q3 d.n0 e0 d.n1 e1 d.n2 e2 d.n3 e3 d.l d.p d.t) _ _ b2
      clear kk
      generalize v1.setRow (w.heap.size) (planC Q0 Q1 Q2 Q3 d.n0 e0 d.n1 e1 d.n2 e2 d.n3 e3 d.l d.p d.t) = v2 at KB b2 b3 H6 H7 Lp Os ⊢
      refine hK.out _ _ ⟨fun o => cell_of_row _ _ o _ _ _ H6, fun o => cell_of_row _ _ o _ _ _ H7⟩ (fun _ => ?_)
      clear hK K'
      try (change wpAnyH _ _ _ _ _ _ _ (Act.put _ none _) _; dsimp only [Act.put])
      refine wpAnyH_ready (rs := [6]) (by kernel_rfl) (by simp) ?_
      refine AllReadyH.cons rfl (fun K' hK => ?_) AllReadyH.nil
      rw [if_pos (by rfl)]
      refine wp_store_row 34 (.tmp 3) (.tmp 28) rfl (w.heap.size + 1) (stC Y0 Y1 Y2 Y3 ps.length f0 ms.length f1 ds.length f2 ls.length f3 ph co ck bo ba lb gd pr) rfl rfl 34 _ b3 HIS.out rfl (by simp [Value.oneCell']) ?_
      have kk := keepsRow_ v2 (w.heap.size + 1) (stC Y0 Y1 Y2 Y3 ps.length f0 ms.length f1 ds.length f2 ls.length f3 ph co ck bo ba lb gd pr)
      replace KB := belowRow_ KB (B := w.heap.size + 1) (by omega) (stC Y0 Y1 Y2 Y3 ps.length f0 ms.length f1 ds.length f2 ls.length f3 ph co ck bo ba lb gd pr)
      replace b2 := (setRow_other _ (w.heap.size + 1) (w.heap.size) (stC Y0 Y1 Y2 Y3 ps.length f0 ms.length f1 ds.length f2 ls.length f3 ph co ck bo ba lb gd pr) (by omega)).trans b2
      replace H6 := (setRow_other _ (w.heap.size + 1) (R6) (stC Y0 Y1 Y2 Y3 ps.length f0 ms.length f1 ds.length f2 ls.length f3 ph co ck bo ba lb gd pr) (by omega)).trans H6
      replace H7 := (setRow_other _ (w.heap.size + 1) (R7) (stC Y0 Y1 Y2 Y3 ps.length f0 ms.length f1 ds.length f2 ls.length f3 ph co ck bo ba lb gd pr) (by omega)).trans H7
      replace Lp := Lp.keeps kk b3 (by decide)
      replace Os := Os.keepsT kk b3 (by decide)
      replace b3 := setRow_heap _ _ _ (stC Y0 Y1 Y2 Y3 ps.length f0 ms.length f1 ds.length f2 ls.length f3 ph co ck bo ba lb gd pr) _ _ b3
      clear kk
      generalize v2.setRow (w.heap.size + 1) (stC Y0 Y1 Y2 Y3 ps.length f0 ms.length f1 ds.length f2 ls.length f3 ph co ck bo ba lb gd pr) = v3 at KB b2 b3 H6 H7 Lp Os ⊢
      refine hK.out _ _ ⟨fun o => cell_of_row _ _ o _ _ _ H6, fun o => cell_of_row _ _ o _ _ _ H7⟩ (fun _ => ?_)
      clear hK K'
      try (change wpAnyH _ _ _ _ _ _ _ (Act.put _ none _) _; dsimp only [Act.put])
      refine wpAnyH_ready (rs := [7]) (by kernel_rfl) (by simp) ?_
      refine AllReadyH.cons rfl (fun K' hK => ?_) AllReadyH.nil
      go_simp
      refine hK.out _ _ ⟨fun o => cell_of_row _ _ o _ _ _ H6, fun o => cell_of_row _ _ o _ _ _ H7⟩ (fun _ => ?_)
      clear hK K'
      try (change wpAnyH _ _ _ _ _ _ _ (Act.put _ (some 4) _) _; dsimp only [Act.put])
      refine wpAnyH_done (by kernel_rfl) ?_ _
      refine NoPanic.normal ?_
      go_wp2_with fail
      exact bodyPost_ret (v := .tuple #[.agg (planC Q0 Q1 Q2 Q3 d.n0 e0 d.n1 e1 d.n2 e2 d.n3 e3 d.l d.p d.t), .agg (stC Y0 Y1 Y2 Y3 ps.length f0 ms.length f1 ds.length f2 ls.length f3 ph co ck bo ba lb gd pr), .int .i64 (IntKind.i64.wrap (1 + kb))]) (results_cells_num Tryz.results34 _ _ _ _ _ _ _ _ _ _ _ _ _ rfl rfl rfl b2 b3 Tryz.underlying29 rfl HIP.out Tryz.underlying34 rfl HIS.out) rfl ⟨_, _, _, _, d, _, ⟨ph, co, ck, bo, ba, lb, ps, ms, ds, ls, gd, pr⟩, (IntKind.i64.wrap (1 + kb)), rfl, Lp, Os, hd, ⟨hs.s0, hs.s1, hs.s2, hs.s3⟩, KB⟩
    · skip
      go_upto_region 6 with fail
      refine wp_region_noPanic ?_
      refine wp_region_held_drew (S := fun W => (∀ o, W.cell? ⟨R6, o, none⟩ = (planC Q0 Q1 Q2 Q3 d.n0 e0 d.n1 e1 d.n2 e2 d.n3 e3 d.l d.p d.t)[o]?) ∧ (∀ o, W.cell? ⟨R7, o, none⟩ = (stC Y0 Y1 Y2 Y3 ps.length f0 ms.length f1 ds.length f2 ls.length f3 ph co ck bo ba lb gd pr)[o]?)) (by kernel_rfl) (by rw [← heap_drew w5] at H6 H7; exact ⟨fun o => cell_of_row _ _ o _ _ _ H6, fun o => cell_of_row _ _ o _ _ _ H7⟩) (fun _ => ?_)
      rw [← heap_drew w5] at b2 b3 H6 H7
      replace Lp := Lp.below (Below.refl _ _).drew
      replace Os := Os.below (Below.refl _ _).drew
      replace KB := KB.drew
      replace CU := CU.below (Below.refl _ _).drew
      generalize w5.drew = v0 at KB b2 b3 H6 H7 Lp Os CU ⊢
      refine wpAnyH_take (i := 0) (v := ?_) rfl (by kernel_rfl) (by kernel_rfl) (by kernel_rfl) (fun _ _ _ h => h) (Or.inl ⟨by rfl, ?_⟩) ⟨fun o => cell_of_row _ _ o _ _ _ H6, fun o => cell_of_row _ _ o _ _ _ H7⟩ ?_
      rotate_left 1
      · intro w hSw
        obtain ⟨hs6, hs7⟩ := hSw
        go_simp
        try with_reducible rfl
      change wpAnyH _ _ _ _ _ _ _ (Act.put _ (some 23) _) _
      dsimp only [Act.put]
      refine wpAnyH_take (i := 1) (v := ?_) rfl (by kernel_rfl) (by kernel_rfl) (by kernel_rfl) (fun _ _ _ h => h) (Or.inl ⟨by rfl, ?_⟩) ⟨fun o => cell_of_row _ _ o _ _ _ H6, fun o => cell_of_row _ _ o _ _ _ H7⟩ ?_
      rotate_left 1
      · intro w hSw
        obtain ⟨hs6, hs7⟩ := hSw
        go_simp
        try with_reducible rfl
      change wpAnyH _ _ _ _ _ _ _ (Act.put _ (some 24) _) _
      dsimp only [Act.put]
      refine wpAnyH_take (i := 2) (v := ?_) rfl (by kernel_rfl) (by kernel_rfl) (by kernel_rfl) (fun _ _ _ h => h) (Or.inl ⟨by rfl, ?_⟩) ⟨fun o => cell_of_row _ _ o _ _ _ H6, fun o => cell_of_row _ _ o _ _ _ H7⟩ ?_
      rotate_left 1
      · intro w hSw
        obtain ⟨hs6, hs7⟩ := hSw
        go_simp
        try with_reducible rfl
      change wpAnyH _ _ _ _ _ _ _ (Act.put _ (some 25) _) _
      dsimp only [Act.put]
      refine wpAnyH_ready (rs := [3]) (by kernel_rfl) (by simp) ?_
      refine AllReadyH.cons rfl (fun K' hK => ?_) AllReadyH.nil
      go_simp
      go_at_call 92
      refine (l1Num_any g 1000000 v0 CU (by omega) (by omega)).mono ?_
      rintro e v1 ⟨kb, rfl, CU9, hk⟩
      obtain ⟨gcs, hgc⟩ := CU.cells
      replace Lp := Lp.keeps hk hgc (by decide)
      replace Os := Os.keepsT hk hgc (by decide)
      replace b2 := (hk.block _ (Array.getElem?_eq_some_iff.1 b2).1 (by show ¬ w.heap.size = g; omega)).trans b2
      replace b3 := (hk.block _ (Array.getElem?_eq_some_iff.1 b3).1 (by show ¬ w.heap.size + 1 = g; omega)).trans b3
      replace H6 := (hk.block _ (Array.getElem?_eq_some_iff.1 H6).1 (by show ¬ R6 = g; omega)).trans H6
      replace H7 := (hk.block _ (Array.getElem?_eq_some_iff.1 H7).1 (by show ¬ R7 = g; omega)).trans H7
      replace KB := KB.trans (hk.below (B := w.heap.size) KB.size (by rintro b hb rfl; omega))
      clear hk CU CU9 hgc
      go_wp2_with fail
      refine hK.out _ _ ⟨fun o => cell_of_row _ _ o _ _ _ H6, fun o => cell_of_row _ _ o _ _ _ H7⟩ (fun _ => ?_)
      clear hK K'
      try (change wpAnyH _ _ _ _ _ _ _ (Act.put _ (some 26) _) _; dsimp only [Act.put])
      refine wpAnyH_ready (rs := [4]) (by kernel_rfl) (by simp) ?_
      refine AllReadyH.cons rfl (fun K' hK => ?_) AllReadyH.nil
      rw [if_pos (by rfl)]
      refine wp_store_row 29 (.tmp 2) (.tmp 23) rfl (w.heap.size) (planC Q0 Q1 Q2 Q3 d.n0 e0 d.n1 e1 d.n2 e2 d.n3 e3 d.l d.p d.t) rfl rfl 29 _ b2 HIP.out rfl (by simp [Value.oneCell']) ?_
      have kk := keepsRow_ v1 (w.heap.size) (planC Q0 Q1 Q2 Q3 d.n0 e0 d.n1 e1 d.n2 e2 d.n3 e3 d.l d.p d.t)
      replace KB := belowRow_ KB (B := w.heap.size) (by omega) (planC Q0 Q1 Q2 Q3 d.n0 e0 d.n1 e1 d.n2 e2 d.n3 e3 d.l d.p d.t)
      replace b3 := (setRow_other _ (w.heap.size) (w.heap.size + 1) (planC Q0 Q1 Q2 Q3 d.n0 e0 d.n1 e1 d.n2 e2 d.n3 e3 d.l d.p d.t) (by omega)).trans b3
      replace H6 := (setRow_other _ (w.heap.size) (R6) (planC Q0 Q1 Q2 Q3 d.n0 e0 d.n1 e1 d.n2 e2 d.n3 e3 d.l d.p d.t) (by omega)).trans H6
      replace H7 := (setRow_other _ (w.heap.size) (R7) (planC Q0 Q1 Q2 Q3 d.n0 e0 d.n1 e1 d.n2 e2 d.n3 e3 d.l d.p d.t) (by omega)).trans H7
      replace Lp := Lp.keeps kk b2 (by decide)
      replace Os := Os.keepsT kk b2 (by decide)
      replace b2 := setRow_heap _ _ _ (planC Q0 Q1 Q2 Q3 d.n0 e0 d.n1 e1 d.n2 e2 d.n3 e3 d.l d.p d.t) _ _ b2
      clear kk
      generalize v1.setRow (w.heap.size) (planC Q0 Q1 Q2 Q3 d.n0 e0 d.n1 e1 d.n2 e2 d.n3 e3 d.l d.p d.t) = v2 at KB b2 b3 H6 H7 Lp Os ⊢
      refine hK.out _ _ ⟨fun o => cell_of_row _ _ o _ _ _ H6, fun o => cell_of_row _ _ o _ _ _ H7⟩ (fun _ => ?_)
      clear hK K'
      try (change wpAnyH _ _ _ _ _ _ _ (Act.put _ none _) _; dsimp only [Act.put])
      refine wpAnyH_ready (rs := [5]) (by kernel_rfl) (by simp) ?_
      refine AllReadyH.cons rfl (fun K' hK => ?_) AllReadyH.nil
      rw [if_pos (by rfl)]
      refine wp_store_row 34 (.tmp 3) (.tmp 24) rfl (w.heap.size + 1) (stC Y0 Y1 Y2 Y3 ps.length f0 ms.length f1 ds.length f2 ls.length f3 ph co ck bo ba lb gd pr) rfl rfl 34 _ b3 HIS.out rfl (by simp [Value.oneCell']) ?_
      have kk := keepsRow_ v2 (w.heap.size + 1) (stC Y0 Y1 Y2 Y3 ps.length f0 ms.length f1 ds.length f2 ls.length f3 ph co ck bo ba lb gd pr)
      replace KB := belowRow_ KB (B := w.heap.size + 1) (by omega) (stC Y0 Y1 Y2 Y3 ps.length f0 ms.length f1 ds.length f2 ls.length f3 ph co ck bo ba lb gd pr)
      replace b2 := (setRow_other _ (w.heap.size + 1) (w.heap.size) (stC Y0 Y1 Y2 Y3 ps.length f0 ms.length f1 ds.length f2 ls.length f3 ph co ck bo ba lb gd pr) (by omega)).trans b2
      replace H6 := (setRow_other _ (w.heap.size + 1) (R6) (stC Y0 Y1 Y2 Y3 ps.length f0 ms.length f1 ds.length f2 ls.length f3 ph co ck bo ba lb gd pr) (by omega)).trans H6
      replace H7 := (setRow_other _ (w.heap.size + 1) (R7) (stC Y0 Y1 Y2 Y3 ps.length f0 ms.length f1 ds.length f2 ls.length f3 ph co ck bo ba lb gd pr) (by omega)).trans H7
      replace Lp := Lp.keeps kk b3 (by decide)
      replace Os := Os.keepsT kk b3 (by decide)
      replace b3 := setRow_heap _ _ _ (stC Y0 Y1 Y2 Y3 ps.length f0 ms.length f1 ds.length f2 ls.length f3 ph co ck bo ba lb gd pr) _ _ b3
      clear kk
      generalize v2.setRow (w.heap.size + 1) (stC Y0 Y1 Y2 Y3 ps.length f0 ms.length f1 ds.length f2 ls.length f3 ph co ck bo ba lb gd pr) = v3 at KB b2 b3 H6 H7 Lp Os ⊢
      refine hK.out _ _ ⟨fun o => cell_of_row _ _ o _ _ _ H6, fun o => cell_of_row _ _ o _ _ _ H7⟩ (fun _ => ?_)
      clear hK K'
      try (change wpAnyH _ _ _ _ _ _ _ (Act.put _ none _) _; dsimp only [Act.put])
      refine wpAnyH_ready (rs := [6]) (by kernel_rfl) (by simp) ?_
      refine AllReadyH.cons rfl (fun K' hK => ?_) AllReadyH.nil
      go_simp
      refine hK.out _ _ ⟨fun o => cell_of_row _ _ o _ _ _ H6, fun o => cell_of_row _ _ o _ _ _ H7⟩ (fun _ => ?_)
      clear hK K'
      try (change wpAnyH _ _ _ _ _ _ _ (Act.put _ (some 4) _) _; dsimp only [Act.put])
      refine wpAnyH_done (by kernel_rfl) ?_ _
      refine NoPanic.normal ?_
      go_wp2_with fail
      exact bodyPost_ret (v := .tuple #[.agg (planC Q0 Q1 Q2 Q3 d.n0 e0 d.n1 e1 d.n2 e2 d.n3 e3 d.l d.p d.t), .agg (stC Y0 Y1 Y2 Y3 ps.length f0 ms.length f1 ds.length f2 ls.length f3 ph co ck bo ba lb gd pr), .int .i64 kb]) (results_cells_num Tryz.results34 _ _ _ _ _ _ _ _ _ _ _ _ _ rfl rfl rfl b2 b3 Tryz.underlying29 rfl HIP.out Tryz.underlying34 rfl HIS.out) rfl ⟨_, _, _, _, d, _, ⟨ph, co, ck, bo, ba, lb, ps, ms, ds, ls, gd, pr⟩, kb, rfl, Lp, Os, hd, ⟨hs.s0, hs.s1, hs.s2, hs.s3⟩, KB⟩
  · skip
    go_upto_region 4 with fail
    refine wp_region_noPanic ?_
    refine wp_region_held_drew (S := fun W => (∀ o, W.cell? ⟨R6, o, none⟩ = (planC Q0 Q1 Q2 Q3 d.n0 e0 d.n1 e1 d.n2 e2 d.n3 e3 d.l d.p d.t)[o]?) ∧ (∀ o, W.cell? ⟨R7, o, none⟩ = (stC Y0 Y1 Y2 Y3 ps.length f0 ms.length f1 ds.length f2 ls.length f3 ph co ck bo ba lb gd pr)[o]?)) (by kernel_rfl) (by rw [← heap_drew w4] at H6 H7; exact ⟨fun o => cell_of_row _ _ o _ _ _ H6, fun o => cell_of_row _ _ o _ _ _ H7⟩) (fun _ => ?_)
    rw [← heap_drew w4] at b2 b3 H6 H7
    replace Lp := Lp.below (Below.refl _ _).drew
    replace Os := Os.below (Below.refl _ _).drew
    replace KB := KB.drew
    replace CU := CU.below (Below.refl _ _).drew
    generalize w4.drew = v0 at KB b2 b3 H6 H7 Lp Os CU ⊢
    refine wpAnyH_take (i := 0) (v := ?_) rfl (by kernel_rfl) (by kernel_rfl) (by kernel_rfl) (fun _ _ _ h => h) (Or.inl ⟨by rfl, ?_⟩) ⟨fun o => cell_of_row _ _ o _ _ _ H6, fun o => cell_of_row _ _ o _ _ _ H7⟩ ?_
    rotate_left 1
    · intro w hSw
      obtain ⟨hs6, hs7⟩ := hSw
      go_simp
      try with_reducible rfl
    change wpAnyH _ _ _ _ _ _ _ (Act.put _ (some 17) _) _
    dsimp only [Act.put]
    refine wpAnyH_take (i := 1) (v := ?_) rfl (by kernel_rfl) (by kernel_rfl) (by kernel_rfl) (fun _ _ _ h => h) (Or.inl ⟨by rfl, ?_⟩) ⟨fun o => cell_of_row _ _ o _ _ _ H6, fun o => cell_of_row _ _ o _ _ _ H7⟩ ?_
    rotate_left 1
    · intro w hSw
      obtain ⟨hs6, hs7⟩ := hSw
      go_simp
      try with_reducible rfl
    change wpAnyH _ _ _ _ _ _ _ (Act.put _ (some 18) _) _
    dsimp only [Act.put]
    refine wpAnyH_take (i := 2) (v := ?_) rfl (by kernel_rfl) (by kernel_rfl) (by kernel_rfl) (fun _ _ _ h => h) (Or.inl ⟨by rfl, ?_⟩) ⟨fun o => cell_of_row _ _ o _ _ _ H6, fun o => cell_of_row _ _ o _ _ _ H7⟩ ?_
    rotate_left 1
    · intro w hSw
      obtain ⟨hs6, hs7⟩ := hSw
      go_simp
      try with_reducible rfl
    change wpAnyH _ _ _ _ _ _ _ (Act.put _ (some 19) _) _
    dsimp only [Act.put]
    refine wpAnyH_take (i := 3) (v := ?_) rfl (by kernel_rfl) (by kernel_rfl) (by kernel_rfl) (fun _ _ _ h => h) (Or.inl ⟨by rfl, ?_⟩) ⟨fun o => cell_of_row _ _ o _ _ _ H6, fun o => cell_of_row _ _ o _ _ _ H7⟩ ?_
    rotate_left 1
    · intro w hSw
      obtain ⟨hs6, hs7⟩ := hSw
      go_simp
      try with_reducible rfl
    change wpAnyH _ _ _ _ _ _ _ (Act.put _ (some 20) _) _
    dsimp only [Act.put]
    refine wpAnyH_ready (rs := [4]) (by kernel_rfl) (by simp) ?_
    refine AllReadyH.cons rfl (fun K' hK => ?_) AllReadyH.nil
    rw [if_pos (by rfl)]
    refine wp_store_row 29 (.tmp 2) (.tmp 17) rfl (w.heap.size) (planC Q0 Q1 Q2 Q3 d.n0 e0 d.n1 e1 d.n2 e2 d.n3 e3 d.l d.p d.t) rfl rfl 29 _ b2 HIP.out rfl (by simp [Value.oneCell']) ?_
    have kk := keepsRow_ v0 (w.heap.size) (planC Q0 Q1 Q2 Q3 d.n0 e0 d.n1 e1 d.n2 e2 d.n3 e3 d.l d.p d.t)
    replace KB := belowRow_ KB (B := w.heap.size) (by omega) (planC Q0 Q1 Q2 Q3 d.n0 e0 d.n1 e1 d.n2 e2 d.n3 e3 d.l d.p d.t)
    replace b3 := (setRow_other _ (w.heap.size) (w.heap.size + 1) (planC Q0 Q1 Q2 Q3 d.n0 e0 d.n1 e1 d.n2 e2 d.n3 e3 d.l d.p d.t) (by omega)).trans b3
    replace H6 := (setRow_other _ (w.heap.size) (R6) (planC Q0 Q1 Q2 Q3 d.n0 e0 d.n1 e1 d.n2 e2 d.n3 e3 d.l d.p d.t) (by omega)).trans H6
    replace H7 := (setRow_other _ (w.heap.size) (R7) (planC Q0 Q1 Q2 Q3 d.n0 e0 d.n1 e1 d.n2 e2 d.n3 e3 d.l d.p d.t) (by omega)).trans H7
    replace Lp := Lp.keeps kk b2 (by decide)
    replace Os := Os.keepsT kk b2 (by decide)
    replace b2 := setRow_heap _ _ _ (planC Q0 Q1 Q2 Q3 d.n0 e0 d.n1 e1 d.n2 e2 d.n3 e3 d.l d.p d.t) _ _ b2
    clear kk
    generalize v0.setRow (w.heap.size) (planC Q0 Q1 Q2 Q3 d.n0 e0 d.n1 e1 d.n2 e2 d.n3 e3 d.l d.p d.t) = v1 at KB b2 b3 H6 H7 Lp Os ⊢
    refine hK.out _ _ ⟨fun o => cell_of_row _ _ o _ _ _ H6, fun o => cell_of_row _ _ o _ _ _ H7⟩ (fun _ => ?_)
    clear hK K'
    try (change wpAnyH _ _ _ _ _ _ _ (Act.put _ none _) _; dsimp only [Act.put])
    refine wpAnyH_ready (rs := [5]) (by kernel_rfl) (by simp) ?_
    refine AllReadyH.cons rfl (fun K' hK => ?_) AllReadyH.nil
    rw [if_pos (by rfl)]
    refine wp_store_row 34 (.tmp 3) (.tmp 18) rfl (w.heap.size + 1) (stC Y0 Y1 Y2 Y3 ps.length f0 ms.length f1 ds.length f2 ls.length f3 ph co ck bo ba lb gd pr) rfl rfl 34 _ b3 HIS.out rfl (by simp [Value.oneCell']) ?_
    have kk := keepsRow_ v1 (w.heap.size + 1) (stC Y0 Y1 Y2 Y3 ps.length f0 ms.length f1 ds.length f2 ls.length f3 ph co ck bo ba lb gd pr)
    replace KB := belowRow_ KB (B := w.heap.size + 1) (by omega) (stC Y0 Y1 Y2 Y3 ps.length f0 ms.length f1 ds.length f2 ls.length f3 ph co ck bo ba lb gd pr)
    replace b2 := (setRow_other _ (w.heap.size + 1) (w.heap.size) (stC Y0 Y1 Y2 Y3 ps.length f0 ms.length f1 ds.length f2 ls.length f3 ph co ck bo ba lb gd pr) (by omega)).trans b2
    replace H6 := (setRow_other _ (w.heap.size + 1) (R6) (stC Y0 Y1 Y2 Y3 ps.length f0 ms.length f1 ds.length f2 ls.length f3 ph co ck bo ba lb gd pr) (by omega)).trans H6
    replace H7 := (setRow_other _ (w.heap.size + 1) (R7) (stC Y0 Y1 Y2 Y3 ps.length f0 ms.length f1 ds.length f2 ls.length f3 ph co ck bo ba lb gd pr) (by omega)).trans H7
    replace Lp := Lp.keeps kk b3 (by decide)
    replace Os := Os.keepsT kk b3 (by decide)
    replace b3 := setRow_heap _ _ _ (stC Y0 Y1 Y2 Y3 ps.length f0 ms.length f1 ds.length f2 ls.length f3 ph co ck bo ba lb gd pr) _ _ b3
    clear kk
    generalize v1.setRow (w.heap.size + 1) (stC Y0 Y1 Y2 Y3 ps.length f0 ms.length f1 ds.length f2 ls.length f3 ph co ck bo ba lb gd pr) = v2 at KB b2 b3 H6 H7 Lp Os ⊢
    refine hK.out _ _ ⟨fun o => cell_of_row _ _ o _ _ _ H6, fun o => cell_of_row _ _ o _ _ _ H7⟩ (fun _ => ?_)
    clear hK K'
    try (change wpAnyH _ _ _ _ _ _ _ (Act.put _ none _) _; dsimp only [Act.put])
    refine wpAnyH_ready (rs := [6]) (by kernel_rfl) (by simp) ?_
    refine AllReadyH.cons rfl (fun K' hK => ?_) AllReadyH.nil
    go_simp
    refine hK.out _ _ ⟨fun o => cell_of_row _ _ o _ _ _ H6, fun o => cell_of_row _ _ o _ _ _ H7⟩ (fun _ => ?_)
    clear hK K'
    try (change wpAnyH _ _ _ _ _ _ _ (Act.put _ (some 4) _) _; dsimp only [Act.put])
    refine wpAnyH_done (by kernel_rfl) ?_ _
    refine NoPanic.normal ?_
    go_wp2_with fail
    exact bodyPost_ret (v := .tuple #[.agg (planC Q0 Q1 Q2 Q3 d.n0 e0 d.n1 e1 d.n2 e2 d.n3 e3 d.l d.p d.t), .agg (stC Y0 Y1 Y2 Y3 ps.length f0 ms.length f1 ds.length f2 ls.length f3 ph co ck bo ba lb gd pr), .int .i64 bo]) (results_cells_num Tryz.results34 _ _ _ _ _ _ _ _ _ _ _ _ _ rfl rfl rfl b2 b3 Tryz.underlying29 rfl HIP.out Tryz.underlying34 rfl HIS.out) rfl ⟨_, _, _, _, d, _, ⟨ph, co, ck, bo, ba, lb, ps, ms, ds, ls, gd, pr⟩, bo, rfl, Lp, Os, hd, ⟨hs.s0, hs.s1, hs.s2, hs.s3⟩, KB⟩
end Go.Proofs.YtdkmhaghnfhajaaGreatDoor
/- To -/
set_option linter.unusedVariables false
namespace Go.Proofs.YtdkmhaghnfhajaaGreatDoor
open Go.RowKit

end Go.Proofs.YtdkmhaghnfhajaaGreatDoor
/- Op -/
set_option linter.unusedVariables false
namespace Go.Proofs.YtdkmhaghnfhajaaGreatDoor
open Go.RowKit

theorem liveL_none {s : StD} (h : ∀ i, i < s.pods.length → aliveB (podA s.pods i).1 = false) : liveL s = [] := by
  refine List.eq_nil_iff_forall_not_mem.2 fun x hx => ?_
  obtain ⟨i, hi, -, ha⟩ := picks_mem (n := s.pods.length) (p := liveP s) hx
  rw [liveP, h i hi] at ha
  cases ha
/-- What another boot answers is applied: it is down, nobody is let in, nothing is counted, and of each pod that was alive it is told that it has failed; or nothing, with a code. -/
theorem boot_good {d : PlanD} {s : StD} {id : Int} {l : List RecD} {cd : Int} (h : (if stOkB d s then bootD d s id else noR 1) = (l, cd)) :
    (cd = 0 ∧ ∃ x, appliedL d s l = (x, true) ∧ (if stOkB d x then bootD d x id else noR 1) = ([], 6) ∧ liveL x = [] ∧ heldB x = false ∧ x.bo = id ∧ x.co = true ∧ x.lks = [] ∧ x.gd = 0 ∧ x.pods.length = s.pods.length ∧
      (∀ i, i < s.pods.length → (aliveB (podA s.pods i).1 = true → (podA x.pods i).1 = 5 ∧ podA x.pods i ≠ podA s.pods i) ∧ (aliveB (podA s.pods i).1 = false → podA x.pods i = podA s.pods i)) ∧ StFits x 1048576 ∧ (x.ph = 6 ∨ s.ph = 8)) ∨ (cd ≠ 0 ∧ l = []) := by
  by_cases hs : stOkB d s = true
  · rw [if_pos hs] at h
    have hok := stOkB_iff.1 hs
    unfold bootD at h
    split at h
    · rename_i hin
      have hi : 1 ≤ id ∧ id ≤ 1000000 := inB_true.1 hin
      split at h
      · right
        cases h
        exact ⟨by decide, rfl⟩
      · left
        injection h with h1 h2
        subst h1 h2
        have hx := boot_ok hok hi
        have hlen : (bootS d s id).pods.length = s.pods.length := by rw [hx.np, hok.np]
        refine ⟨rfl, bootS d s id, by rw [appliedL, if_pos hs, boot_run hok hi], ?_, liveL_none fun i hl => boot_dead hok (by rw [← hx.np]; exact hl), boot_held hok hi, rfl, rfl, rfl, rfl, hlen, fun i hl => ?_, fits_ok hx, ?_⟩
        · rw [if_pos (stOkB_iff.2 hx), bootD, if_pos hin, if_pos (show id = (bootS d s id).bo from rfl)]
          rfl
        · have hb := boot_pods (id := id) hok (i := i) (by rw [← hok.np]; exact hl)
          refine ⟨fun ha => ?_, hb.2⟩
          have := hb.1 ha
          exact ⟨by rw [show podA (bootS d s id).pods i = (5, s.ck) from this.1], this.2⟩
        · by_cases h8 : s.ph = 8
          · exact .inr h8
          · exact .inl (by show (if s.ph = 8 then (8 : Int) else 6) = 6; rw [if_neg h8])
    · right
      cases h
      exact ⟨by decide, rfl⟩
  · rw [if_neg hs] at h
    right
    cases h
    exact ⟨by decide, rfl⟩
set_option maxRecDepth 4000 in
set_option maxHeartbeats 4000000 in
theorem specDown_any (sv : Value) (s : StD) (w : World) (hs : IsSt w w.heap.size sv s) (hn : s.pods.length ≤ 1048576) (hl : liveL s = []) (hh : heldB s = false) :
    Calls Tryz.prog 37 #[sv] w fun e w' => e = .returned (.bool true) ∧ Below w.heap.size w w' := by
  have HS := Lib.hid hs
  obtain ⟨⟨A0, A1, A2, A3, c0, c1, c2, c3, rfl, -, -, -, -⟩, -, -, -, -⟩ := hs
  have X := Own.box w (stC A0 A1 A2 A3 s.pods.length c0 s.mnts.length c1 s.devs.length c2 s.lks.length c3 s.ph s.co s.ck s.bo s.ba s.lb s.gd s.pr) 34
  have hC := X.C
  go_enter Tryz.func37, Tryz.ntmps37
  go_wp2_with fail
  refine (specLiveIn_any _ s _ ((HS.out.below X.K (Nat.le_refl _)).more X.K.size) hn).mono ?_
  rintro e w1 ⟨v, rfl, O, hb⟩
  rw [hl] at O
  obtain ⟨AL, cL, rfl, -, -⟩ := open_rowR O
  replace X := X.step hb
  clear hC hb O
  have hC := X.C
  go_wp2_with fail
  refine (l11Held_any _ s _ ((HS.out.below X.K (Nat.le_refl _)).more X.K.size)).mono ?_
  rw [hh]
  rintro e w2 ⟨rfl, hb⟩
  replace X := X.step hb
  go_wp2
  go_ret
  exact ⟨rfl, X.K⟩
end Go.Proofs.YtdkmhaghnfhajaaGreatDoor
/- Oh -/
set_option linter.unusedVariables false
namespace Go.Proofs.YtdkmhaghnfhajaaGreatDoor
open Go.RowKit

set_option maxRecDepth 100000 in
set_option maxHeartbeats 4000000 in
theorem lawBoots (A : Option Addr) (n c : Nat) (w : World) (hN : Names w) (hB : Bytes w w.heap.size A n) (hn : n ≤ maxLen) : Calls Tryz.prog 7 #[.slice A n c] w fun e w' => e = .returned (.bool true) ∧ Below w.heap.size w w' := by
  have HB := Lib.hid hB
  have HN := Lib.hid hN
  clear hB hN
  go_enter Tryz.func7, Tryz.ntmps7
  go_wp2_with fail
  refine (big_any A n c _ hn).mono ?_
  rintro e w2 ⟨rfl, rfl⟩
  by_cases hbig : 4096 < (n : Int)
  · go_wp2_with fail
    go_ret
    exact ⟨rfl, Below.refl _ _⟩
  · have hn4 : n ≤ 4096 := by omega
    clear hbig
    go_wp2_with fail
    refine (drawBootRecs_any A n c _ HB.out hn4).mono ?_
    rintro e w3 ⟨v0, v1, v2, v3, d, vs, s, id, rfl, L, Os, hd, hs, K⟩
    obtain ⟨V0, C0, rfl, -, -⟩ := L.o0.formR
    obtain ⟨V1, C1, rfl, -, -⟩ := L.o1.formR
    obtain ⟨V2, C2, rfl, -, -⟩ := L.o2.formR
    obtain ⟨V3, C3, rfl, -, -⟩ := L.o3.formR
    obtain ⟨y0, y1, y2, y3, rfl, -⟩ := Os.it
    obtain ⟨⟨E0, k0, rfl⟩, ⟨E1, k1, rfl⟩, ⟨E2, k2, rfl⟩, ⟨E3, k3, rfl⟩⟩ := Os.shapes
    have hf : StFits s 1048576 := ⟨by have := hs.s0; omega, by have := hs.s1; omega, by have := hs.s2; omega, by have := hs.s3; omega⟩
    go_upto_region 4 with fail
    have hK0 : Below w3.heap.size w3 w3 := Below.refl _ _
    have XP := Own.box2 K (planC V0 V1 V2 V3 d.n0 C0 d.n1 C1 d.n2 C2 d.n3 C3 d.l d.p d.t) 29
    have hK1 := hK0.alloc hK0.size (.cells (planC V0 V1 V2 V3 d.n0 C0 d.n1 C1 d.n2 C2 d.n3 C3 d.l d.p d.t) 29)
    have XS := Own.box2 (K.trans (hK1.mono K.size)) (stC E0 E1 E2 E3 s.pods.length k0 s.mnts.length k1 s.devs.length k2 s.lks.length k3 s.ph s.co s.ck s.bo s.ba s.lb s.gd s.pr) 34
    have hK2 := hK1.alloc hK1.size (.cells (stC E0 E1 E2 E3 s.pods.length k0 s.mnts.length k1 s.devs.length k2 s.lks.length k3 s.ph s.co s.ck s.bo s.ba s.lb s.gd s.pr) 34)
    replace XP := XP.alloc (.cells (stC E0 E1 E2 E3 s.pods.length k0 s.mnts.length k1 s.devs.length k2 s.lks.length k3 s.ph s.co s.ck s.bo s.ba s.lb s.gd s.pr) 34)
    have hb := hK2
    replace K := K.trans (hb.mono K.size)
    replace L := L.below hb
    replace Os := Os.below hb
    clear hb hK0 hK1 hK2
    try rw [heap_size_alloc_] at XS
    generalize ((w3.alloc (.cells (planC V0 V1 V2 V3 d.n0 C0 d.n1 C1 d.n2 C2 d.n3 C3 d.l d.p d.t) 29)).alloc (.cells (stC E0 E1 E2 E3 s.pods.length k0 s.mnts.length k1 s.devs.length k2 s.lks.length k3 s.ph s.co s.ck s.bo s.ba s.lb s.gd s.pr) 34)) = w4 at K L Os XP XS ⊢
    generalize hw3 : w3.heap.size = b3 at XP XS ⊢
    obtain ⟨l, cd, hx⟩ : ∃ l cd, (if stOkB d s then bootD d s id else noR 1) = (l, cd) := by
      generalize (if stOkB d s then bootD d s id else noR 1) = q
      exact ⟨q.1, q.2, rfl⟩
    have HX := Lib.hid hx
    have HG := Lib.hid (boot_good (d := d) (s := s) hx)
    clear hx
    have h1 := XP.C
    have h2 := XS.C
    go_wp2_with fail
    have hall := implBootRecs_any _ _ d s id w4 L.plan Os.st
    rw [HX.out] at hall
    refine hall.mono ?_
    rintro e w5 ⟨v, rfl, O1, hb⟩
    dsimp only at O1 ⊢
    clear hall h1 h2
    replace K := K.trans (hb.mono K.size)
    replace L := L.below hb
    replace Os := Os.below hb
    replace XP := XP.step hb
    replace XS := XS.step hb
    clear hb
    have h1 := XP.C
    have h2 := XS.C
    go_wp2_with fail
    have hall := bootRecs_any _ _ d s id w5 L.plan Os.st
    rw [HX.out] at hall
    refine hall.mono ?_
    rintro e w6 ⟨v', rfl, O2, hb⟩
    dsimp only at O2 ⊢
    clear hall h1 h2
    replace K := K.trans (hb.mono K.size)
    replace L := L.below hb
    replace Os := Os.below hb
    replace XP := XP.step hb
    replace XS := XS.step hb
    replace O1 := O1.below hb
    clear hb
    go_wp2_with fail
    refine (likeRecs_same _ _ l _ O1.rt O2.rt).mono ?_
    rintro e w7 ⟨rfl, hb⟩
    replace K := K.trans (hb.mono K.size)
    replace L := L.below hb
    replace Os := Os.below hb
    replace XP := XP.step hb
    replace XS := XS.step hb
    replace O1 := O1.below hb
    replace O2 := O2.below hb
    clear hb O2
    obtain ⟨AL, CL, sl, rfl, -⟩ := O1.open_
    have hlb : l.length ≤ 2 ^ 63 - 1 := by have := O1.len; unfold maxLen at this; omega
    rcases HG.out with ⟨h0, x, hx1, hx2, hx3, hx4, hx5, hx6, hx7, hx8, hx9, hxa, hxb, hxc⟩ | ⟨h0, hl⟩
    case inr =>
      have HL : Hid (l.length = 0) := Lib.hid (by rw [hl]; rfl)
      have hc1 : (cd != 0) = true := by simpa using h0
      have hl0 : (l.length : Int) = 0 := by have := HL.out; omega
      clear h0 hl
      go_wp2
      all_goals (go_ret; exact ⟨ret_bool (by simp), K⟩)
    case inl =>
      subst h0
      have HX1 := Lib.hid hx1
      have HSM := Lib.hid hx2
      have HLV := Lib.hid hx3
      have HHD := Lib.hid hx4
      have HPX := Lib.hid hxa
      have HLX := Lib.hid hx9
      have HFX := Lib.hid hxb
      have HPH := Lib.hid hxc
      have HX7 : Hid (x.lks.length = 0) := Lib.hid (by rw [hx7]; rfl)
      obtain ⟨xph, xco, xck, xbo, xba, xlb, xps, xms, xds, xls, xgd, xpr⟩ := x
      dsimp only at hx5 hx6 hx7 hx8 HPX HLX HPH HX7
      subst hx6
      have HX5 := Lib.hid hx5
      have HX8 := Lib.hid hx8
      have hsl := hs.s0
      clear hx1 hx2 hx3 hx4 hx5 hx7 hx8 hx9 hxa hxb hxc
      have h1 := XP.C
      have h2 := XS.C
      go_wp2_with fail
      have hall := implAll_any _ _ _ d s l w7 L.plan (Os.isR hf) O1.rt (HN.out.go K)
      rw [HX1.out] at hall
      refine hall.mono ?_
      rintro e w8 ⟨vx, rfl, Ox, hb⟩
      dsimp only at Ox ⊢
      clear hall h1 h2
      replace K := K.trans (hb.mono K.size)
      replace L := L.below hb
      replace Os := Os.below hb
      replace XP := XP.step hb
      replace XS := XS.step hb
      replace O1 := O1.below hb
      clear hb
      obtain ⟨y0, y1, y2, y3, rfl, -⟩ := Ox.it
      obtain ⟨⟨X0, m0, rfl⟩, ⟨X1, m1, rfl⟩, ⟨X2, m2, rfl⟩, ⟨X3, m3, rfl⟩⟩ := Ox.shapes
      dsimp only at Ox ⊢
      go_upto_region 11 with fail
      have hK0 : Below w8.heap.size w8 w8 := Below.refl _ _
      have XX := Own.box2 K (stC X0 X1 X2 X3 xps.length m0 xms.length m1 xds.length m2 xls.length m3 xph true xck xbo xba xlb xgd xpr) 34
      have hK1 := hK0.alloc hK0.size (.cells (stC X0 X1 X2 X3 xps.length m0 xms.length m1 xds.length m2 xls.length m3 xph true xck xbo xba xlb xgd xpr) 34)
      have hb := hK1
      replace K := K.trans (hb.mono K.size)
      replace L := L.below hb
      replace Os := Os.below hb
      replace XP := XP.step hb
      replace XS := XS.step hb
      replace O1 := O1.below hb
      replace Ox := Ox.below hb
      clear hb hK0 hK1
      generalize (w8.alloc (.cells (stC X0 X1 X2 X3 xps.length m0 xms.length m1 xds.length m2 xls.length m3 xph true xck xbo xba xlb xgd xpr) 34)) = w9 at K L Os XP XS O1 Ox XX ⊢
      generalize hw8 : w8.heap.size = b8 at XX ⊢
      have h1 := XX.C
      go_wp2_with fail
      refine (specDown_any _ _ w9 Ox.st HFX.out.f0 HLV.out HHD.out).mono ?_
      rintro e wd ⟨rfl, hb⟩
      clear h1
      replace K := K.trans (hb.mono K.size)
      replace L := L.below hb
      replace Os := Os.below hb
      replace XP := XP.step hb
      replace XS := XS.step hb
      replace O1 := O1.below hb
      replace Ox := Ox.below hb
      replace XX := XX.step hb
      clear hb
      have HK := Lib.hid K
      have HL := Lib.hid L
      have HOs := Lib.hid Os
      have HOx := Lib.hid Ox
      have HXP := Lib.hid XP
      have HXS := Lib.hid XS
      have HXX := Lib.hid XX
      have h1 := XS.C
      have h2 := XX.C
      have n1 : (xbo != id) = false := by simp [HX5.out]
      have n2 : (((xls.length : Nat) : Int) != 0) = false := by simp [HX7.out]
      have n3 : (xgd != 0) = false := by simp [HX8.out]
      clear K Os Ox XS XX XP L O1 hd hs hf
      go_wp2_with fail
      clear n1 n2 n3
      go_loopw [12] (fun i wr => ∃ (k : Nat), k ≤ s.pods.length ∧ i = .int .i64 k ∧ Below wd.heap.size wd wr) (fun i _ => s.pods.length - (intOf i).toNat)
      case atStart => exact ⟨0, Nat.zero_le _, rfl, Below.refl _ _⟩
      case round =>
        clear h1 h2
        obtain ⟨k, hk, rfl, KB⟩ := hrel
        have h1 := (HXS.out.step KB).C
        have h2 := (HXX.out.step KB).C
        by_cases hlt : k < s.pods.length
        · have hltx : k < xps.length := by rw [HLX.out]; exact hlt
          obtain ⟨gs, hY, -, hgs, -, HRs⟩ := HOs.out.podRow (i := k) hlt
          obtain ⟨gx, hZ, -, hgx, -, HRx⟩ := HOx.out.podRow (i := k) hltx
          dsimp only at HRx
          subst hY hZ
          have p0 := (KB.cell (p := ⟨gs, k * 2, none⟩) hgs).trans ((HRs (k * 2) (by rw [podCs_len]; omega)).1.trans (podCs_at s.pods (i := k) hlt).1)
          have p1 := (KB.cell (p := ⟨gs, k * 2 + 1, none⟩) hgs).trans ((HRs (k * 2 + 1) (by rw [podCs_len]; omega)).1.trans (podCs_at s.pods (i := k) hlt).2)
          have q0 := (KB.cell (p := ⟨gx, k * 2, none⟩) hgx).trans ((HRx (k * 2) (by rw [podCs_len]; omega)).1.trans (podCs_at xps (i := k) hltx).1)
          have q1 := (KB.cell (p := ⟨gx, k * 2 + 1, none⟩) hgx).trans ((HRx (k * 2 + 1) (by rw [podCs_len]; omega)).1.trans (podCs_at xps (i := k) hltx).2)
          clear HRs HRx
          have HPK := Lib.hid (HPX.out k hlt)
          have hxl : xps.length ≤ 12 := by rw [HLX.out]; exact hsl
          generalize podA s.pods k = a at p0 p1 HPK
          generalize podA xps k = b at q0 q1 HPK
          obtain ⟨a0, a1⟩ := a
          obtain ⟨y0, y1⟩ := b
          dsimp only at p0 p1 q0 q1 HPK
          cases ha : aliveB a0
          · have hsame := HPK.out.2 ha
            have e0 : y0 = a0 := congrArg Prod.fst hsame
            have e1 : y1 = a1 := congrArg Prod.snd hsame
            subst e0 e1
            have HA := Lib.hid ha
            clear ha hsame HPK
            have HAL : Hid (∀ W : World, Calls Tryz.prog 38 #[.int .i64 y0] W (fun e W' => e = .returned (.bool false) ∧ W' = W)) := Lib.hid fun W => by
              have := alive_any y0 W
              rw [HA.out] at this
              exact this.mono fun e w' h => ⟨h.1, h.2.symm⟩
            go_wp2_with fail
            go_quiet (first | (go_at_call 38; exact Calls.quiet_of_same (HAL.out _)))
            have KB2 := below_drewN KB nq
            clear HAL
            skip
            clear HA
            go_wp2_with fail
            exact ⟨⟨k + 1, by omega, by go_num, KB2⟩, by simp [intOf]; omega⟩
          · obtain ⟨h5, hne⟩ := HPK.out.1 ha
            subst h5
            have h9 : ¬ (5 : Int) = a0 := by rintro rfl; cases ha
            have HA := Lib.hid ha
            clear ha hne HPK
            have HAL : Hid (∀ W : World, Calls Tryz.prog 38 #[.int .i64 a0] W (fun e W' => e = .returned (.bool true) ∧ W' = W)) := Lib.hid fun W => by
              have := alive_any a0 W
              rw [HA.out] at this
              exact this.mono fun e w' h => ⟨h.1, h.2.symm⟩
            go_wp2_with fail
            go_quiet (first | (go_at_call 38; exact Calls.quiet_of_same (HAL.out _)))
            have KB2 := below_drewN KB nq
            clear HAL
            skip
            clear HA
            go_wp2_with fail
            exact ⟨⟨k + 1, by omega, by go_num, KB2⟩, by simp [intOf]; omega⟩
        · have h3 := (HXP.out.step KB).C
          go_wp2_with fail
          have hall := implBootRecs_any _ _ d ⟨xph, true, xck, xbo, xba, xlb, xps, xms, xds, xls, xgd, xpr⟩ id wr (HL.out.below KB).plan (HOx.out.below KB).st
          rw [HSM.out] at hall
          refine hall.mono ?_
          rintro e we ⟨v9, rfl, -, hb9⟩
          dsimp only
          clear hall h1 h2 h3
          have KE := KB.trans (hb9.mono KB.size)
          have h1 := (HXS.out.step KE).C
          have h2 := (HXX.out.step KE).C
          rcases HPH.out with c6 | c8
          · have g6 : (xph == 6) = true := by simp [c6]
            clear c6
            go_wp2
            all_goals (go_ret; exact ⟨ret_bool (by simp), HK.out.trans (KE.mono HK.out.size)⟩)
          · have g8 : (s.ph == 8) = true := by simp [c8]
            clear c8
            cases g6 : (xph == 6)
            · go_wp2
              all_goals (go_ret; exact ⟨ret_bool (by simp), HK.out.trans (KE.mono HK.out.size)⟩)
            · go_wp2
              all_goals (go_ret; exact ⟨ret_bool (by simp), HK.out.trans (KE.mono HK.out.size)⟩)
end Go.Proofs.YtdkmhaghnfhajaaGreatDoor
