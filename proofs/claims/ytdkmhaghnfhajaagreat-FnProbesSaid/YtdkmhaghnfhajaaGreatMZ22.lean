/-
  Chapter 12 of the program: what is given up.
-/
import Derived.Test.YtdkmhaghnfhajaaGreatMZ17
import Derived.Test.YtdkmhaghnfhajaaGreatMZ12
import Derived.Test.YtdkmhaghnfhajaaGreatMZ8
import Derived.Deep.RegionHeld3
import Derived.Deep.AppendLies
import Derived.Test.YtdkmhaghnfhajaaGreatMZxVlA
import Derived.Test.YtdkmhaghnfhajaaGreatMZxVbS
import Derived.Test.YtdkmhaghnfhajaaGreatMZ9
/- Oq -/
set_option linter.unusedVariables false
namespace Go.Proofs.YtdkmhaghnfhajaaGreat
open Go.RowKit

def GivesPSB (w : World) (e : Ending) (w' : World) : Prop :=
  ∃ v0 v1 v2 v3 d vs s k, e = .returned (.tuple #[.agg #[v0, v1, v2, v3, .int .i64 d.l, .int .i64 d.p, .int .i64 d.t], vs, .bool k]) ∧ Lists w' w.heap.size v0 v1 v2 v3 d ∧ OwnSt w' w.heap.size vs s ∧ PlSmall d ∧ StSmall s ∧ Below w.heap.size w w'

set_option maxRecDepth 100000 in
set_option maxHeartbeats 2000000 in
theorem drawProbeRecs_any (A : Option Addr) (n c : Nat) (w : World) (hB : Bytes w w.heap.size A n) (hn : n ≤ 4096) : Calls Tryz.prog 36 #[.slice A n c] w (GivesPSB w) := by
  have HIP : Hid ((Tryz.prog.info? 29).map (·.size) = some 7) := Lib.hid (by kernel_rfl)
  have HIS : Hid ((Tryz.prog.info? 38).map (·.size) = some 12) := Lib.hid (by kernel_rfl)
  have b2 : ((w.alloc (.cells (planC none none none none 0 0 0 0 0 0 0 0 0 0 0) 29)).alloc (.cells (stC none none none none 0 0 0 0 0 0 0 0 0 false 0 0 0 0 0 0) 38)).heap[w.heap.size]? = some (.cells (planC none none none none 0 0 0 0 0 0 0 0 0 0 0) 29) := by
    have hb := (Below.refl (w.alloc (.cells (planC none none none none 0 0 0 0 0 0 0 0 0 0 0) 29)).heap.size (w.alloc (.cells (planC none none none none 0 0 0 0 0 0 0 0 0 0 0) 29))).alloc (Nat.le_refl _) (.cells (stC none none none none 0 0 0 0 0 0 0 0 0 false 0 0 0 0 0 0) 38)
    exact (hb.block w.heap.size (by simp)).trans (heap_alloc_new w _)
  have b3 := heap_alloc2_new w (.cells (planC none none none none 0 0 0 0 0 0 0 0 0 0 0) 29) (.cells (stC none none none none 0 0 0 0 0 0 0 0 0 false 0 0 0 0 0 0) 38)
  have KB : Below w.heap.size w ((w.alloc (.cells (planC none none none none 0 0 0 0 0 0 0 0 0 0 0) 29)).alloc (.cells (stC none none none none 0 0 0 0 0 0 0 0 0 false 0 0 0 0 0 0) 38)) := ((Below.refl _ _).alloc (Nat.le_refl _) _).alloc (by simp) _
  have HB := Lib.hid ((hB.below KB (Nat.le_refl _)).more KB.size)
  clear hB
  go_enter Tryz.func36, Tryz.ntmps36
  go_wp2_with fail
  generalize ((w.alloc (.cells (planC none none none none 0 0 0 0 0 0 0 0 0 0 0) 29)).alloc (.cells (stC none none none none 0 0 0 0 0 0 0 0 0 false 0 0 0 0 0 0) 38)) = w0 at b2 b3 KB HB ⊢
  refine (l1New_any A n c w0 HB.out hn).mono ?_
  rintro e w1 ⟨g, rfl, hg, hc1, K1⟩
  have hz3 := (Array.getElem?_eq_some_iff.1 b3).1
  replace b2 := (K1.block _ (Array.getElem?_eq_some_iff.1 b2).1).trans b2
  replace b3 := (K1.block _ (Array.getElem?_eq_some_iff.1 b3).1).trans b3
  replace KB := KB.trans (K1.mono KB.size)
  clear K1 HB
  go_wp2_with fail
  refine (l5DrawAny_any g w1 hc1).mono ?_
  rintro e w2 ⟨v0, v1, v2, v3, d, vs, s, rfl, Lp, Os, hd, hs, CU, hk⟩
  replace b2 := (hk.block _ (Array.getElem?_eq_some_iff.1 b2).1 (by show ¬ w.heap.size = g; omega)).trans b2
  replace b3 := (hk.block _ (Array.getElem?_eq_some_iff.1 b3).1 (by show ¬ w.heap.size + 1 = g; omega)).trans b3
  have hl2 : g < w2.heap.size := CU.lt
  have hz4 := (Array.getElem?_eq_some_iff.1 b3).1
  replace Lp := Lp.base KB.size
  replace Os := Os.base KB.size
  replace KB := KB.trans (hk.below (B := w.heap.size) KB.size (by rintro b hb rfl; omega))
  clear hk hc1
  obtain ⟨y0, y1, y2, y3, rfl, -⟩ := Os.it
  obtain ⟨⟨Y0, f0, rfl⟩, ⟨Y1, f1, rfl⟩, ⟨Y2, f2, rfl⟩, ⟨Y3, f3, rfl⟩⟩ := Os.shapes
  obtain ⟨Q0, e0, rfl, -, -⟩ := Lp.o0.formR
  obtain ⟨Q1, e1, rfl, -, -⟩ := Lp.o1.formR
  obtain ⟨Q2, e2, rfl, -, -⟩ := Lp.o2.formR
  obtain ⟨Q3, e3, rfl, -, -⟩ := Lp.o3.formR
  have hA : Below w2.heap.size w2 ((w2.alloc (.cells (planC none none none none 0 0 0 0 0 0 0 0 0 0 0) 29)).alloc (.cells (stC none none none none 0 0 0 0 0 0 0 0 0 false 0 0 0 0 0 0) 38)) := ((Below.refl _ _).alloc (Nat.le_refl _) _).alloc (by simp) _
  have H6 : ((w2.alloc (.cells (planC none none none none 0 0 0 0 0 0 0 0 0 0 0) 29)).alloc (.cells (stC none none none none 0 0 0 0 0 0 0 0 0 false 0 0 0 0 0 0) 38)).heap[w2.heap.size]? = some (.cells (planC none none none none 0 0 0 0 0 0 0 0 0 0 0) 29) := by
    have hb := (Below.refl (w2.alloc (.cells (planC none none none none 0 0 0 0 0 0 0 0 0 0 0) 29)).heap.size (w2.alloc (.cells (planC none none none none 0 0 0 0 0 0 0 0 0 0 0) 29))).alloc (Nat.le_refl _) (.cells (stC none none none none 0 0 0 0 0 0 0 0 0 false 0 0 0 0 0 0) 38)
    exact (hb.block w2.heap.size (by simp)).trans (heap_alloc_new w2 _)
  have H7 := heap_alloc2_new w2 (.cells (planC none none none none 0 0 0 0 0 0 0 0 0 0 0) 29) (.cells (stC none none none none 0 0 0 0 0 0 0 0 0 false 0 0 0 0 0 0) 38)
  have H7' := (setRow_other ((w2.alloc (.cells (planC none none none none 0 0 0 0 0 0 0 0 0 0 0) 29)).alloc (.cells (stC none none none none 0 0 0 0 0 0 0 0 0 false 0 0 0 0 0 0) 38)) w2.heap.size _ (planC Q0 Q1 Q2 Q3 d.n0 e0 d.n1 e1 d.n2 e2 d.n3 e3 d.l d.p d.t) (Nat.succ_ne_self _)).trans H7
  go_upto_region 3 with (first
    | ((with_reducible refine store_plan (x := 6) (y := 13) (g := w2.heap.size) (cs := planC Q0 Q1 Q2 Q3 d.n0 e0 d.n1 e1 d.n2 e2 d.n3 e3 d.l d.p d.t) ?_ ?_ H6 ?_ ?_ ?_ ?_)
       · rfl
       · rfl
       · exact HIP.out
       · rfl
       · simp [Value.oneCell'])
    | ((with_reducible refine store_state (x := 7) (y := 14) (g := w2.heap.size + 1) (cs := stC Y0 Y1 Y2 Y3 s.pods.length f0 s.mnts.length f1 s.devs.length f2 s.lks.length f3 s.ph s.co s.ck s.bo s.ba s.lb s.gd s.pr) ?_ ?_ H7' ?_ ?_ ?_ ?_)
       · rfl
       · rfl
       · exact HIS.out
       · rfl
       · simp [Value.oneCell']))
  have h2w := KB.size
  have hw2 : w2.heap.size < w2.heap.size + 1 := Nat.lt_succ_self _
  have hA2 := below_setRow (below_setRow hA (Nat.le_refl _) (planC Q0 Q1 Q2 Q3 d.n0 e0 d.n1 e1 d.n2 e2 d.n3 e3 d.l d.p d.t)) (Nat.le_succ _) (stC Y0 Y1 Y2 Y3 s.pods.length f0 s.mnts.length f1 s.devs.length f2 s.lks.length f3 s.ph s.co s.ck s.bo s.ba s.lb s.gd s.pr)
  have G6 := (setRow_other (((w2.alloc (.cells (planC none none none none 0 0 0 0 0 0 0 0 0 0 0) 29)).alloc (.cells (stC none none none none 0 0 0 0 0 0 0 0 0 false 0 0 0 0 0 0) 38)).setRow w2.heap.size (planC Q0 Q1 Q2 Q3 d.n0 e0 d.n1 e1 d.n2 e2 d.n3 e3 d.l d.p d.t)) (w2.heap.size + 1) w2.heap.size (stC Y0 Y1 Y2 Y3 s.pods.length f0 s.mnts.length f1 s.devs.length f2 s.lks.length f3 s.ph s.co s.ck s.bo s.ba s.lb s.gd s.pr) (by omega)).trans (setRow_heap _ _ _ (planC Q0 Q1 Q2 Q3 d.n0 e0 d.n1 e1 d.n2 e2 d.n3 e3 d.l d.p d.t) _ _ H6)
  have G7 := setRow_heap (((w2.alloc (.cells (planC none none none none 0 0 0 0 0 0 0 0 0 0 0) 29)).alloc (.cells (stC none none none none 0 0 0 0 0 0 0 0 0 false 0 0 0 0 0 0) 38)).setRow w2.heap.size (planC Q0 Q1 Q2 Q3 d.n0 e0 d.n1 e1 d.n2 e2 d.n3 e3 d.l d.p d.t)) (w2.heap.size + 1) _ (stC Y0 Y1 Y2 Y3 s.pods.length f0 s.mnts.length f1 s.devs.length f2 s.lks.length f3 s.ph s.co s.ck s.bo s.ba s.lb s.gd s.pr) _ _ H7'
  clear H6 H7 H7' hA
  replace b2 := (hA2.block _ (Array.getElem?_eq_some_iff.1 b2).1).trans b2
  replace b3 := (hA2.block _ (Array.getElem?_eq_some_iff.1 b3).1).trans b3
  replace Lp := Lp.below hA2
  replace Os := Os.below hA2
  replace KB := KB.trans (hA2.mono KB.size)
  replace CU := CU.below hA2
  have hg2 : g < w2.heap.size := by assumption
  clear hA2 hw2
  generalize (((w2.alloc (.cells (planC none none none none 0 0 0 0 0 0 0 0 0 0 0) 29)).alloc (.cells (stC none none none none 0 0 0 0 0 0 0 0 0 false 0 0 0 0 0 0) 38)).setRow w2.heap.size (planC Q0 Q1 Q2 Q3 d.n0 e0 d.n1 e1 d.n2 e2 d.n3 e3 d.l d.p d.t)).setRow (w2.heap.size + 1) (stC Y0 Y1 Y2 Y3 s.pods.length f0 s.mnts.length f1 s.devs.length f2 s.lks.length f3 s.ph s.co s.ck s.bo s.ba s.lb s.gd s.pr) = w3 at b2 b3 G6 G7 Lp Os KB CU ⊢
  obtain ⟨R7, hR7⟩ : ∃ R, w2.heap.size + 1 = R := ⟨_, rfl⟩
  rw [hR7] at G7 ⊢
  generalize w2.heap.size = R6 at G6 hR7 hz4 hl2 hg2 h2w ⊢
  have H6 := G6
  have H7 := G7
  clear G6 G7
  obtain ⟨ph, co, ck, bo, ba, lb, ps, ms, ds, ls, gd, pr⟩ := s
  dsimp only at Os H7 hs ⊢
  have hs0 : ps.length ≤ 12 := hs.s0
  go_wp2_with fail
  refine (l1Once_any g 2 w3 CU (by omega) (by omega)).mono ?_
  rintro e w4 ⟨b, rfl, CU4, hk⟩
  obtain ⟨gcs, hgc⟩ := CU.cells
  replace Lp := Lp.keeps hk hgc (by decide)
  replace Os := Os.keepsT hk hgc (by decide)
  replace b2 := (hk.block _ (Array.getElem?_eq_some_iff.1 b2).1 (by show ¬ w.heap.size = g; omega)).trans b2
  replace b3 := (hk.block _ (Array.getElem?_eq_some_iff.1 b3).1 (by show ¬ w.heap.size + 1 = g; omega)).trans b3
  replace H6 := (hk.block _ (Array.getElem?_eq_some_iff.1 H6).1 (by show ¬ R6 = g; omega)).trans H6
  replace H7 := (hk.block _ (Array.getElem?_eq_some_iff.1 H7).1 (by show ¬ R7 = g; omega)).trans H7
  replace KB := KB.trans (hk.below (B := w.heap.size) KB.size (by rintro b hb rfl; omega))
  clear hk CU hgc
  have CU := CU4
  clear CU4
  cases b
  · skip
    go_wp2_with fail
    refine (l1Once_any g 3 w4 CU (by omega) (by omega)).mono ?_
    rintro e w4a ⟨c, rfl, CU4, hk⟩
    obtain ⟨gcs, hgc⟩ := CU.cells
    replace Lp := Lp.keeps hk hgc (by decide)
    replace Os := Os.keepsT hk hgc (by decide)
    replace b2 := (hk.block _ (Array.getElem?_eq_some_iff.1 b2).1 (by show ¬ w.heap.size = g; omega)).trans b2
    replace b3 := (hk.block _ (Array.getElem?_eq_some_iff.1 b3).1 (by show ¬ w.heap.size + 1 = g; omega)).trans b3
    replace H6 := (hk.block _ (Array.getElem?_eq_some_iff.1 H6).1 (by show ¬ R6 = g; omega)).trans H6
    replace H7 := (hk.block _ (Array.getElem?_eq_some_iff.1 H7).1 (by show ¬ R7 = g; omega)).trans H7
    replace KB := KB.trans (hk.below (B := w.heap.size) KB.size (by rintro b hb rfl; omega))
    clear hk CU hgc
    have CU := CU4
    clear CU4
    cases c
    · skip
      go_upto_region 9 with fail
      refine wp_region_noPanic ?_
      refine wp_region_held_drew (S := fun W => (∀ o, W.cell? ⟨R6, o, none⟩ = (planC Q0 Q1 Q2 Q3 d.n0 e0 d.n1 e1 d.n2 e2 d.n3 e3 d.l d.p d.t)[o]?) ∧ (∀ o, W.cell? ⟨R7, o, none⟩ = (stC Y0 Y1 Y2 Y3 ps.length f0 ms.length f1 ds.length f2 ls.length f3 ph co ck bo ba lb gd pr)[o]?)) (by kernel_rfl) (by rw [← heap_drew w4a] at H6 H7; exact ⟨fun o => cell_of_row _ _ o _ _ _ H6, fun o => cell_of_row _ _ o _ _ _ H7⟩) (fun _ => ?_)
      rw [← heap_drew w4a] at b2 b3 H6 H7
      replace Lp := Lp.below (Below.refl _ _).drew
      replace Os := Os.below (Below.refl _ _).drew
      replace KB := KB.drew
      replace CU := CU.below (Below.refl _ _).drew
      generalize w4a.drew = v0 at KB b2 b3 H6 H7 Lp Os CU ⊢
      refine wpAnyH_take (i := 0) (v := ?_) rfl (by kernel_rfl) (by kernel_rfl) (by kernel_rfl) (fun _ _ _ h => h) (Or.inl ⟨by rfl, ?_⟩) ⟨fun o => cell_of_row _ _ o _ _ _ H6, fun o => cell_of_row _ _ o _ _ _ H7⟩ ?_
      rotate_left 1
      · intro w hSw
        obtain ⟨hs6, hs7⟩ := hSw
        go_simp
        try with_reducible rfl
      change wpAnyH _ _ _ _ _ _ _ (Act.put _ (some 32) _) _
      dsimp only [Act.put]
      refine wpAnyH_take (i := 1) (v := ?_) rfl (by kernel_rfl) (by kernel_rfl) (by kernel_rfl) (fun _ _ _ h => h) (Or.inl ⟨by rfl, ?_⟩) ⟨fun o => cell_of_row _ _ o _ _ _ H6, fun o => cell_of_row _ _ o _ _ _ H7⟩ ?_
      rotate_left 1
      · intro w hSw
        obtain ⟨hs6, hs7⟩ := hSw
        go_simp
        try with_reducible rfl
      change wpAnyH _ _ _ _ _ _ _ (Act.put _ (some 33) _) _
      dsimp only [Act.put]
      refine wpAnyH_take (i := 2) (v := ?_) rfl (by kernel_rfl) (by kernel_rfl) (by kernel_rfl) (fun _ _ _ h => h) (Or.inl ⟨by rfl, ?_⟩) ⟨fun o => cell_of_row _ _ o _ _ _ H6, fun o => cell_of_row _ _ o _ _ _ H7⟩ ?_
      rotate_left 1
      · intro w hSw
        obtain ⟨hs6, hs7⟩ := hSw
        go_simp
        try with_reducible rfl
      change wpAnyH _ _ _ _ _ _ _ (Act.put _ (some 34) _) _
      dsimp only [Act.put]
      refine wpAnyH_ready (rs := [3]) (by kernel_rfl) (by simp) ?_
      refine AllReadyH.cons rfl (fun K' hK => ?_) AllReadyH.nil
      go_simp
      go_at_call 60
      refine (l1Once_any g 3 v0 CU (by omega) (by omega)).mono ?_
      rintro e v1 ⟨kb, rfl, CU9, hk⟩
      obtain ⟨gcs, hgc⟩ := CU.cells
      replace Lp := Lp.keeps hk hgc (by decide)
      replace Os := Os.keepsT hk hgc (by decide)
      replace b2 := (hk.block _ (Array.getElem?_eq_some_iff.1 b2).1 (by show ¬ w.heap.size = g; omega)).trans b2
      replace b3 := (hk.block _ (Array.getElem?_eq_some_iff.1 b3).1 (by show ¬ w.heap.size + 1 = g; omega)).trans b3
      replace H6 := (hk.block _ (Array.getElem?_eq_some_iff.1 H6).1 (by show ¬ R6 = g; omega)).trans H6
      replace H7 := (hk.block _ (Array.getElem?_eq_some_iff.1 H7).1 (by show ¬ R7 = g; omega)).trans H7
      replace KB := KB.trans (hk.below (B := w.heap.size) KB.size (by rintro b hb rfl; omega))
      clear hk CU CU9 hgc
      go_wp2_with fail
      refine hK.out _ _ ⟨fun o => cell_of_row _ _ o _ _ _ H6, fun o => cell_of_row _ _ o _ _ _ H7⟩ (fun _ => ?_)
      clear hK K'
      try (change wpAnyH _ _ _ _ _ _ _ (Act.put _ (some 35) _) _; dsimp only [Act.put])
      refine wpAnyH_take (i := 4) (v := ?_) rfl (by kernel_rfl) (by kernel_rfl) (by kernel_rfl) (fun _ _ _ h => h) (Or.inl ⟨by rfl, ?_⟩) ⟨fun o => cell_of_row _ _ o _ _ _ H6, fun o => cell_of_row _ _ o _ _ _ H7⟩ ?_
      rotate_left 1
      · intro w hSw
        obtain ⟨hs6, hs7⟩ := hSw
        go_simp
        try with_reducible rfl
      change wpAnyH _ _ _ _ _ _ _ (Act.put _ (some 36) _) _
      dsimp only [Act.put]
      refine wpAnyH_ready (rs := [5]) (by kernel_rfl) (by simp) ?_
      refine AllReadyH.cons rfl (fun K' hK => ?_) AllReadyH.nil
      rw [if_pos (by rfl)]
      refine wp_store_row 29 (.tmp 2) (.tmp 32) rfl (w.heap.size) (planC Q0 Q1 Q2 Q3 d.n0 e0 d.n1 e1 d.n2 e2 d.n3 e3 d.l d.p d.t) rfl rfl 29 _ b2 HIP.out rfl (by simp [Value.oneCell']) ?_
      have kk := keepsRow_ v1 (w.heap.size) (planC Q0 Q1 Q2 Q3 d.n0 e0 d.n1 e1 d.n2 e2 d.n3 e3 d.l d.p d.t)
      replace KB := belowRow_ KB (B := w.heap.size) (by omega) (planC Q0 Q1 Q2 Q3 d.n0 e0 d.n1 e1 d.n2 e2 d.n3 e3 d.l d.p d.t)
      replace b3 := (setRow_other _ (w.heap.size) (w.heap.size + 1) (planC Q0 Q1 Q2 Q3 d.n0 e0 d.n1 e1 d.n2 e2 d.n3 e3 d.l d.p d.t) (by omega)).trans b3
      replace H6 := (setRow_other _ (w.heap.size) (R6) (planC Q0 Q1 Q2 Q3 d.n0 e0 d.n1 e1 d.n2 e2 d.n3 e3 d.l d.p d.t) (by omega)).trans H6
      replace H7 := (setRow_other _ (w.heap.size) (R7) (planC Q0 Q1 Q2 Q3 d.n0 e0 d.n1 e1 d.n2 e2 d.n3 e3 d.l d.p d.t) (by omega)).trans H7
      replace Lp := Lp.keeps kk b2 (by decide)
      replace Os := Os.keepsT kk b2 (by decide)
      replace b2 := setRow_heap _ _ _ (planC Q0 Q1 Q2 Q3 d.n0 e0 d.n1 e1 d.n2 e2 d.n3 e3 d.l d.p d.t) _ _ b2
      clear kk
      generalize v1.setRow (w.heap.size) (planC Q0 Q1 Q2 Q3 d.n0 e0 d.n1 e1 d.n2 e2 d.n3 e3 d.l d.p d.t) = v2 at KB b2 b3 H6 H7 Lp Os ⊢
      refine hK.out _ _ ⟨fun o => cell_of_row _ _ o _ _ _ H6, fun o => cell_of_row _ _ o _ _ _ H7⟩ (fun _ => ?_)
      clear hK K'
      try (change wpAnyH _ _ _ _ _ _ _ (Act.put _ none _) _; dsimp only [Act.put])
      refine wpAnyH_ready (rs := [6]) (by kernel_rfl) (by simp) ?_
      refine AllReadyH.cons rfl (fun K' hK => ?_) AllReadyH.nil
      rw [if_pos (by rfl)]
      refine wp_store_row 38 (.tmp 3) (.tmp 33) rfl (w.heap.size + 1) (stC Y0 Y1 Y2 Y3 ps.length f0 ms.length f1 ds.length f2 ls.length f3 ph co ck bo ba lb gd pr) rfl rfl 38 _ b3 HIS.out rfl (by simp [Value.oneCell']) ?_
      have kk := keepsRow_ v2 (w.heap.size + 1) (stC Y0 Y1 Y2 Y3 ps.length f0 ms.length f1 ds.length f2 ls.length f3 ph co ck bo ba lb gd pr)
      replace KB := belowRow_ KB (B := w.heap.size + 1) (by omega) (stC Y0 Y1 Y2 Y3 ps.length f0 ms.length f1 ds.length f2 ls.length f3 ph co ck bo ba lb gd pr)
      replace b2 := (setRow_other _ (w.heap.size + 1) (w.heap.size) (stC Y0 Y1 Y2 Y3 ps.length f0 ms.length f1 ds.length f2 ls.length f3 ph co ck bo ba lb gd pr) (by omega)).trans b2
      replace H6 := (setRow_other _ (w.heap.size + 1) (R6) (stC Y0 Y1 Y2 Y3 ps.length f0 ms.length f1 ds.length f2 ls.length f3 ph co ck bo ba lb gd pr) (by omega)).trans H6
      replace H7 := (setRow_other _ (w.heap.size + 1) (R7) (stC Y0 Y1 Y2 Y3 ps.length f0 ms.length f1 ds.length f2 ls.length f3 ph co ck bo ba lb gd pr) (by omega)).trans H7
      replace Lp := Lp.keeps kk b3 (by decide)
      replace Os := Os.keepsT kk b3 (by decide)
      replace b3 := setRow_heap _ _ _ (stC Y0 Y1 Y2 Y3 ps.length f0 ms.length f1 ds.length f2 ls.length f3 ph co ck bo ba lb gd pr) _ _ b3
      clear kk
      generalize v2.setRow (w.heap.size + 1) (stC Y0 Y1 Y2 Y3 ps.length f0 ms.length f1 ds.length f2 ls.length f3 ph co ck bo ba lb gd pr) = v3 at KB b2 b3 H6 H7 Lp Os ⊢
      refine hK.out _ _ ⟨fun o => cell_of_row _ _ o _ _ _ H6, fun o => cell_of_row _ _ o _ _ _ H7⟩ (fun _ => ?_)
      clear hK K'
      try (change wpAnyH _ _ _ _ _ _ _ (Act.put _ none _) _; dsimp only [Act.put])
      refine wpAnyH_ready (rs := [7]) (by kernel_rfl) (by simp) ?_
      refine AllReadyH.cons rfl (fun K' hK => ?_) AllReadyH.nil
      go_simp
      refine hK.out _ _ ⟨fun o => cell_of_row _ _ o _ _ _ H6, fun o => cell_of_row _ _ o _ _ _ H7⟩ (fun _ => ?_)
      clear hK K'
      try (change wpAnyH _ _ _ _ _ _ _ (Act.put _ (some 4) _) _; dsimp only [Act.put])
      refine wpAnyH_done (by kernel_rfl) ?_ _
      refine NoPanic.normal ?_
      go_wp2_with fail
      exact bodyPost_ret (v := .tuple #[.agg (planC Q0 Q1 Q2 Q3 d.n0 e0 d.n1 e1 d.n2 e2 d.n3 e3 d.l d.p d.t), .agg (stC Y0 Y1 Y2 Y3 ps.length f0 ms.length f1 ds.length f2 ls.length f3 ph co ck bo ba lb gd pr), .bool (!kb)]) (results_cells_num Tryz.results36 _ _ _ _ _ _ _ _ _ _ _ _ _ rfl rfl rfl b2 b3 Tryz.underlying29 rfl HIP.out Tryz.underlying38 rfl HIS.out) rfl ⟨_, _, _, _, d, _, ⟨ph, co, ck, bo, ba, lb, ps, ms, ds, ls, gd, pr⟩, !kb, rfl, Lp, Os, hd, ⟨hs.s0, hs.s1, hs.s2, hs.s3⟩, KB⟩
    · skip
      go_wp2_with fail
      refine (l1Below_any g 5 w4a CU (by omega) (by omega)).mono ?_
      rintro e w4b ⟨kp, rfl, kp0, kp1, CU4, hk⟩
      obtain ⟨gcs, hgc⟩ := CU.cells
      replace Lp := Lp.keeps hk hgc (by decide)
      replace Os := Os.keepsT hk hgc (by decide)
      replace b2 := (hk.block _ (Array.getElem?_eq_some_iff.1 b2).1 (by show ¬ w.heap.size = g; omega)).trans b2
      replace b3 := (hk.block _ (Array.getElem?_eq_some_iff.1 b3).1 (by show ¬ w.heap.size + 1 = g; omega)).trans b3
      replace H6 := (hk.block _ (Array.getElem?_eq_some_iff.1 H6).1 (by show ¬ R6 = g; omega)).trans H6
      replace H7 := (hk.block _ (Array.getElem?_eq_some_iff.1 H7).1 (by show ¬ R7 = g; omega)).trans H7
      replace KB := KB.trans (hk.below (B := w.heap.size) KB.size (by rintro b hb rfl; omega))
      clear hk CU hgc
      have CU := CU4
      clear CU4
      have hC7 : ∀ o, w4b.cell? ⟨R7, o, none⟩ = (stC Y0 Y1 Y2 Y3 ps.length f0 ms.length f1 ds.length f2 ls.length f3 ph co ck bo ba lb gd pr)[o]? := fun o => cell_of_row _ _ o _ _ _ H7
      have hF7 : ∀ o, w4b.frozen? ⟨R7, o, none⟩ = false := fun o => frozen_of_row _ _ _ _ _ H7
      go_upto_region 8 with fail
      have h70 := heap_setCell_same w4b R7 11 _ _ (.int .i64 kp) H7
      have kk : Keeps (· = R7) w4b (w4b.setCell ⟨R7, 11, none⟩ (.int .i64 kp)) := Keeps.set (S := (· = R7)) (Keeps.refl _ _) rfl _
      replace Lp := Lp.keeps kk H7 (by decide)
      replace Os := (Os.keepsT kk H7 (by decide)).nums ph co ck bo ba lb gd kp
      replace b2 := (kk.block _ (Array.getElem?_eq_some_iff.1 b2).1 (by show ¬ w.heap.size = R7; omega)).trans b2
      replace b3 := (kk.block _ (Array.getElem?_eq_some_iff.1 b3).1 (by show ¬ w.heap.size + 1 = R7; omega)).trans b3
      replace H6 := (kk.block _ (Array.getElem?_eq_some_iff.1 H6).1 (by show ¬ R6 = R7; omega)).trans H6
      replace KB := KB.trans (kk.below (B := w.heap.size) KB.size (by rintro b hb rfl; omega))
      replace CU := CU.keeps kk (fun b hb e => by omega)
      replace H7 : (w4b.setCell ⟨R7, 11, none⟩ (.int .i64 kp)).heap[R7]? = some (.cells (stC Y0 Y1 Y2 Y3 ps.length f0 ms.length f1 ds.length f2 ls.length f3 ph co ck bo ba lb gd kp) 38) := h70
      clear h70 kk hC7 hF7
      generalize (w4b.setCell ⟨R7, 11, none⟩ (.int .i64 kp)) = w4c at KB b2 b3 H6 H7 Lp Os CU ⊢
      have h7 : ∀ o, w4c.cell? ⟨R7, o, none⟩ = (stC Y0 Y1 Y2 Y3 ps.length f0 ms.length f1 ds.length f2 ls.length f3 ph co ck bo ba lb gd kp)[o]? := fun o => cell_of_row _ _ o _ _ _ H7
      go_wp2_with fail
      refine (l1Below_any g (kp + 1) w4c CU (by omega) (by omega)).mono ?_
      rintro e w4d ⟨kg, rfl, -, -, CU4, hk⟩
      obtain ⟨gcs, hgc⟩ := CU.cells
      replace Lp := Lp.keeps hk hgc (by decide)
      replace Os := Os.keepsT hk hgc (by decide)
      replace b2 := (hk.block _ (Array.getElem?_eq_some_iff.1 b2).1 (by show ¬ w.heap.size = g; omega)).trans b2
      replace b3 := (hk.block _ (Array.getElem?_eq_some_iff.1 b3).1 (by show ¬ w.heap.size + 1 = g; omega)).trans b3
      replace H6 := (hk.block _ (Array.getElem?_eq_some_iff.1 H6).1 (by show ¬ R6 = g; omega)).trans H6
      replace H7 := (hk.block _ (Array.getElem?_eq_some_iff.1 H7).1 (by show ¬ R7 = g; omega)).trans H7
      replace KB := KB.trans (hk.below (B := w.heap.size) KB.size (by rintro b hb rfl; omega))
      clear hk CU hgc
      have CU := CU4
      clear CU4
      clear h7
      have hC7 : ∀ o, w4d.cell? ⟨R7, o, none⟩ = (stC Y0 Y1 Y2 Y3 ps.length f0 ms.length f1 ds.length f2 ls.length f3 ph co ck bo ba lb gd kp)[o]? := fun o => cell_of_row _ _ o _ _ _ H7
      have hF7 : ∀ o, w4d.frozen? ⟨R7, o, none⟩ = false := fun o => frozen_of_row _ _ _ _ _ H7
      go_upto_region 9 with fail
      have h70 := heap_setCell_same w4d R7 10 _ _ (.int .i64 kg) H7
      have kk : Keeps (· = R7) w4d (w4d.setCell ⟨R7, 10, none⟩ (.int .i64 kg)) := Keeps.set (S := (· = R7)) (Keeps.refl _ _) rfl _
      replace Lp := Lp.keeps kk H7 (by decide)
      replace Os := (Os.keepsT kk H7 (by decide)).nums ph co ck bo ba lb kg kp
      replace b2 := (kk.block _ (Array.getElem?_eq_some_iff.1 b2).1 (by show ¬ w.heap.size = R7; omega)).trans b2
      replace b3 := (kk.block _ (Array.getElem?_eq_some_iff.1 b3).1 (by show ¬ w.heap.size + 1 = R7; omega)).trans b3
      replace H6 := (kk.block _ (Array.getElem?_eq_some_iff.1 H6).1 (by show ¬ R6 = R7; omega)).trans H6
      replace KB := KB.trans (kk.below (B := w.heap.size) KB.size (by rintro b hb rfl; omega))
      replace CU := CU.keeps kk (fun b hb e => by omega)
      replace H7 : (w4d.setCell ⟨R7, 10, none⟩ (.int .i64 kg)).heap[R7]? = some (.cells (stC Y0 Y1 Y2 Y3 ps.length f0 ms.length f1 ds.length f2 ls.length f3 ph co ck bo ba lb kg kp) 38) := h70
      clear h70 kk hC7 hF7
      generalize (w4d.setCell ⟨R7, 10, none⟩ (.int .i64 kg)) = w4e at KB b2 b3 H6 H7 Lp Os CU ⊢
      refine wp_region_noPanic ?_
      refine wp_region_held_drew (S := fun W => (∀ o, W.cell? ⟨R6, o, none⟩ = (planC Q0 Q1 Q2 Q3 d.n0 e0 d.n1 e1 d.n2 e2 d.n3 e3 d.l d.p d.t)[o]?) ∧ (∀ o, W.cell? ⟨R7, o, none⟩ = (stC Y0 Y1 Y2 Y3 ps.length f0 ms.length f1 ds.length f2 ls.length f3 ph co ck bo ba lb kg kp)[o]?)) (by kernel_rfl) (by rw [← heap_drew w4e] at H6 H7; exact ⟨fun o => cell_of_row _ _ o _ _ _ H6, fun o => cell_of_row _ _ o _ _ _ H7⟩) (fun _ => ?_)
      rw [← heap_drew w4e] at b2 b3 H6 H7
      replace Lp := Lp.below (Below.refl _ _).drew
      replace Os := Os.below (Below.refl _ _).drew
      replace KB := KB.drew
      replace CU := CU.below (Below.refl _ _).drew
      generalize w4e.drew = v0 at KB b2 b3 H6 H7 Lp Os CU ⊢
      refine wpAnyH_take (i := 0) (v := ?_) rfl (by kernel_rfl) (by kernel_rfl) (by kernel_rfl) (fun _ _ _ h => h) (Or.inl ⟨by rfl, ?_⟩) ⟨fun o => cell_of_row _ _ o _ _ _ H6, fun o => cell_of_row _ _ o _ _ _ H7⟩ ?_
      rotate_left 1
      · intro w hSw
        obtain ⟨hs6, hs7⟩ := hSw
        go_simp
        try with_reducible rfl
      change wpAnyH _ _ _ _ _ _ _ (Act.put _ (some 32) _) _
      dsimp only [Act.put]
      refine wpAnyH_take (i := 1) (v := ?_) rfl (by kernel_rfl) (by kernel_rfl) (by kernel_rfl) (fun _ _ _ h => h) (Or.inl ⟨by rfl, ?_⟩) ⟨fun o => cell_of_row _ _ o _ _ _ H6, fun o => cell_of_row _ _ o _ _ _ H7⟩ ?_
      rotate_left 1
      · intro w hSw
        obtain ⟨hs6, hs7⟩ := hSw
        go_simp
        try with_reducible rfl
      change wpAnyH _ _ _ _ _ _ _ (Act.put _ (some 33) _) _
      dsimp only [Act.put]
      refine wpAnyH_take (i := 2) (v := ?_) rfl (by kernel_rfl) (by kernel_rfl) (by kernel_rfl) (fun _ _ _ h => h) (Or.inl ⟨by rfl, ?_⟩) ⟨fun o => cell_of_row _ _ o _ _ _ H6, fun o => cell_of_row _ _ o _ _ _ H7⟩ ?_
      rotate_left 1
      · intro w hSw
        obtain ⟨hs6, hs7⟩ := hSw
        go_simp
        try with_reducible rfl
      change wpAnyH _ _ _ _ _ _ _ (Act.put _ (some 34) _) _
      dsimp only [Act.put]
      refine wpAnyH_ready (rs := [3]) (by kernel_rfl) (by simp) ?_
      refine AllReadyH.cons rfl (fun K' hK => ?_) AllReadyH.nil
      go_simp
      go_at_call 60
      refine (l1Once_any g 3 v0 CU (by omega) (by omega)).mono ?_
      rintro e v1 ⟨kb, rfl, CU9, hk⟩
      obtain ⟨gcs, hgc⟩ := CU.cells
      replace Lp := Lp.keeps hk hgc (by decide)
      replace Os := Os.keepsT hk hgc (by decide)
      replace b2 := (hk.block _ (Array.getElem?_eq_some_iff.1 b2).1 (by show ¬ w.heap.size = g; omega)).trans b2
      replace b3 := (hk.block _ (Array.getElem?_eq_some_iff.1 b3).1 (by show ¬ w.heap.size + 1 = g; omega)).trans b3
      replace H6 := (hk.block _ (Array.getElem?_eq_some_iff.1 H6).1 (by show ¬ R6 = g; omega)).trans H6
      replace H7 := (hk.block _ (Array.getElem?_eq_some_iff.1 H7).1 (by show ¬ R7 = g; omega)).trans H7
      replace KB := KB.trans (hk.below (B := w.heap.size) KB.size (by rintro b hb rfl; omega))
      clear hk CU CU9 hgc
      go_wp2_with fail
      refine hK.out _ _ ⟨fun o => cell_of_row _ _ o _ _ _ H6, fun o => cell_of_row _ _ o _ _ _ H7⟩ (fun _ => ?_)
      clear hK K'
      try (change wpAnyH _ _ _ _ _ _ _ (Act.put _ (some 35) _) _; dsimp only [Act.put])
      refine wpAnyH_take (i := 4) (v := ?_) rfl (by kernel_rfl) (by kernel_rfl) (by kernel_rfl) (fun _ _ _ h => h) (Or.inl ⟨by rfl, ?_⟩) ⟨fun o => cell_of_row _ _ o _ _ _ H6, fun o => cell_of_row _ _ o _ _ _ H7⟩ ?_
      rotate_left 1
      · intro w hSw
        obtain ⟨hs6, hs7⟩ := hSw
        go_simp
        try with_reducible rfl
      change wpAnyH _ _ _ _ _ _ _ (Act.put _ (some 36) _) _
      dsimp only [Act.put]
      refine wpAnyH_ready (rs := [5]) (by kernel_rfl) (by simp) ?_
      refine AllReadyH.cons rfl (fun K' hK => ?_) AllReadyH.nil
      rw [if_pos (by rfl)]
      refine wp_store_row 29 (.tmp 2) (.tmp 32) rfl (w.heap.size) (planC Q0 Q1 Q2 Q3 d.n0 e0 d.n1 e1 d.n2 e2 d.n3 e3 d.l d.p d.t) rfl rfl 29 _ b2 HIP.out rfl (by simp [Value.oneCell']) ?_
      have kk := keepsRow_ v1 (w.heap.size) (planC Q0 Q1 Q2 Q3 d.n0 e0 d.n1 e1 d.n2 e2 d.n3 e3 d.l d.p d.t)
      replace KB := belowRow_ KB (B := w.heap.size) (by omega) (planC Q0 Q1 Q2 Q3 d.n0 e0 d.n1 e1 d.n2 e2 d.n3 e3 d.l d.p d.t)
      replace b3 := (setRow_other _ (w.heap.size) (w.heap.size + 1) (planC Q0 Q1 Q2 Q3 d.n0 e0 d.n1 e1 d.n2 e2 d.n3 e3 d.l d.p d.t) (by omega)).trans b3
      replace H6 := (setRow_other _ (w.heap.size) (R6) (planC Q0 Q1 Q2 Q3 d.n0 e0 d.n1 e1 d.n2 e2 d.n3 e3 d.l d.p d.t) (by omega)).trans H6
      replace H7 := (setRow_other _ (w.heap.size) (R7) (planC Q0 Q1 Q2 Q3 d.n0 e0 d.n1 e1 d.n2 e2 d.n3 e3 d.l d.p d.t) (by omega)).trans H7
      replace Lp := Lp.keeps kk b2 (by decide)
      replace Os := Os.keepsT kk b2 (by decide)
      replace b2 := setRow_heap _ _ _ (planC Q0 Q1 Q2 Q3 d.n0 e0 d.n1 e1 d.n2 e2 d.n3 e3 d.l d.p d.t) _ _ b2
      clear kk
      generalize v1.setRow (w.heap.size) (planC Q0 Q1 Q2 Q3 d.n0 e0 d.n1 e1 d.n2 e2 d.n3 e3 d.l d.p d.t) = v2 at KB b2 b3 H6 H7 Lp Os ⊢
      refine hK.out _ _ ⟨fun o => cell_of_row _ _ o _ _ _ H6, fun o => cell_of_row _ _ o _ _ _ H7⟩ (fun _ => ?_)
      clear hK K'
      try (change wpAnyH _ _ _ _ _ _ _ (Act.put _ none _) _; dsimp only [Act.put])
      refine wpAnyH_ready (rs := [6]) (by kernel_rfl) (by simp) ?_
      refine AllReadyH.cons rfl (fun K' hK => ?_) AllReadyH.nil
      rw [if_pos (by rfl)]
      refine wp_store_row 38 (.tmp 3) (.tmp 33) rfl (w.heap.size + 1) (stC Y0 Y1 Y2 Y3 ps.length f0 ms.length f1 ds.length f2 ls.length f3 ph co ck bo ba lb kg kp) rfl rfl 38 _ b3 HIS.out rfl (by simp [Value.oneCell']) ?_
      have kk := keepsRow_ v2 (w.heap.size + 1) (stC Y0 Y1 Y2 Y3 ps.length f0 ms.length f1 ds.length f2 ls.length f3 ph co ck bo ba lb kg kp)
      replace KB := belowRow_ KB (B := w.heap.size + 1) (by omega) (stC Y0 Y1 Y2 Y3 ps.length f0 ms.length f1 ds.length f2 ls.length f3 ph co ck bo ba lb kg kp)
      replace b2 := (setRow_other _ (w.heap.size + 1) (w.heap.size) (stC Y0 Y1 Y2 Y3 ps.length f0 ms.length f1 ds.length f2 ls.length f3 ph co ck bo ba lb kg kp) (by omega)).trans b2
      replace H6 := (setRow_other _ (w.heap.size + 1) (R6) (stC Y0 Y1 Y2 Y3 ps.length f0 ms.length f1 ds.length f2 ls.length f3 ph co ck bo ba lb kg kp) (by omega)).trans H6
      replace H7 := (setRow_other _ (w.heap.size + 1) (R7) (stC Y0 Y1 Y2 Y3 ps.length f0 ms.length f1 ds.length f2 ls.length f3 ph co ck bo ba lb kg kp) (by omega)).trans H7
      replace Lp := Lp.keeps kk b3 (by decide)
      replace Os := Os.keepsT kk b3 (by decide)
      replace b3 := setRow_heap _ _ _ (stC Y0 Y1 Y2 Y3 ps.length f0 ms.length f1 ds.length f2 ls.length f3 ph co ck bo ba lb kg kp) _ _ b3
      clear kk
      generalize v2.setRow (w.heap.size + 1) (stC Y0 Y1 Y2 Y3 ps.length f0 ms.length f1 ds.length f2 ls.length f3 ph co ck bo ba lb kg kp) = v3 at KB b2 b3 H6 H7 Lp Os ⊢
      refine hK.out _ _ ⟨fun o => cell_of_row _ _ o _ _ _ H6, fun o => cell_of_row _ _ o _ _ _ H7⟩ (fun _ => ?_)
      clear hK K'
      try (change wpAnyH _ _ _ _ _ _ _ (Act.put _ none _) _; dsimp only [Act.put])
      refine wpAnyH_ready (rs := [7]) (by kernel_rfl) (by simp) ?_
      refine AllReadyH.cons rfl (fun K' hK => ?_) AllReadyH.nil
      go_simp
      refine hK.out _ _ ⟨fun o => cell_of_row _ _ o _ _ _ H6, fun o => cell_of_row _ _ o _ _ _ H7⟩ (fun _ => ?_)
      clear hK K'
      try (change wpAnyH _ _ _ _ _ _ _ (Act.put _ (some 4) _) _; dsimp only [Act.put])
      refine wpAnyH_done (by kernel_rfl) ?_ _
      refine NoPanic.normal ?_
      go_wp2_with fail
      exact bodyPost_ret (v := .tuple #[.agg (planC Q0 Q1 Q2 Q3 d.n0 e0 d.n1 e1 d.n2 e2 d.n3 e3 d.l d.p d.t), .agg (stC Y0 Y1 Y2 Y3 ps.length f0 ms.length f1 ds.length f2 ls.length f3 ph co ck bo ba lb kg kp), .bool (!kb)]) (results_cells_num Tryz.results36 _ _ _ _ _ _ _ _ _ _ _ _ _ rfl rfl rfl b2 b3 Tryz.underlying29 rfl HIP.out Tryz.underlying38 rfl HIS.out) rfl ⟨_, _, _, _, d, _, ⟨ph, co, ck, bo, ba, lb, ps, ms, ds, ls, kg, kp⟩, !kb, rfl, Lp, Os, hd, ⟨hs.s0, hs.s1, hs.s2, hs.s3⟩, KB⟩
  · skip
    go_wp2_with fail
    refine (l1From_any g 6 7 w4 CU (by omega) (by omega) (by omega) (by omega)).mono ?_
    rintro e w5 ⟨kn, rfl, -, -, CU4, hk⟩
    obtain ⟨gcs, hgc⟩ := CU.cells
    replace Lp := Lp.keeps hk hgc (by decide)
    replace Os := Os.keepsT hk hgc (by decide)
    replace b2 := (hk.block _ (Array.getElem?_eq_some_iff.1 b2).1 (by show ¬ w.heap.size = g; omega)).trans b2
    replace b3 := (hk.block _ (Array.getElem?_eq_some_iff.1 b3).1 (by show ¬ w.heap.size + 1 = g; omega)).trans b3
    replace H6 := (hk.block _ (Array.getElem?_eq_some_iff.1 H6).1 (by show ¬ R6 = g; omega)).trans H6
    replace H7 := (hk.block _ (Array.getElem?_eq_some_iff.1 H7).1 (by show ¬ R7 = g; omega)).trans H7
    replace KB := KB.trans (hk.below (B := w.heap.size) KB.size (by rintro b hb rfl; omega))
    clear hk CU hgc
    have CU := CU4
    clear CU4
    have hC7 : ∀ o, w5.cell? ⟨R7, o, none⟩ = (stC Y0 Y1 Y2 Y3 ps.length f0 ms.length f1 ds.length f2 ls.length f3 ph co ck bo ba lb gd pr)[o]? := fun o => cell_of_row _ _ o _ _ _ H7
    have hF7 : ∀ o, w5.frozen? ⟨R7, o, none⟩ = false := fun o => frozen_of_row _ _ _ _ _ H7
    go_upto_region 6 with fail
    have h70 := heap_setCell_same w5 R7 0 _ _ (.int .i64 kn) H7
    have h71 := heap_setCell_same (w5.setCell ⟨R7, 0, none⟩ (.int .i64 kn)) R7 1 _ _ (.bool true) h70
    have kk : Keeps (· = R7) w5 ((w5.setCell ⟨R7, 0, none⟩ (.int .i64 kn)).setCell ⟨R7, 1, none⟩ (.bool true)) := Keeps.set (S := (· = R7)) (Keeps.set (S := (· = R7)) (Keeps.refl _ _) rfl _) rfl _
    replace Lp := Lp.keeps kk H7 (by decide)
    replace Os := (Os.keepsT kk H7 (by decide)).nums kn true ck bo ba lb gd pr
    replace b2 := (kk.block _ (Array.getElem?_eq_some_iff.1 b2).1 (by show ¬ w.heap.size = R7; omega)).trans b2
    replace b3 := (kk.block _ (Array.getElem?_eq_some_iff.1 b3).1 (by show ¬ w.heap.size + 1 = R7; omega)).trans b3
    replace H6 := (kk.block _ (Array.getElem?_eq_some_iff.1 H6).1 (by show ¬ R6 = R7; omega)).trans H6
    replace KB := KB.trans (kk.below (B := w.heap.size) KB.size (by rintro b hb rfl; omega))
    replace CU := CU.keeps kk (fun b hb e => by omega)
    replace H7 : ((w5.setCell ⟨R7, 0, none⟩ (.int .i64 kn)).setCell ⟨R7, 1, none⟩ (.bool true)).heap[R7]? = some (.cells (stC Y0 Y1 Y2 Y3 ps.length f0 ms.length f1 ds.length f2 ls.length f3 kn true ck bo ba lb gd pr) 38) := h71
    clear h70 h71 kk hC7 hF7
    generalize ((w5.setCell ⟨R7, 0, none⟩ (.int .i64 kn)).setCell ⟨R7, 1, none⟩ (.bool true)) = w6 at KB b2 b3 H6 H7 Lp Os CU ⊢
    go_wp2_with fail
    refine (l1Once_any g 3 w6 CU (by omega) (by omega)).mono ?_
    rintro e w6a ⟨c, rfl, CU4, hk⟩
    obtain ⟨gcs, hgc⟩ := CU.cells
    replace Lp := Lp.keeps hk hgc (by decide)
    replace Os := Os.keepsT hk hgc (by decide)
    replace b2 := (hk.block _ (Array.getElem?_eq_some_iff.1 b2).1 (by show ¬ w.heap.size = g; omega)).trans b2
    replace b3 := (hk.block _ (Array.getElem?_eq_some_iff.1 b3).1 (by show ¬ w.heap.size + 1 = g; omega)).trans b3
    replace H6 := (hk.block _ (Array.getElem?_eq_some_iff.1 H6).1 (by show ¬ R6 = g; omega)).trans H6
    replace H7 := (hk.block _ (Array.getElem?_eq_some_iff.1 H7).1 (by show ¬ R7 = g; omega)).trans H7
    replace KB := KB.trans (hk.below (B := w.heap.size) KB.size (by rintro b hb rfl; omega))
    clear hk CU hgc
    have CU := CU4
    clear CU4
    cases c
    · skip
      go_upto_region 9 with fail
      refine wp_region_noPanic ?_
      refine wp_region_held_drew (S := fun W => (∀ o, W.cell? ⟨R6, o, none⟩ = (planC Q0 Q1 Q2 Q3 d.n0 e0 d.n1 e1 d.n2 e2 d.n3 e3 d.l d.p d.t)[o]?) ∧ (∀ o, W.cell? ⟨R7, o, none⟩ = (stC Y0 Y1 Y2 Y3 ps.length f0 ms.length f1 ds.length f2 ls.length f3 kn true ck bo ba lb gd pr)[o]?)) (by kernel_rfl) (by rw [← heap_drew w6a] at H6 H7; exact ⟨fun o => cell_of_row _ _ o _ _ _ H6, fun o => cell_of_row _ _ o _ _ _ H7⟩) (fun _ => ?_)
      rw [← heap_drew w6a] at b2 b3 H6 H7
      replace Lp := Lp.below (Below.refl _ _).drew
      replace Os := Os.below (Below.refl _ _).drew
      replace KB := KB.drew
      replace CU := CU.below (Below.refl _ _).drew
      generalize w6a.drew = v0 at KB b2 b3 H6 H7 Lp Os CU ⊢
      refine wpAnyH_take (i := 0) (v := ?_) rfl (by kernel_rfl) (by kernel_rfl) (by kernel_rfl) (fun _ _ _ h => h) (Or.inl ⟨by rfl, ?_⟩) ⟨fun o => cell_of_row _ _ o _ _ _ H6, fun o => cell_of_row _ _ o _ _ _ H7⟩ ?_
      rotate_left 1
      · intro w hSw
        obtain ⟨hs6, hs7⟩ := hSw
        go_simp
        try with_reducible rfl
      change wpAnyH _ _ _ _ _ _ _ (Act.put _ (some 32) _) _
      dsimp only [Act.put]
      refine wpAnyH_take (i := 1) (v := ?_) rfl (by kernel_rfl) (by kernel_rfl) (by kernel_rfl) (fun _ _ _ h => h) (Or.inl ⟨by rfl, ?_⟩) ⟨fun o => cell_of_row _ _ o _ _ _ H6, fun o => cell_of_row _ _ o _ _ _ H7⟩ ?_
      rotate_left 1
      · intro w hSw
        obtain ⟨hs6, hs7⟩ := hSw
        go_simp
        try with_reducible rfl
      change wpAnyH _ _ _ _ _ _ _ (Act.put _ (some 33) _) _
      dsimp only [Act.put]
      refine wpAnyH_take (i := 2) (v := ?_) rfl (by kernel_rfl) (by kernel_rfl) (by kernel_rfl) (fun _ _ _ h => h) (Or.inl ⟨by rfl, ?_⟩) ⟨fun o => cell_of_row _ _ o _ _ _ H6, fun o => cell_of_row _ _ o _ _ _ H7⟩ ?_
      rotate_left 1
      · intro w hSw
        obtain ⟨hs6, hs7⟩ := hSw
        go_simp
        try with_reducible rfl
      change wpAnyH _ _ _ _ _ _ _ (Act.put _ (some 34) _) _
      dsimp only [Act.put]
      refine wpAnyH_ready (rs := [3]) (by kernel_rfl) (by simp) ?_
      refine AllReadyH.cons rfl (fun K' hK => ?_) AllReadyH.nil
      go_simp
      go_at_call 60
      refine (l1Once_any g 3 v0 CU (by omega) (by omega)).mono ?_
      rintro e v1 ⟨kb, rfl, CU9, hk⟩
      obtain ⟨gcs, hgc⟩ := CU.cells
      replace Lp := Lp.keeps hk hgc (by decide)
      replace Os := Os.keepsT hk hgc (by decide)
      replace b2 := (hk.block _ (Array.getElem?_eq_some_iff.1 b2).1 (by show ¬ w.heap.size = g; omega)).trans b2
      replace b3 := (hk.block _ (Array.getElem?_eq_some_iff.1 b3).1 (by show ¬ w.heap.size + 1 = g; omega)).trans b3
      replace H6 := (hk.block _ (Array.getElem?_eq_some_iff.1 H6).1 (by show ¬ R6 = g; omega)).trans H6
      replace H7 := (hk.block _ (Array.getElem?_eq_some_iff.1 H7).1 (by show ¬ R7 = g; omega)).trans H7
      replace KB := KB.trans (hk.below (B := w.heap.size) KB.size (by rintro b hb rfl; omega))
      clear hk CU CU9 hgc
      go_wp2_with fail
      refine hK.out _ _ ⟨fun o => cell_of_row _ _ o _ _ _ H6, fun o => cell_of_row _ _ o _ _ _ H7⟩ (fun _ => ?_)
      clear hK K'
      try (change wpAnyH _ _ _ _ _ _ _ (Act.put _ (some 35) _) _; dsimp only [Act.put])
      refine wpAnyH_take (i := 4) (v := ?_) rfl (by kernel_rfl) (by kernel_rfl) (by kernel_rfl) (fun _ _ _ h => h) (Or.inl ⟨by rfl, ?_⟩) ⟨fun o => cell_of_row _ _ o _ _ _ H6, fun o => cell_of_row _ _ o _ _ _ H7⟩ ?_
      rotate_left 1
      · intro w hSw
        obtain ⟨hs6, hs7⟩ := hSw
        go_simp
        try with_reducible rfl
      change wpAnyH _ _ _ _ _ _ _ (Act.put _ (some 36) _) _
      dsimp only [Act.put]
      refine wpAnyH_ready (rs := [5]) (by kernel_rfl) (by simp) ?_
      refine AllReadyH.cons rfl (fun K' hK => ?_) AllReadyH.nil
      rw [if_pos (by rfl)]
      refine wp_store_row 29 (.tmp 2) (.tmp 32) rfl (w.heap.size) (planC Q0 Q1 Q2 Q3 d.n0 e0 d.n1 e1 d.n2 e2 d.n3 e3 d.l d.p d.t) rfl rfl 29 _ b2 HIP.out rfl (by simp [Value.oneCell']) ?_
      have kk := keepsRow_ v1 (w.heap.size) (planC Q0 Q1 Q2 Q3 d.n0 e0 d.n1 e1 d.n2 e2 d.n3 e3 d.l d.p d.t)
      replace KB := belowRow_ KB (B := w.heap.size) (by omega) (planC Q0 Q1 Q2 Q3 d.n0 e0 d.n1 e1 d.n2 e2 d.n3 e3 d.l d.p d.t)
      replace b3 := (setRow_other _ (w.heap.size) (w.heap.size + 1) (planC Q0 Q1 Q2 Q3 d.n0 e0 d.n1 e1 d.n2 e2 d.n3 e3 d.l d.p d.t) (by omega)).trans b3
      replace H6 := (setRow_other _ (w.heap.size) (R6) (planC Q0 Q1 Q2 Q3 d.n0 e0 d.n1 e1 d.n2 e2 d.n3 e3 d.l d.p d.t) (by omega)).trans H6
      replace H7 := (setRow_other _ (w.heap.size) (R7) (planC Q0 Q1 Q2 Q3 d.n0 e0 d.n1 e1 d.n2 e2 d.n3 e3 d.l d.p d.t) (by omega)).trans H7
      replace Lp := Lp.keeps kk b2 (by decide)
      replace Os := Os.keepsT kk b2 (by decide)
      replace b2 := setRow_heap _ _ _ (planC Q0 Q1 Q2 Q3 d.n0 e0 d.n1 e1 d.n2 e2 d.n3 e3 d.l d.p d.t) _ _ b2
      clear kk
      generalize v1.setRow (w.heap.size) (planC Q0 Q1 Q2 Q3 d.n0 e0 d.n1 e1 d.n2 e2 d.n3 e3 d.l d.p d.t) = v2 at KB b2 b3 H6 H7 Lp Os ⊢
      refine hK.out _ _ ⟨fun o => cell_of_row _ _ o _ _ _ H6, fun o => cell_of_row _ _ o _ _ _ H7⟩ (fun _ => ?_)
      clear hK K'
      try (change wpAnyH _ _ _ _ _ _ _ (Act.put _ none _) _; dsimp only [Act.put])
      refine wpAnyH_ready (rs := [6]) (by kernel_rfl) (by simp) ?_
      refine AllReadyH.cons rfl (fun K' hK => ?_) AllReadyH.nil
      rw [if_pos (by rfl)]
      refine wp_store_row 38 (.tmp 3) (.tmp 33) rfl (w.heap.size + 1) (stC Y0 Y1 Y2 Y3 ps.length f0 ms.length f1 ds.length f2 ls.length f3 kn true ck bo ba lb gd pr) rfl rfl 38 _ b3 HIS.out rfl (by simp [Value.oneCell']) ?_
      have kk := keepsRow_ v2 (w.heap.size + 1) (stC Y0 Y1 Y2 Y3 ps.length f0 ms.length f1 ds.length f2 ls.length f3 kn true ck bo ba lb gd pr)
      replace KB := belowRow_ KB (B := w.heap.size + 1) (by omega) (stC Y0 Y1 Y2 Y3 ps.length f0 ms.length f1 ds.length f2 ls.length f3 kn true ck bo ba lb gd pr)
      replace b2 := (setRow_other _ (w.heap.size + 1) (w.heap.size) (stC Y0 Y1 Y2 Y3 ps.length f0 ms.length f1 ds.length f2 ls.length f3 kn true ck bo ba lb gd pr) (by omega)).trans b2
      replace H6 := (setRow_other _ (w.heap.size + 1) (R6) (stC Y0 Y1 Y2 Y3 ps.length f0 ms.length f1 ds.length f2 ls.length f3 kn true ck bo ba lb gd pr) (by omega)).trans H6
      replace H7 := (setRow_other _ (w.heap.size + 1) (R7) (stC Y0 Y1 Y2 Y3 ps.length f0 ms.length f1 ds.length f2 ls.length f3 kn true ck bo ba lb gd pr) (by omega)).trans H7
      replace Lp := Lp.keeps kk b3 (by decide)
      replace Os := Os.keepsT kk b3 (by decide)
      replace b3 := setRow_heap _ _ _ (stC Y0 Y1 Y2 Y3 ps.length f0 ms.length f1 ds.length f2 ls.length f3 kn true ck bo ba lb gd pr) _ _ b3
      clear kk
      generalize v2.setRow (w.heap.size + 1) (stC Y0 Y1 Y2 Y3 ps.length f0 ms.length f1 ds.length f2 ls.length f3 kn true ck bo ba lb gd pr) = v3 at KB b2 b3 H6 H7 Lp Os ⊢
      refine hK.out _ _ ⟨fun o => cell_of_row _ _ o _ _ _ H6, fun o => cell_of_row _ _ o _ _ _ H7⟩ (fun _ => ?_)
      clear hK K'
      try (change wpAnyH _ _ _ _ _ _ _ (Act.put _ none _) _; dsimp only [Act.put])
      refine wpAnyH_ready (rs := [7]) (by kernel_rfl) (by simp) ?_
      refine AllReadyH.cons rfl (fun K' hK => ?_) AllReadyH.nil
      go_simp
      refine hK.out _ _ ⟨fun o => cell_of_row _ _ o _ _ _ H6, fun o => cell_of_row _ _ o _ _ _ H7⟩ (fun _ => ?_)
      clear hK K'
      try (change wpAnyH _ _ _ _ _ _ _ (Act.put _ (some 4) _) _; dsimp only [Act.put])
      refine wpAnyH_done (by kernel_rfl) ?_ _
      refine NoPanic.normal ?_
      go_wp2_with fail
      exact bodyPost_ret (v := .tuple #[.agg (planC Q0 Q1 Q2 Q3 d.n0 e0 d.n1 e1 d.n2 e2 d.n3 e3 d.l d.p d.t), .agg (stC Y0 Y1 Y2 Y3 ps.length f0 ms.length f1 ds.length f2 ls.length f3 kn true ck bo ba lb gd pr), .bool (!kb)]) (results_cells_num Tryz.results36 _ _ _ _ _ _ _ _ _ _ _ _ _ rfl rfl rfl b2 b3 Tryz.underlying29 rfl HIP.out Tryz.underlying38 rfl HIS.out) rfl ⟨_, _, _, _, d, _, ⟨kn, true, ck, bo, ba, lb, ps, ms, ds, ls, gd, pr⟩, !kb, rfl, Lp, Os, hd, ⟨hs.s0, hs.s1, hs.s2, hs.s3⟩, KB⟩
    · skip
      go_wp2_with fail
      refine (l1Below_any g 5 w6a CU (by omega) (by omega)).mono ?_
      rintro e w6b ⟨kp, rfl, kp0, kp1, CU4, hk⟩
      obtain ⟨gcs, hgc⟩ := CU.cells
      replace Lp := Lp.keeps hk hgc (by decide)
      replace Os := Os.keepsT hk hgc (by decide)
      replace b2 := (hk.block _ (Array.getElem?_eq_some_iff.1 b2).1 (by show ¬ w.heap.size = g; omega)).trans b2
      replace b3 := (hk.block _ (Array.getElem?_eq_some_iff.1 b3).1 (by show ¬ w.heap.size + 1 = g; omega)).trans b3
      replace H6 := (hk.block _ (Array.getElem?_eq_some_iff.1 H6).1 (by show ¬ R6 = g; omega)).trans H6
      replace H7 := (hk.block _ (Array.getElem?_eq_some_iff.1 H7).1 (by show ¬ R7 = g; omega)).trans H7
      replace KB := KB.trans (hk.below (B := w.heap.size) KB.size (by rintro b hb rfl; omega))
      clear hk CU hgc
      have CU := CU4
      clear CU4
      have hC7 : ∀ o, w6b.cell? ⟨R7, o, none⟩ = (stC Y0 Y1 Y2 Y3 ps.length f0 ms.length f1 ds.length f2 ls.length f3 kn true ck bo ba lb gd pr)[o]? := fun o => cell_of_row _ _ o _ _ _ H7
      have hF7 : ∀ o, w6b.frozen? ⟨R7, o, none⟩ = false := fun o => frozen_of_row _ _ _ _ _ H7
      go_upto_region 8 with fail
      have h70 := heap_setCell_same w6b R7 11 _ _ (.int .i64 kp) H7
      have kk : Keeps (· = R7) w6b (w6b.setCell ⟨R7, 11, none⟩ (.int .i64 kp)) := Keeps.set (S := (· = R7)) (Keeps.refl _ _) rfl _
      replace Lp := Lp.keeps kk H7 (by decide)
      replace Os := (Os.keepsT kk H7 (by decide)).nums kn true ck bo ba lb gd kp
      replace b2 := (kk.block _ (Array.getElem?_eq_some_iff.1 b2).1 (by show ¬ w.heap.size = R7; omega)).trans b2
      replace b3 := (kk.block _ (Array.getElem?_eq_some_iff.1 b3).1 (by show ¬ w.heap.size + 1 = R7; omega)).trans b3
      replace H6 := (kk.block _ (Array.getElem?_eq_some_iff.1 H6).1 (by show ¬ R6 = R7; omega)).trans H6
      replace KB := KB.trans (kk.below (B := w.heap.size) KB.size (by rintro b hb rfl; omega))
      replace CU := CU.keeps kk (fun b hb e => by omega)
      replace H7 : (w6b.setCell ⟨R7, 11, none⟩ (.int .i64 kp)).heap[R7]? = some (.cells (stC Y0 Y1 Y2 Y3 ps.length f0 ms.length f1 ds.length f2 ls.length f3 kn true ck bo ba lb gd kp) 38) := h70
      clear h70 kk hC7 hF7
      generalize (w6b.setCell ⟨R7, 11, none⟩ (.int .i64 kp)) = w6c at KB b2 b3 H6 H7 Lp Os CU ⊢
      have h7 : ∀ o, w6c.cell? ⟨R7, o, none⟩ = (stC Y0 Y1 Y2 Y3 ps.length f0 ms.length f1 ds.length f2 ls.length f3 kn true ck bo ba lb gd kp)[o]? := fun o => cell_of_row _ _ o _ _ _ H7
      go_wp2_with fail
      refine (l1Below_any g (kp + 1) w6c CU (by omega) (by omega)).mono ?_
      rintro e w6d ⟨kg, rfl, -, -, CU4, hk⟩
      obtain ⟨gcs, hgc⟩ := CU.cells
      replace Lp := Lp.keeps hk hgc (by decide)
      replace Os := Os.keepsT hk hgc (by decide)
      replace b2 := (hk.block _ (Array.getElem?_eq_some_iff.1 b2).1 (by show ¬ w.heap.size = g; omega)).trans b2
      replace b3 := (hk.block _ (Array.getElem?_eq_some_iff.1 b3).1 (by show ¬ w.heap.size + 1 = g; omega)).trans b3
      replace H6 := (hk.block _ (Array.getElem?_eq_some_iff.1 H6).1 (by show ¬ R6 = g; omega)).trans H6
      replace H7 := (hk.block _ (Array.getElem?_eq_some_iff.1 H7).1 (by show ¬ R7 = g; omega)).trans H7
      replace KB := KB.trans (hk.below (B := w.heap.size) KB.size (by rintro b hb rfl; omega))
      clear hk CU hgc
      have CU := CU4
      clear CU4
      clear h7
      have hC7 : ∀ o, w6d.cell? ⟨R7, o, none⟩ = (stC Y0 Y1 Y2 Y3 ps.length f0 ms.length f1 ds.length f2 ls.length f3 kn true ck bo ba lb gd kp)[o]? := fun o => cell_of_row _ _ o _ _ _ H7
      have hF7 : ∀ o, w6d.frozen? ⟨R7, o, none⟩ = false := fun o => frozen_of_row _ _ _ _ _ H7
      go_upto_region 9 with fail
      have h70 := heap_setCell_same w6d R7 10 _ _ (.int .i64 kg) H7
      have kk : Keeps (· = R7) w6d (w6d.setCell ⟨R7, 10, none⟩ (.int .i64 kg)) := Keeps.set (S := (· = R7)) (Keeps.refl _ _) rfl _
      replace Lp := Lp.keeps kk H7 (by decide)
      replace Os := (Os.keepsT kk H7 (by decide)).nums kn true ck bo ba lb kg kp
      replace b2 := (kk.block _ (Array.getElem?_eq_some_iff.1 b2).1 (by show ¬ w.heap.size = R7; omega)).trans b2
      replace b3 := (kk.block _ (Array.getElem?_eq_some_iff.1 b3).1 (by show ¬ w.heap.size + 1 = R7; omega)).trans b3
      replace H6 := (kk.block _ (Array.getElem?_eq_some_iff.1 H6).1 (by show ¬ R6 = R7; omega)).trans H6
      replace KB := KB.trans (kk.below (B := w.heap.size) KB.size (by rintro b hb rfl; omega))
      replace CU := CU.keeps kk (fun b hb e => by omega)
      replace H7 : (w6d.setCell ⟨R7, 10, none⟩ (.int .i64 kg)).heap[R7]? = some (.cells (stC Y0 Y1 Y2 Y3 ps.length f0 ms.length f1 ds.length f2 ls.length f3 kn true ck bo ba lb kg kp) 38) := h70
      clear h70 kk hC7 hF7
      generalize (w6d.setCell ⟨R7, 10, none⟩ (.int .i64 kg)) = w6e at KB b2 b3 H6 H7 Lp Os CU ⊢
      refine wp_region_noPanic ?_
      refine wp_region_held_drew (S := fun W => (∀ o, W.cell? ⟨R6, o, none⟩ = (planC Q0 Q1 Q2 Q3 d.n0 e0 d.n1 e1 d.n2 e2 d.n3 e3 d.l d.p d.t)[o]?) ∧ (∀ o, W.cell? ⟨R7, o, none⟩ = (stC Y0 Y1 Y2 Y3 ps.length f0 ms.length f1 ds.length f2 ls.length f3 kn true ck bo ba lb kg kp)[o]?)) (by kernel_rfl) (by rw [← heap_drew w6e] at H6 H7; exact ⟨fun o => cell_of_row _ _ o _ _ _ H6, fun o => cell_of_row _ _ o _ _ _ H7⟩) (fun _ => ?_)
      rw [← heap_drew w6e] at b2 b3 H6 H7
      replace Lp := Lp.below (Below.refl _ _).drew
      replace Os := Os.below (Below.refl _ _).drew
      replace KB := KB.drew
      replace CU := CU.below (Below.refl _ _).drew
      generalize w6e.drew = v0 at KB b2 b3 H6 H7 Lp Os CU ⊢
      refine wpAnyH_take (i := 0) (v := ?_) rfl (by kernel_rfl) (by kernel_rfl) (by kernel_rfl) (fun _ _ _ h => h) (Or.inl ⟨by rfl, ?_⟩) ⟨fun o => cell_of_row _ _ o _ _ _ H6, fun o => cell_of_row _ _ o _ _ _ H7⟩ ?_
      rotate_left 1
      · intro w hSw
        obtain ⟨hs6, hs7⟩ := hSw
        go_simp
        try with_reducible rfl
      change wpAnyH _ _ _ _ _ _ _ (Act.put _ (some 32) _) _
      dsimp only [Act.put]
      refine wpAnyH_take (i := 1) (v := ?_) rfl (by kernel_rfl) (by kernel_rfl) (by kernel_rfl) (fun _ _ _ h => h) (Or.inl ⟨by rfl, ?_⟩) ⟨fun o => cell_of_row _ _ o _ _ _ H6, fun o => cell_of_row _ _ o _ _ _ H7⟩ ?_
      rotate_left 1
      · intro w hSw
        obtain ⟨hs6, hs7⟩ := hSw
        go_simp
        try with_reducible rfl
      change wpAnyH _ _ _ _ _ _ _ (Act.put _ (some 33) _) _
      dsimp only [Act.put]
      refine wpAnyH_take (i := 2) (v := ?_) rfl (by kernel_rfl) (by kernel_rfl) (by kernel_rfl) (fun _ _ _ h => h) (Or.inl ⟨by rfl, ?_⟩) ⟨fun o => cell_of_row _ _ o _ _ _ H6, fun o => cell_of_row _ _ o _ _ _ H7⟩ ?_
      rotate_left 1
      · intro w hSw
        obtain ⟨hs6, hs7⟩ := hSw
        go_simp
        try with_reducible rfl
      change wpAnyH _ _ _ _ _ _ _ (Act.put _ (some 34) _) _
      dsimp only [Act.put]
      refine wpAnyH_ready (rs := [3]) (by kernel_rfl) (by simp) ?_
      refine AllReadyH.cons rfl (fun K' hK => ?_) AllReadyH.nil
      go_simp
      go_at_call 60
      refine (l1Once_any g 3 v0 CU (by omega) (by omega)).mono ?_
      rintro e v1 ⟨kb, rfl, CU9, hk⟩
      obtain ⟨gcs, hgc⟩ := CU.cells
      replace Lp := Lp.keeps hk hgc (by decide)
      replace Os := Os.keepsT hk hgc (by decide)
      replace b2 := (hk.block _ (Array.getElem?_eq_some_iff.1 b2).1 (by show ¬ w.heap.size = g; omega)).trans b2
      replace b3 := (hk.block _ (Array.getElem?_eq_some_iff.1 b3).1 (by show ¬ w.heap.size + 1 = g; omega)).trans b3
      replace H6 := (hk.block _ (Array.getElem?_eq_some_iff.1 H6).1 (by show ¬ R6 = g; omega)).trans H6
      replace H7 := (hk.block _ (Array.getElem?_eq_some_iff.1 H7).1 (by show ¬ R7 = g; omega)).trans H7
      replace KB := KB.trans (hk.below (B := w.heap.size) KB.size (by rintro b hb rfl; omega))
      clear hk CU CU9 hgc
      go_wp2_with fail
      refine hK.out _ _ ⟨fun o => cell_of_row _ _ o _ _ _ H6, fun o => cell_of_row _ _ o _ _ _ H7⟩ (fun _ => ?_)
      clear hK K'
      try (change wpAnyH _ _ _ _ _ _ _ (Act.put _ (some 35) _) _; dsimp only [Act.put])
      refine wpAnyH_take (i := 4) (v := ?_) rfl (by kernel_rfl) (by kernel_rfl) (by kernel_rfl) (fun _ _ _ h => h) (Or.inl ⟨by rfl, ?_⟩) ⟨fun o => cell_of_row _ _ o _ _ _ H6, fun o => cell_of_row _ _ o _ _ _ H7⟩ ?_
      rotate_left 1
      · intro w hSw
        obtain ⟨hs6, hs7⟩ := hSw
        go_simp
        try with_reducible rfl
      change wpAnyH _ _ _ _ _ _ _ (Act.put _ (some 36) _) _
      dsimp only [Act.put]
      refine wpAnyH_ready (rs := [5]) (by kernel_rfl) (by simp) ?_
      refine AllReadyH.cons rfl (fun K' hK => ?_) AllReadyH.nil
      rw [if_pos (by rfl)]
      refine wp_store_row 29 (.tmp 2) (.tmp 32) rfl (w.heap.size) (planC Q0 Q1 Q2 Q3 d.n0 e0 d.n1 e1 d.n2 e2 d.n3 e3 d.l d.p d.t) rfl rfl 29 _ b2 HIP.out rfl (by simp [Value.oneCell']) ?_
      have kk := keepsRow_ v1 (w.heap.size) (planC Q0 Q1 Q2 Q3 d.n0 e0 d.n1 e1 d.n2 e2 d.n3 e3 d.l d.p d.t)
      replace KB := belowRow_ KB (B := w.heap.size) (by omega) (planC Q0 Q1 Q2 Q3 d.n0 e0 d.n1 e1 d.n2 e2 d.n3 e3 d.l d.p d.t)
      replace b3 := (setRow_other _ (w.heap.size) (w.heap.size + 1) (planC Q0 Q1 Q2 Q3 d.n0 e0 d.n1 e1 d.n2 e2 d.n3 e3 d.l d.p d.t) (by omega)).trans b3
      replace H6 := (setRow_other _ (w.heap.size) (R6) (planC Q0 Q1 Q2 Q3 d.n0 e0 d.n1 e1 d.n2 e2 d.n3 e3 d.l d.p d.t) (by omega)).trans H6
      replace H7 := (setRow_other _ (w.heap.size) (R7) (planC Q0 Q1 Q2 Q3 d.n0 e0 d.n1 e1 d.n2 e2 d.n3 e3 d.l d.p d.t) (by omega)).trans H7
      replace Lp := Lp.keeps kk b2 (by decide)
      replace Os := Os.keepsT kk b2 (by decide)
      replace b2 := setRow_heap _ _ _ (planC Q0 Q1 Q2 Q3 d.n0 e0 d.n1 e1 d.n2 e2 d.n3 e3 d.l d.p d.t) _ _ b2
      clear kk
      generalize v1.setRow (w.heap.size) (planC Q0 Q1 Q2 Q3 d.n0 e0 d.n1 e1 d.n2 e2 d.n3 e3 d.l d.p d.t) = v2 at KB b2 b3 H6 H7 Lp Os ⊢
      refine hK.out _ _ ⟨fun o => cell_of_row _ _ o _ _ _ H6, fun o => cell_of_row _ _ o _ _ _ H7⟩ (fun _ => ?_)
      clear hK K'
      try (change wpAnyH _ _ _ _ _ _ _ (Act.put _ none _) _; dsimp only [Act.put])
      refine wpAnyH_ready (rs := [6]) (by kernel_rfl) (by simp) ?_
      refine AllReadyH.cons rfl (fun K' hK => ?_) AllReadyH.nil
      rw [if_pos (by rfl)]
      refine wp_store_row 38 (.tmp 3) (.tmp 33) rfl (w.heap.size + 1) (stC Y0 Y1 Y2 Y3 ps.length f0 ms.length f1 ds.length f2 ls.length f3 kn true ck bo ba lb kg kp) rfl rfl 38 _ b3 HIS.out rfl (by simp [Value.oneCell']) ?_
      have kk := keepsRow_ v2 (w.heap.size + 1) (stC Y0 Y1 Y2 Y3 ps.length f0 ms.length f1 ds.length f2 ls.length f3 kn true ck bo ba lb kg kp)
      replace KB := belowRow_ KB (B := w.heap.size + 1) (by omega) (stC Y0 Y1 Y2 Y3 ps.length f0 ms.length f1 ds.length f2 ls.length f3 kn true ck bo ba lb kg kp)
      replace b2 := (setRow_other _ (w.heap.size + 1) (w.heap.size) (stC Y0 Y1 Y2 Y3 ps.length f0 ms.length f1 ds.length f2 ls.length f3 kn true ck bo ba lb kg kp) (by omega)).trans b2
      replace H6 := (setRow_other _ (w.heap.size + 1) (R6) (stC Y0 Y1 Y2 Y3 ps.length f0 ms.length f1 ds.length f2 ls.length f3 kn true ck bo ba lb kg kp) (by omega)).trans H6
      replace H7 := (setRow_other _ (w.heap.size + 1) (R7) (stC Y0 Y1 Y2 Y3 ps.length f0 ms.length f1 ds.length f2 ls.length f3 kn true ck bo ba lb kg kp) (by omega)).trans H7
      replace Lp := Lp.keeps kk b3 (by decide)
      replace Os := Os.keepsT kk b3 (by decide)
      replace b3 := setRow_heap _ _ _ (stC Y0 Y1 Y2 Y3 ps.length f0 ms.length f1 ds.length f2 ls.length f3 kn true ck bo ba lb kg kp) _ _ b3
      clear kk
      generalize v2.setRow (w.heap.size + 1) (stC Y0 Y1 Y2 Y3 ps.length f0 ms.length f1 ds.length f2 ls.length f3 kn true ck bo ba lb kg kp) = v3 at KB b2 b3 H6 H7 Lp Os ⊢
      refine hK.out _ _ ⟨fun o => cell_of_row _ _ o _ _ _ H6, fun o => cell_of_row _ _ o _ _ _ H7⟩ (fun _ => ?_)
      clear hK K'
      try (change wpAnyH _ _ _ _ _ _ _ (Act.put _ none _) _; dsimp only [Act.put])
      refine wpAnyH_ready (rs := [7]) (by kernel_rfl) (by simp) ?_
      refine AllReadyH.cons rfl (fun K' hK => ?_) AllReadyH.nil
      go_simp
      refine hK.out _ _ ⟨fun o => cell_of_row _ _ o _ _ _ H6, fun o => cell_of_row _ _ o _ _ _ H7⟩ (fun _ => ?_)
      clear hK K'
      try (change wpAnyH _ _ _ _ _ _ _ (Act.put _ (some 4) _) _; dsimp only [Act.put])
      refine wpAnyH_done (by kernel_rfl) ?_ _
      refine NoPanic.normal ?_
      go_wp2_with fail
      exact bodyPost_ret (v := .tuple #[.agg (planC Q0 Q1 Q2 Q3 d.n0 e0 d.n1 e1 d.n2 e2 d.n3 e3 d.l d.p d.t), .agg (stC Y0 Y1 Y2 Y3 ps.length f0 ms.length f1 ds.length f2 ls.length f3 kn true ck bo ba lb kg kp), .bool (!kb)]) (results_cells_num Tryz.results36 _ _ _ _ _ _ _ _ _ _ _ _ _ rfl rfl rfl b2 b3 Tryz.underlying29 rfl HIP.out Tryz.underlying38 rfl HIS.out) rfl ⟨_, _, _, _, d, _, ⟨kn, true, ck, bo, ba, lb, ps, ms, ds, ls, kg, kp⟩, !kb, rfl, Lp, Os, hd, ⟨hs.s0, hs.s1, hs.s2, hs.s3⟩, KB⟩
end Go.Proofs.YtdkmhaghnfhajaaGreat
/- Oa -/
set_option linter.unusedVariables false
namespace Go.Proofs.YtdkmhaghnfhajaaGreat
open Go.RowKit

/-- A box that holds a list of records, the call's own. -/
def BoxG (w : World) (B g : Nat) (v : Value) : Prop := w.ownsRow B 72 1 (.slice (some ⟨g, 0, none⟩) 1 1) 1 [v]
theorem BoxG.new {W : World} {B g : Nat} {v : Value} (hg : W.heap.size = g) (hB : B ≤ W.heap.size) : BoxG (W.alloc (.cells #[v] 72)) B g v := by
  subst hg
  exact own_of_heap (cur := #[v]) (heap_alloc_new W _) (by simp) (by simp) hB (by unfold maxLen; decide)
theorem BoxG.C {w : World} {B g : Nat} {v : Value} (h : BoxG w B g v) : ∀ o, w.cell? ⟨g, o, none⟩ = (#[v] : Array Value)[o]? := by
  intro o
  obtain ⟨hl, ⟨hv, _⟩ | ⟨g', cap, cur, hv, hb, hh, hnc, hcm, hsz, ht⟩⟩ := id h
  · cases hv
  · injection hv with h1 h2 h3
    injection h1 with h1
    injection h1 with h1 _ _
    subst h1 h3
    by_cases ho : o < 1
    · rw [show w.cell? ⟨g, o, none⟩ = [v][o]? from World.ownsRow.cellAt h o (by omega)]
      simp
    · rw [cell_of_row _ _ _ _ _ _ hh, Array.getElem?_eq_none (by omega), Array.getElem?_eq_none (by simp; omega)]
theorem BoxG.frozen {w : World} {B g : Nat} {v : Value} (h : BoxG w B g v) (o : Nat) : w.frozen? ⟨g, o, none⟩ = false := World.ownsRow.frozenAt h o
theorem BoxG.lt {w : World} {B g : Nat} {v : Value} (h : BoxG w B g v) : B ≤ g ∧ g < w.heap.size := World.ownsRow.lt h g rfl
theorem BoxG.go {w w' : World} {B g : Nat} {v : Value} (h : BoxG w B g v) (hb : Below w.heap.size w w') : BoxG w' B g v := ownsRow_below h hb
theorem keeps_setG (w : World) (g o : Nat) (u : Value) : Keeps (· = g) w (w.setCell ⟨g, o, none⟩ u) := (Keeps.refl (· = g) w).set rfl u

/-- Rows but of lists of records and of records are as they were. -/
def KRowG (W W' : World) : Prop := ∀ (B e k n : Nat) (u : Value) (xs : List Value), e ≠ 72 → e ≠ 60 → W.ownsRow B e k u n xs → W'.ownsRow B e k u n xs
theorem KRowG.refl (W : World) : KRowG W W := fun _ _ _ _ _ _ _ _ h => h
theorem KRowG.trans {a b c : World} (h : KRowG a b) (h' : KRowG b c) : KRowG a c := fun B e k n u xs h1 h2 x => h' B e k n u xs h1 h2 (h B e k n u xs h1 h2 x)
theorem KRowG.step {a b c : World} (h : KRowG a b) (hb : Below b.heap.size b c) : KRowG a c := fun B e k n u xs h1 h2 x => ownsRow_below (h B e k n u xs h1 h2 x) hb
theorem KRowG.row {a b c : World} {B e k n : Nat} {v : Value} {xs : List Value} (h : KRowG a b) (O : b.ownsRow B e k v n xs) (he : e = 72 ∨ e = 60) (kp : Keeps (fun q => v.ownBlock = some q) b c) : KRowG a c := fun B' e' k' n' u ys h1 h2 x =>
  ownsRow_keeps (h B' e' k' n' u ys h1 h2 x) kp fun r hr hv => by
    have := row_type (h B' e' k' n' u ys h1 h2 x) O hr hv
    rcases he with rfl | rfl
    · exact h1 this
    · exact h2 this

/-- What has been told so far, in its box. -/
def Gv (w0 W : World) (g : Nat) (l : List RecD) : Prop := Below w0.heap.size w0 W ∧ ∃ v, BoxG W w0.heap.size g v ∧ OR W w0.heap.size v l
theorem Gv.step {w0 W W' : World} {g : Nat} {l : List RecD} (h : Gv w0 W g l) (hb : Below W.heap.size W W') : Gv w0 W' g l := by
  obtain ⟨K, v, X, O⟩ := h
  exact ⟨K.trans (hb.mono K.size), v, X.go hb, O.below hb⟩
def GvP (w0 W : World) (g : Nat) (l : List RecD) (e : Ending) (w' : World) : Prop := e = .returned (.tuple #[]) ∧ Gv w0 w' g l ∧ KRowG W w'

set_option maxRecDepth 100000 in
set_option maxHeartbeats 8000000 in
theorem giveUp_any (w0 W : World) (g : Nat) (l : List RecD) (k a b : Int) (h : Gv w0 W g l) (hl : l.length ≤ 100) :
    Calls Tryz.prog 101 #[.int .i64 k, .int .i64 a, .int .i64 b, .pointer (some ⟨g, 0, none⟩)] W (GvP w0 W g (l ++ [⟨k, a, b⟩])) := by
  obtain ⟨K, v, X, O⟩ := h
  obtain ⟨A, c, rfl, -, -⟩ := O.slv
  have KR := KRowG.refl W
  have hC := X.C
  go_enter Tryz.func101, Tryz.ntmps101
  go_wp2_with (at_builtin; refine append_rec k a b _ _ rfl rfl rfl O rfl rfl (by omega) K.size ?_; rintro v2 w2 O2 hb2 kp; obtain ⟨A2, c2, rfl, -, -⟩ := O2.slv; rw [show (l ++ [(⟨k, a, b⟩ : RecD)]).length = l.length + 1 from by simp] at O2; have X2 : BoxG w2 w0.heap.size g (.slice A l.length c) := ownsRow_keeps X kp (fun r hr e => absurd (row_type X O hr e) (by decide)); have hC2 := X2.C; have hF2 := X2.frozen)
  replace KR := KR.row O (.inr rfl) kp
  have K2 := K.trans (hb2.mono (Nat.le_refl _))
  have kp2 : Keeps (fun b => (Value.slice (some ⟨g, 0, none⟩) 1 1).ownBlock = some b) w2 (w2.setCell ⟨g, 0, none⟩ (.slice A2 (l.length + 1) c2)) := (keeps_setG w2 g 0 _).mono fun b e => by rw [e]; rfl
  have K3 := K2.setCell (p := ⟨g, 0, none⟩) X2.lt.1 (.slice A2 (l.length + 1) c2)
  have KR3 := KR.row X2 (.inl rfl) kp2
  have O3 : OR _ _ _ _ := ownsRow_keeps O2 kp2 fun r hr e => absurd (row_type O2 X2 hr e) (by decide)
  have X3 : BoxG _ _ _ _ := (World.ownsRow.stored X2 0 (.slice A2 (l.length + 1) c2)).1
  refine bodyPost_ret (v := .tuple #[]) (by simp [results, Tryz.results101, go_sem]) rfl ?_
  exact ⟨rfl, ⟨K3, _, X3, O3⟩, KR3⟩
end Go.Proofs.YtdkmhaghnfhajaaGreat
/- Ob -/
set_option linter.unusedVariables false
namespace Go.Proofs.YtdkmhaghnfhajaaGreat
open Go.RowKit

theorem stAt_ {w0 W : World} {v : Value} {s : StD} (h : IsSt w0 w0.heap.size v s) (K : Below w0.heap.size w0 W) : IsSt W W.heap.size v s := (h.below K (Nat.le_refl _)).more K.size
theorem stPl {w0 W : World} {v : Value} {d : PlanD} (h : IsPlan w0 w0.heap.size v d) (K : Below w0.heap.size w0 W) : IsPlan W W.heap.size v d := (h.below K (Nat.le_refl _)).more K.size
/-- What is given up where a machine boots. -/
def givenL (d : PlanD) (s : StD) : List RecD := recsOf d.n0 (failG s) (fun i x => ⟨2, i, x⟩) ++ (recsOf d.n2 (looseG s) mntRec ++ (recsOf d.n3 (emptyG s) (fun i _ => ⟨5, i, 0⟩) ++ s.lks.map (fun x => (⟨7, x, 0⟩ : RecD))))
theorem bootL_given {d : PlanD} {s : StD} {id : Int} : bootL d s id = [⟨10, id, 0⟩] ++ (givenL d s ++ (⟨12, 0, 0⟩ :: (if s.ph = 8 then [] else [⟨1, 6, 0⟩]))) := by
  simp [bootL, givenL, List.append_assoc]
theorem givenL_le {d : PlanD} {s : StD} (h : StOk d s) : (givenL d s).length ≤ 44 := by
  have h0 := size_ok h.plan
  have h1 := recsOf_le d.n0 (failG s) (fun i x => (⟨2, i, x⟩ : RecD))
  have h2 := recsOf_le d.n2 (looseG s) mntRec
  have h3 := recsOf_le d.n3 (emptyG s) (fun i _ => (⟨5, i, 0⟩ : RecD))
  have h4 : s.lks.length ≤ 8 := by have := rise_len (a := 0) h.rise h.lks (by omega); omega
  simp only [givenL, List.length_append, List.length_map]
  omega
theorem live_recs (s : StD) : ∀ n, (picks n (liveP s)).map (fun x => (⟨2, x, 5⟩ : RecD)) = recsOf n (failG s) (fun i x => ⟨2, i, x⟩)
  | 0 => rfl
  | n + 1 => by
    cases h : liveP s n
    · rw [picks_no h, recsOf_none (g := failG s) (show (if liveP s n then some (5 : Int) else none) = none from by rw [h]; rfl)]
      exact live_recs s n
    · rw [picks_yes h, recsOf_some (g := failG s) (x := 5) (show (if liveP s n then some (5 : Int) else none) = some 5 from by rw [h]; rfl), List.map_append, live_recs s n]
      rfl

set_option maxRecDepth 100000 in
set_option maxHeartbeats 16000000 in
theorem givenUp_any (sv : Value) (d : PlanD) (s : StD) (w : World) (hs : IsSt w w.heap.size sv s) (hok : StOk d s) :
    Calls Tryz.prog 69 #[sv] w fun e w' => ∃ v, e = .returned v ∧ OR w' w.heap.size v (givenL d s) ∧ Below w.heap.size w w' := by
  have HS := Lib.hid hs
  have OK := Lib.hid hok
  obtain ⟨⟨A0, A1, A2, A3, c0, c1, c2, c3, rfl, t0, t1, t2, t3⟩, f0, f1, f2, f3⟩ := hs
  have R1 := Lib.hid t1
  have R2 := Lib.hid t2
  have R3 := Lib.hid t3
  unfold maxLen at f0 f1 f2 f3
  have HNP := Lib.hid hok.np
  have HNM := Lib.hid hok.nm
  have HND := Lib.hid hok.nd
  have HSZ := Lib.hid (size_ok hok.plan)
  have HLK : Hid (s.lks.length ≤ 8) := Lib.hid (by have := rise_len (a := 0) hok.rise hok.lks (by omega); omega)
  have HLV : Hid ((liveL s).map (fun x => (⟨2, x, 5⟩ : RecD)) = recsOf d.n0 (failG s) (fun i x => ⟨2, i, x⟩)) := Lib.hid (by rw [← hok.np]; exact live_recs s _)
  have HLL : Hid ((liveL s).length ≤ 12) := Lib.hid (by have := liveL_le s; have := hok.np; have := size_ok hok.plan; omega)
  have X0 := Own.box w (stC A0 A1 A2 A3 s.pods.length c0 s.mnts.length c1 s.devs.length c2 s.lks.length c3 s.ph s.co s.ck s.bo s.ba s.lb s.gd s.pr) 38
  clear t0 t1 t2 t3 hok
  have hC := X0.C
  go_enter Tryz.func69, Tryz.ntmps69
  go_upto_region 3 with fail
  have HG0 : Hid (Gv (w.alloc (.cells (stC A0 A1 A2 A3 s.pods.length c0 s.mnts.length c1 s.devs.length c2 s.lks.length c3 s.ph s.co s.ck s.bo s.ba s.lb s.gd s.pr) 38)) (((w.alloc (.cells (stC A0 A1 A2 A3 s.pods.length c0 s.mnts.length c1 s.devs.length c2 s.lks.length c3 s.ph s.co s.ck s.bo s.ba s.lb s.gd s.pr) 38)).alloc (.cells #[] 60)).alloc (.cells #[.slice (some ⟨w.heap.size + 1, 0, none⟩) 0 0] 72)) (w.heap.size + 1 + 1) []) := by
    have hz : (w.alloc (.cells (stC A0 A1 A2 A3 s.pods.length c0 s.mnts.length c1 s.devs.length c2 s.lks.length c3 s.ph s.co s.ck s.bo s.ba s.lb s.gd s.pr) 38)).heap.size = w.heap.size + 1 := by simp
    have O : OR ((w.alloc (.cells (stC A0 A1 A2 A3 s.pods.length c0 s.mnts.length c1 s.devs.length c2 s.lks.length c3 s.ph s.co s.ck s.bo s.ba s.lb s.gd s.pr) 38)).alloc (.cells #[] 60)) (w.heap.size + 1) (.slice (some ⟨w.heap.size + 1, 0, none⟩) 0 0) [] := by
      have := OR.empty (w := w.alloc (.cells (stC A0 A1 A2 A3 s.pods.length c0 s.mnts.length c1 s.devs.length c2 s.lks.length c3 s.ph s.co s.ck s.bo s.ba s.lb s.gd s.pr) 38)) (Nat.le_refl _)
      rw [hz] at this
      exact this
    have hb := (Below.refl ((w.alloc (.cells (stC A0 A1 A2 A3 s.pods.length c0 s.mnts.length c1 s.devs.length c2 s.lks.length c3 s.ph s.co s.ck s.bo s.ba s.lb s.gd s.pr) 38)).alloc (.cells #[] 60)).heap.size ((w.alloc (.cells (stC A0 A1 A2 A3 s.pods.length c0 s.mnts.length c1 s.devs.length c2 s.lks.length c3 s.ph s.co s.ck s.bo s.ba s.lb s.gd s.pr) 38)).alloc (.cells #[] 60))).alloc (Nat.le_refl _) (.cells #[.slice (some ⟨w.heap.size + 1, 0, none⟩) 0 0] 72)
    refine Lib.hid ⟨((Below.refl _ _).alloc (Nat.le_refl _) _).alloc (by simp) _, .slice (some ⟨w.heap.size + 1, 0, none⟩) 0 0, BoxG.new (by simp) (by simp), ?_⟩
    rw [hz]
    exact O.below hb
  clear hC
  generalize ((w.alloc (.cells (stC A0 A1 A2 A3 s.pods.length c0 s.mnts.length c1 s.devs.length c2 s.lks.length c3 s.ph s.co s.ck s.bo s.ba s.lb s.gd s.pr) 38)).alloc (.cells #[] 60)).alloc (.cells #[.slice (some ⟨w.heap.size + 1, 0, none⟩) 0 0] 72) = wg at HG0 ⊢
  generalize w.alloc (.cells (stC A0 A1 A2 A3 s.pods.length c0 s.mnts.length c1 s.devs.length c2 s.lks.length c3 s.ph s.co s.ck s.bo s.ba s.lb s.gd s.pr) 38) = w1 at X0 HG0
  generalize w.heap.size + 1 + 1 = g at HG0 ⊢
  skip
  skip
  have HZ := Lib.hid X0
  clear X0
  have hC := (HZ.out.step HG0.out.1).C
  go_wp2_with fail
  refine (implLiveIn_any _ s _ (stAt_ HS.out (HZ.out.step HG0.out.1).K) (by have := HNP.out; have := HSZ.out; omega)).mono ?_
  rintro e w2 ⟨vL, rfl, OL, hb⟩
  have HG1 := Lib.hid (HG0.out.step hb)
  obtain ⟨AL, cL, rfl, -, -⟩ := open_rowR OL
  have HL := Lib.hid OL
  clear OL hb hC HG0
  generalize liveL s = ll at HL HLV HLL ⊢
  have hll : ll.length ≤ 12 := HLL.out
  have hC := (HZ.out.step HG1.out.1).C
  go_wp2_with fail
  go_loopw [18] (fun j wr => ∃ k : Nat, k ≤ ll.length ∧ j = .int .i64 k ∧ Hid (Gv w1 wr g ((ll.take k).map (fun x => (⟨2, x, 5⟩ : RecD)))) ∧ Hid (KRowG w2 wr)) (fun j _ => ll.length - (intOf j).toNat)
  case atStart => exact ⟨0, Nat.zero_le _, rfl, Lib.hid (by simpa using HG1.out), Lib.hid (KRowG.refl w2)⟩
  case round =>
    clear HG1 hC
    obtain ⟨k, hk, rfl, HG1, HK⟩ := hrel
    by_cases hlt : k < ll.length
    · obtain ⟨x, hx⟩ : ∃ x, ll[k]? = some x := ⟨_, List.getElem?_eq_getElem hlt⟩
      have HX := Lib.hid hx
      obtain ⟨bl, ol, rfl, hbl, q0⟩ := list_at (HK.out _ _ 1 _ _ _ (by decide) (by decide) HL.out) hx
      clear hx
      have HN1 : Hid ((ll.take (k + 1)).map (fun x => (⟨2, x, 5⟩ : RecD)) = (ll.take k).map (fun x => (⟨2, x, 5⟩ : RecD)) ++ [⟨2, x, 5⟩]) := Lib.hid (by rw [take_at HX.out, List.map_append]; rfl)
      have HLE : Hid (((ll.take k).map (fun x => (⟨2, x, 5⟩ : RecD))).length ≤ 12) := Lib.hid (by rw [List.length_map, List.length_take]; omega)
      generalize (ll.take k).map (fun x => (⟨2, x, 5⟩ : RecD)) = done at HN1 HLE HG1
      go_wp2_with fail
      refine (giveUp_any w1 _ g _ 2 x 5 HG1.out (by have := HLE.out; omega)).mono ?_
      rintro e w3 ⟨rfl, hG, hK⟩
      have HG2 := Lib.hid hG
      have HK2 := Lib.hid (HK.out.trans hK)
      clear hG hK q0 HG1 HK
      go_wp2
      exact ⟨⟨k + 1, by omega, by go_num, Lib.hid (by rw [HN1.out]; exact HG2.out), HK2⟩, by simp [intOf]; omega⟩
    · obtain rfl : k = ll.length := by omega
      rw [List.take_length, HLV.out] at HG1
      have HL1 : Hid ((recsOf d.n0 (failG s) (fun i x => (⟨2, i, x⟩ : RecD))).length ≤ 12) := Lib.hid (by have := HSZ.out; have := recsOf_le d.n0 (failG s) (fun i x => (⟨2, i, x⟩ : RecD)); omega)
      have HA1 : Hid (givenL d s = recsOf d.n0 (failG s) (fun i x => ⟨2, i, x⟩) ++ (recsOf d.n2 (looseG s) mntRec ++ (recsOf d.n3 (emptyG s) (fun i _ => ⟨5, i, 0⟩) ++ s.lks.map (fun x => (⟨7, x, 0⟩ : RecD))))) := Lib.hid rfl
      generalize recsOf d.n0 (failG s) (fun i x => (⟨2, i, x⟩ : RecD)) = b1_ at HA1 HL1 HG1
      clear HL HK HLV HLL hll
      have hC := (HZ.out.step HG1.out.1).C
      go_wp2_with fail
      go_loopw [29] (fun j wr => ∃ k : Nat, k ≤ s.mnts.length ∧ j = .int .i64 k ∧ Hid (Gv w1 wr g (b1_ ++ recsOf k (looseG s) mntRec))) (fun j _ => s.mnts.length - (intOf j).toNat)
      case atStart => exact ⟨0, Nat.zero_le _, rfl, Lib.hid (by rw [recsOf_zero, List.append_nil]; exact HG1.out)⟩
      case round =>
        clear HG1 hC
        obtain ⟨k, hk, rfl, HG1⟩ := hrel
        by_cases hlt : k < s.mnts.length
        · obtain ⟨b', off', rfl, hb', hc⟩ := (R1.out.below (HZ.out.step HG1.out.1).K (Nat.le_refl _)).cell hlt
          have p0 := (hc 0 (by decide)).trans (mntCs_at s.mnts (i := k) hlt).1
          have p1 := (hc 1 (by decide)).trans (mntCs_at s.mnts (i := k) hlt).2
          rw [Nat.add_zero] at p0
          clear hc
          have HN1 : Hid (b1_ ++ recsOf (k + 1) (looseG s) mntRec = (b1_ ++ recsOf k (looseG s) mntRec) ++ (if (mntA s.mnts k).1 then [⟨4, k, 0⟩] else [])) := Lib.hid (by
            rw [recsOf_next, List.append_assoc]
            have : looseG s k = if (mntA s.mnts k).1 then some (false, 0) else none := rfl
            rw [this]
            cases (mntA s.mnts k).1 <;> rfl)
          generalize mntA s.mnts k = q at p0 p1 HN1
          obtain ⟨x, y⟩ := q
          dsimp only at p0 p1 HN1
          have HB := Lib.hid (HG1.out.step ((Below.refl _ _).alloc (Nat.le_refl _) (.cells #[.bool x, .int .i64 y] 46)))
          have HLE : Hid ((b1_ ++ recsOf k (looseG s) mntRec).length ≤ 25) := Lib.hid (by have := recsOf_le k (looseG s) (mntRec); have := HL1.out; have := HNM.out; have := HSZ.out; rw [List.length_append]; omega)
          generalize hR : b1_ ++ recsOf k (looseG s) mntRec = done at HN1 HLE HG1 HB
          clear hR
          cases x
          · go_wp2
            exact ⟨⟨k + 1, by omega, by go_num, Lib.hid (by rw [HN1.out]; simpa using HB.out)⟩, by simp [intOf]; omega⟩
          · go_wp2_with fail
            refine (giveUp_any w1 _ g _ 4 k 0 HB.out (by have := HLE.out; omega)).mono ?_
            rintro e w3 ⟨rfl, hG, -⟩
            have HG2 := Lib.hid hG
            clear hG HG1 HB
            go_wp2
            exact ⟨⟨k + 1, by omega, by go_num, Lib.hid (by rw [HN1.out]; exact HG2.out)⟩, by simp [intOf]; omega⟩
        · obtain ⟨rfl⟩ : d.n2 = k := by have := HNM.out; omega
          have HAQ : Hid (givenL d s = (b1_ ++ recsOf d.n2 (looseG s) mntRec) ++ (recsOf d.n3 (emptyG s) (fun i _ => ⟨5, i, 0⟩) ++ s.lks.map (fun x => (⟨7, x, 0⟩ : RecD)))) := Lib.hid (by rw [HA1.out, List.append_assoc])
          have HL2 : Hid ((b1_ ++ recsOf d.n2 (looseG s) mntRec).length ≤ 24) := Lib.hid (by have := HL1.out; have := HSZ.out; have := recsOf_le d.n2 (looseG s) (mntRec); rw [List.length_append]; omega)
          generalize hR : b1_ ++ recsOf d.n2 (looseG s) mntRec = b2_ at HAQ HL2 HG1
          clear hR HA1 HL1
          have HA1 := HAQ
          have HL1 := HL2
          clear HAQ HL2
          have hC := (HZ.out.step HG1.out.1).C
          go_wp2_with fail
          go_loopw [43] (fun j wr => ∃ k : Nat, k ≤ s.devs.length ∧ j = .int .i64 k ∧ Hid (Gv w1 wr g (b2_ ++ recsOf k (emptyG s) (fun i _ => ⟨5, i, 0⟩)))) (fun j _ => s.devs.length - (intOf j).toNat)
          case atStart => exact ⟨0, Nat.zero_le _, rfl, Lib.hid (by rw [recsOf_zero, List.append_nil]; exact HG1.out)⟩
          case round =>
            clear HG1 hC
            obtain ⟨k, hk, rfl, HG1⟩ := hrel
            by_cases hlt : k < s.devs.length
            · obtain ⟨b', off', rfl, hb', hc⟩ := (R2.out.below (HZ.out.step HG1.out.1).K (Nat.le_refl _)).cell hlt
              have p0 := (hc 0 (by decide)).trans (devCs_at s.devs (i := k * 1 + 0) (by omega))
              rw [Nat.add_zero, Nat.mul_one] at p0
              clear hc
              have HN1 : Hid (b2_ ++ recsOf (k + 1) (emptyG s) (fun i _ => ⟨5, i, 0⟩) = (b2_ ++ recsOf k (emptyG s) (fun i _ => ⟨5, i, 0⟩)) ++ (if devA s.devs k then [⟨5, k, 0⟩] else [])) := Lib.hid (by
                rw [recsOf_next, List.append_assoc]
                have : emptyG s k = if devA s.devs k then some () else none := rfl
                rw [this]
                cases devA s.devs k <;> rfl)
              generalize devA s.devs k = x at p0 HN1
              have HLE : Hid ((b2_ ++ recsOf k (emptyG s) (fun i _ => ⟨5, i, 0⟩)).length ≤ 37) := Lib.hid (by have := recsOf_le k (emptyG s) (fun (i : Nat) (_ : Unit) => (⟨5, i, 0⟩ : RecD)); have := HL1.out; have := HND.out; have := HSZ.out; rw [List.length_append]; omega)
              generalize hR : b2_ ++ recsOf k (emptyG s) (fun i _ => ⟨5, i, 0⟩) = done at HN1 HLE HG1
              clear hR
              cases x
              · go_wp2
                exact ⟨⟨k + 1, by omega, by go_num, Lib.hid (by rw [HN1.out]; simpa using HG1.out)⟩, by simp [intOf]; omega⟩
              · go_wp2_with fail
                refine (giveUp_any w1 _ g _ 5 k 0 HG1.out (by have := HLE.out; omega)).mono ?_
                rintro e w3 ⟨rfl, hG, -⟩
                have HG2 := Lib.hid hG
                clear hG HG1
                go_wp2
                exact ⟨⟨k + 1, by omega, by go_num, Lib.hid (by rw [HN1.out]; exact HG2.out)⟩, by simp [intOf]; omega⟩
            · obtain ⟨rfl⟩ : d.n3 = k := by have := HND.out; omega
              have HAQ : Hid (givenL d s = (b2_ ++ recsOf d.n3 (emptyG s) (fun i _ => ⟨5, i, 0⟩)) ++ (s.lks.map (fun x => (⟨7, x, 0⟩ : RecD)))) := Lib.hid (by rw [HA1.out, List.append_assoc])
              have HL2 : Hid ((b2_ ++ recsOf d.n3 (emptyG s) (fun i _ => ⟨5, i, 0⟩)).length ≤ 36) := Lib.hid (by have := HL1.out; have := HSZ.out; have := recsOf_le d.n3 (emptyG s) (fun (i : Nat) (_ : Unit) => (⟨5, i, 0⟩ : RecD)); rw [List.length_append]; omega)
              generalize hR : b2_ ++ recsOf d.n3 (emptyG s) (fun i _ => ⟨5, i, 0⟩) = b3_ at HAQ HL2 HG1
              clear hR HA1 HL1
              have HA1 := HAQ
              have HL1 := HL2
              clear HAQ HL2
              have hC := (HZ.out.step HG1.out.1).C
              go_wp2_with fail
              go_loopw [56] (fun j wr => ∃ k : Nat, k ≤ s.lks.length ∧ j = .int .i64 k ∧ Hid (Gv w1 wr g (b3_ ++ (s.lks.take k).map (fun x => (⟨7, x, 0⟩ : RecD))))) (fun j _ => s.lks.length - (intOf j).toNat)
              case atStart => exact ⟨0, Nat.zero_le _, rfl, Lib.hid (by rw [List.take_zero, List.map_nil, List.append_nil]; exact HG1.out)⟩
              case round =>
                clear HG1 hC
                obtain ⟨k, hk, rfl, HG1⟩ := hrel
                by_cases hlt : k < s.lks.length
                · obtain ⟨b', off', rfl, hb', hc⟩ := (R3.out.below (HZ.out.step HG1.out.1).K (Nat.le_refl _)).cell hlt
                  have p0 := (hc 0 (by decide)).trans (lkCs_at s.lks (i := k * 1 + 0) (by omega))
                  rw [Nat.add_zero, Nat.mul_one] at p0
                  clear hc
                  have HN1 : Hid (b3_ ++ (s.lks.take (k + 1)).map (fun x => (⟨7, x, 0⟩ : RecD)) = (b3_ ++ (s.lks.take k).map (fun x => (⟨7, x, 0⟩ : RecD))) ++ [⟨7, lkA s.lks k, 0⟩]) := Lib.hid (by
                    rw [List.append_assoc, take_at (i := lkA s.lks k) (by rw [List.getElem?_eq_getElem hlt]; simp [lkA, List.getD, List.getElem?_eq_getElem hlt]), List.map_append]
                    rfl)
                  have HLE : Hid ((b3_ ++ (s.lks.take k).map (fun x => (⟨7, x, 0⟩ : RecD))).length ≤ 46) := Lib.hid (by
                    have := HL1.out
                    have hf := HLK.out
                    rw [List.length_append, List.length_map, List.length_take]
                    omega)
                  generalize lkA s.lks k = x at p0 HN1
                  generalize hR : b3_ ++ (s.lks.take k).map (fun x => (⟨7, x, 0⟩ : RecD)) = done at HN1 HLE HG1
                  clear hR
                  go_wp2_with fail
                  refine (giveUp_any w1 _ g _ 7 x 0 HG1.out (by have := HLE.out; omega)).mono ?_
                  rintro e w3 ⟨rfl, hG, -⟩
                  have HG2 := Lib.hid hG
                  clear hG HG1 p0
                  go_wp2
                  exact ⟨⟨k + 1, by omega, by go_num, Lib.hid (by rw [HN1.out]; exact HG2.out)⟩, by simp [intOf]; omega⟩
                · obtain rfl : k = s.lks.length := by omega
                  rw [List.take_length, ← HA1.out] at HG1
                  obtain ⟨K, v, X, O⟩ := HG1.out
                  have hX := X.C
                  go_wp2
                  go_ret
                  exact ⟨_, rfl, O.base HZ.out.K.size, HZ.out.K.trans (K.mono HZ.out.K.size)⟩
end Go.Proofs.YtdkmhaghnfhajaaGreat
