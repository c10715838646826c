/-
  The model's draw of an agent.
-/
import Derived.Test.YtdkmhaghnfhajaaGreatMZ14
import Derived.Test.YtdkmhaghnfhajaaGreatMZ2
/- Zk -/
set_option linter.unusedVariables false
namespace Go.Proofs.YtdkmhaghnfhajaaGreat
open Go.RowKit

theorem OwnAg.flat {w : World} {B : Nat} {v : Value} {d : PlanD} {s : StD} {st : List Nat} (h : OwnAg w B v d s st) : ∃ cs, v = .agg cs ∧ cs.size = 20 ∧ cs.all (·.oneCell') = true := by
  obtain ⟨p0_, p1_, p2_, p3_, s0_, s1_, s2_, s3_, b_, rfl, Lp, Os, Ob, -⟩ := h.it
  obtain ⟨⟨Y0, f0, rfl⟩, ⟨Y1, f1, rfl⟩, ⟨Y2, f2, rfl⟩, ⟨Y3, f3, rfl⟩⟩ := Os.shapes
  obtain ⟨Q0, e0, rfl, -, -⟩ := Lp.o0.formR
  obtain ⟨Q1, e1, rfl, -, -⟩ := Lp.o1.formR
  obtain ⟨Q2, e2, rfl, -, -⟩ := Lp.o2.formR
  obtain ⟨Q3, e3, rfl, -, -⟩ := Lp.o3.formR
  obtain ⟨Ab, cb, -, rfl, -⟩ := Ob.open_
  exact ⟨_, rfl, rfl, by simp [Value.oneCell']⟩
theorem OwnAg.keepsT {w w' : World} {B g T : Nat} {cs : Array Value} {v : Value} {d : PlanD} {s : StD} {st : List Nat} (h : OwnAg w B v d s st) (kk : Keeps (· = g) w w') (hg : w.heap[g]? = some (.cells cs T (0, 0)))
    (hT : (T ≠ 62 ∧ T ≠ 2 ∧ T ≠ 69 ∧ T ≠ 79) ∧ (T ≠ 67 ∧ T ≠ 46 ∧ T ≠ 4 ∧ T ≠ 2) ∧ T ≠ 5) : OwnAg w' B v d s st := by
  obtain ⟨p0_, p1_, p2_, p3_, s0_, s1_, s2_, s3_, b_, hv, Lp, Os, Ob, AP⟩ := h.it
  exact ⟨p0_, p1_, p2_, p3_, s0_, s1_, s2_, s3_, b_, hv, Lp.keeps kk hg hT.1, Os.keepsT kk hg hT.2.1, Ob.keepsT kk hg hT.2.2, AP⟩
theorem Keeps.row {S : Nat → Prop} {w W : World} {g3 : Nat} {cs : Array Value} (h : Keeps S w W) (hg : w.heap.size ≤ g3) : Keeps S w (W.setRow g3 cs) :=
  ⟨h.os, h.tape, h.output, by rw [size_setRow]; exact h.size, fun b hb hn => (setRow_other W g3 b cs (by omega)).trans (h.block b hb hn)⟩
theorem Cur.cells {T : TypeId} {k : IntKind} {w : World} {g : Nat} (h : Cur T k w g) : ∃ cs, w.heap[g]? = some (.cells cs T (0, 0)) := by
  obtain ⟨A, n, c, i, x, hg, -⟩ := h.it
  exact ⟨_, hg⟩
/-- The model's draw of a plan does as Pu tells: a premise here, for its text is long to build. -/
def DrawsPlan : Prop := ∀ (g : Nat) (w : World), Cur 112 .i64 w g → Calls Tryz.prog 102 #[.pointer (some ⟨g, 0, none⟩)] w (DrawnPlan 112 .i64 (fun d => planOkB d = true ∧ d.n0 ≤ 5 ∧ d.n1 ≤ 3 ∧ d.n2 ≤ 4 ∧ d.n3 ≤ 2) g w)
/-- Behind a draw of an agent. -/
def DrawnAg (g : Nat) (w : World) (e : Ending) (w' : World) : Prop :=
  ∃ v d s st, e = .returned v ∧ OwnAg w' w.heap.size v d s st ∧ StOk d s ∧ st.length ≤ 1200 ∧ Cur 112 .i64 w' g ∧ Keeps (· = g) w w'

set_option maxRecDepth 100000 in
set_option maxHeartbeats 8000000 in
theorem l15Draw_of (HD : DrawsPlan) (g : Nat) (w : World) (h : Cur 112 .i64 w g) : Calls Tryz.prog 78 #[.pointer (some ⟨g, 0, none⟩)] w (DrawnAg g w) := by
  have hl := h.lt
  have HI : Hid ((Tryz.prog.info? 49).map (·.size) = some 20) := Lib.hid (by kernel_rfl)
  have HZ := heap_alloc_new w (.cells (agC (.slice none 0 0) (.slice none 0 0) (.slice none 0 0) (.slice none 0 0) 0 0 0 0 false 0 0 0 0 (.slice none 0 0) (.slice none 0 0) (.slice none 0 0) (.slice none 0 0) 0 0 (.slice none 0 0)) 49)
  have CU := h.alloc (.cells (agC (.slice none 0 0) (.slice none 0 0) (.slice none 0 0) (.slice none 0 0) 0 0 0 0 false 0 0 0 0 (.slice none 0 0) (.slice none 0 0) (.slice none 0 0) (.slice none 0 0) 0 0 (.slice none 0 0)) 49)
  have KP : Keeps (· = g) w (w.alloc (.cells (agC (.slice none 0 0) (.slice none 0 0) (.slice none 0 0) (.slice none 0 0) 0 0 0 0 false 0 0 0 0 (.slice none 0 0) (.slice none 0 0) (.slice none 0 0) (.slice none 0 0) 0 0 (.slice none 0 0)) 49)) := (Keeps.refl _ _).alloc _
  clear h
  go_enter Tryz.func78, Tryz.ntmps78
  go_wp2_with fail
  generalize w.alloc (.cells (agC (.slice none 0 0) (.slice none 0 0) (.slice none 0 0) (.slice none 0 0) 0 0 0 0 false 0 0 0 0 (.slice none 0 0) (.slice none 0 0) (.slice none 0 0) (.slice none 0 0) 0 0 (.slice none 0 0)) 49) = w0 at HZ CU KP ⊢
  refine (HD g w0 CU).mono ?_
  rintro e w1 ⟨v0, v1, v2, v3, d, rfl, o0, o1, o2, o3, CU1, hk, hok, -⟩
  have LP : Lists w1 w0.heap.size v0 v1 v2 v3 d := ⟨o0, o1, o2, o3⟩
  replace HZ := (hk.block _ (Array.getElem?_eq_some_iff.1 HZ).1 (by show ¬ w.heap.size = g; omega)).trans HZ
  replace KP := KP.trans hk
  have hPR := LP.plR (PlFits.of_ok hok)
  clear o0 o1 o2 o3 hk CU
  go_wp2_with fail
  refine (newAgent_any _ d w1 hPR hok).mono ?_
  rintro e w2 ⟨v', rfl, OA, hb⟩
  have SO := Lib.hid (newS_ok hok)
  generalize newS d = s at OA SO
  replace OA := OA.base KP.size
  replace HZ := (hb.block _ (Array.getElem?_eq_some_iff.1 HZ).1).trans HZ
  replace KP := KP.trans (Keeps.of_below hb)
  replace CU1 := CU1.below hb
  obtain ⟨cs, rfl, hsz, hone⟩ := OA.flat
  clear hb hPR LP hok
  go_upto_region 2 with (
    (with_reducible refine store_agent (x := 3) (y := 10) (g := w2.heap.size) (cs := cs) ?_ ?_ (heap_alloc_new w2 _) ?_ ?_ ?_ ?_)
    · rfl
    · rfl
    · rw [hsz]; exact HI.out
    · rw [hsz]; rfl
    · exact hone)
  have hb : Below w2.heap.size w2 ((w2.alloc (.cells (agC (.slice none 0 0) (.slice none 0 0) (.slice none 0 0) (.slice none 0 0) 0 0 0 0 false 0 0 0 0 (.slice none 0 0) (.slice none 0 0) (.slice none 0 0) (.slice none 0 0) 0 0 (.slice none 0 0)) 49)).setRow w2.heap.size cs) := below_setRow ((Below.refl _ _).alloc (Nat.le_refl _) _) (Nat.le_refl _) _
  have HB : ((w2.alloc (.cells (agC (.slice none 0 0) (.slice none 0 0) (.slice none 0 0) (.slice none 0 0) 0 0 0 0 false 0 0 0 0 (.slice none 0 0) (.slice none 0 0) (.slice none 0 0) (.slice none 0 0) 0 0 (.slice none 0 0)) 49)).setRow w2.heap.size cs).heap[w2.heap.size]? = some (.cells cs 49) := setRow_heap _ _ _ _ _ _ (heap_alloc_new w2 _)
  have hg3 : w.heap.size < w2.heap.size := (Array.getElem?_eq_some_iff.1 HZ).1
  replace HZ := (hb.block _ (Array.getElem?_eq_some_iff.1 HZ).1).trans HZ
  replace KP := KP.trans (Keeps.of_below hb)
  replace CU1 := CU1.below hb
  replace OA := OA.below hb
  clear hb
  generalize (w2.alloc (.cells (agC (.slice none 0 0) (.slice none 0 0) (.slice none 0 0) (.slice none 0 0) 0 0 0 0 false 0 0 0 0 (.slice none 0 0) (.slice none 0 0) (.slice none 0 0) (.slice none 0 0) 0 0 (.slice none 0 0)) 49)).setRow w2.heap.size cs = w3 at HB HZ KP CU1 OA ⊢
  generalize w2.heap.size = g3 at HB hg3 ⊢
  go_cut [5] from 12 to 20 (fun v5 wx => ∃ n : Int, v5 = .int .i64 n ∧ n ≤ 50 ∧ Cur 112 .i64 wx g ∧ Keeps (· = g) w3 wx)
  case first =>
    clear HB HZ KP OA
    refine wp_region_noPanic ?_
    refine wp_region_held_drew (S := fun _ => True) (by kernel_rfl) trivial (fun _ => ?_)
    have KD : Keeps (· = g) w3 w3.drew := (Keeps.refl _ _).drew
    replace CU1 := CU1.below (Below.refl _ _).drew
    generalize w3.drew = wd at KD CU1 ⊢
    refine wpAnyH_take (i := 0) (v := ?_) rfl (by kernel_rfl) (by kernel_rfl) (by kernel_rfl) (fun _ _ _ h => h) (Or.inl ⟨by rfl, ?_⟩) trivial ?_
    rotate_left 1
    · intro w hSw
      go_simp
      try with_reducible rfl
    try change wpAnyH _ _ _ _ _ _ _ (Act.put _ (some 12) _) _
    try dsimp only [Act.put]
    refine wpAnyH_take (i := 1) (v := ?_) rfl (by kernel_rfl) (by kernel_rfl) (by kernel_rfl) (fun _ _ _ h => h) (Or.inl ⟨by rfl, ?_⟩) trivial ?_
    rotate_left 1
    · intro w hSw
      go_simp
      try with_reducible rfl
    try change wpAnyH _ _ _ _ _ _ _ (Act.put _ (some 13) _) _
    try dsimp only [Act.put]
    refine wpAnyH_take (i := 2) (v := ?_) rfl (by kernel_rfl) (by kernel_rfl) (by kernel_rfl) (fun _ _ _ h => h) (Or.inl ⟨by rfl, ?_⟩) trivial ?_
    rotate_left 1
    · intro w hSw
      go_simp
      try with_reducible rfl
    try change wpAnyH _ _ _ _ _ _ _ (Act.put _ (some 14) _) _
    try dsimp only [Act.put]
    refine wpAnyH_take (i := 6) (v := ?_) rfl (by kernel_rfl) (by kernel_rfl) (by kernel_rfl) (fun _ _ _ h => h) (Or.inl ⟨by rfl, ?_⟩) trivial ?_
    rotate_left 1
    · intro w hSw
      go_simp
      try with_reducible rfl
    try change wpAnyH _ _ _ _ _ _ _ (Act.put _ (some 18) _) _
    try dsimp only [Act.put]
    refine wpAnyH_ready (rs := [3, 7]) (by kernel_rfl) (by simp) ?_
    refine AllReadyH.cons rfl (fun K' hK => ?_) ?_
    · skip
      obtain ⟨A, m, c, i, y, hg, i0, i1, hm, hB⟩ := id CU1
      have qc := (cell_of_row _ g 0 _ _ _ hg).trans (show (curC .i64 A m c i y)[0]? = some (.slice A m c) from rfl)
      have hm' : (m : Int) ≤ 4096 := by omega
      have hm0 : (0 : Int) ≤ 2 + (m : Int) := by omega
      have hw : IntKind.i64.wrap (2 + (m : Int)) = 2 + (m : Int) := IntWalk.i64_in _ (by omega)
      clear hg hB i0 i1 hm
      go_simp
      refine hK.out _ _ trivial (fun _ => ?_)
      clear hK K'
      try change wpAnyH _ _ _ _ _ _ _ (Act.put _ (some 15) _) _
      try dsimp only [Act.put]
      refine wpAnyH_take (i := 4) (v := ?_) rfl (by kernel_rfl) (by kernel_rfl) (by kernel_rfl) (fun _ _ _ h => h) (Or.inl ⟨by rfl, ?_⟩) trivial ?_
      rotate_left 1
      · intro w hSw
        go_simp
        try with_reducible rfl
      try change wpAnyH _ _ _ _ _ _ _ (Act.put _ (some 16) _) _
      try dsimp only [Act.put]
      refine wpAnyH_take (i := 5) (v := ?_) rfl (by kernel_rfl) (by kernel_rfl) (by kernel_rfl) (fun _ _ _ h => h) (Or.inl ⟨by rfl, ?_⟩) trivial ?_
      rotate_left 1
      · intro w hSw
        go_simp
        try with_reducible rfl
      try change wpAnyH _ _ _ _ _ _ _ (Act.put _ (some 17) _) _
      try dsimp only [Act.put]
      refine wpAnyH_ready (rs := [7]) (by kernel_rfl) (by simp) ?_
      refine AllReadyH.cons rfl (fun K' hK => ?_) AllReadyH.nil
      go_simp
      go_at_call 65
      refine (l1Below_any g 50 _ CU1 (by omega) (by omega)).mono ?_
      rintro e wn ⟨r, rfl, r0, r1, CU2, hk⟩
      replace KD := KD.trans hk
      clear hk CU1
      have CU1 := CU2
      clear CU2
      go_wp2_with fail
      refine hK.out _ _ trivial (fun _ => ?_)
      clear hK K'
      try change wpAnyH _ _ _ _ _ _ _ (Act.put _ (some 19) _) _
      try dsimp only [Act.put]
      refine wpAnyH_ready (rs := [8]) (by kernel_rfl) (by simp) ?_
      refine AllReadyH.cons rfl (fun K' hK => ?_) AllReadyH.nil
      go_simp
      go_at_call 103
      refine (l1Min_any _ _ _).mono ?_
      rintro e w' ⟨rfl, rfl⟩
      have hmn : (if 2 + (m : Int) < r then 2 + (m : Int) else r) ≤ 50 := by split <;> omega
      generalize (if 2 + (m : Int) < r then 2 + (m : Int) else r) = mn at hmn ⊢
      go_wp2_with fail
      refine hK.out _ _ trivial (fun _ => ?_)
      clear hK K'
      try change wpAnyH _ _ _ _ _ _ _ (Act.put _ (some 20) _) _
      try dsimp only [Act.put]
      refine wpAnyH_ready (rs := [9]) (by kernel_rfl) (by simp) ?_
      refine AllReadyH.cons rfl (fun K' hK => ?_) AllReadyH.nil
      go_simp
      refine hK.out _ _ trivial (fun _ => ?_)
      clear hK K'
      refine wpAnyH_done (by kernel_rfl) ?_ _
      refine NoPanic.normal ?_
      go_wp2_with fail
      go_meet
      exact ⟨mn, rfl, hmn, CU1, KD⟩
    refine AllReadyH.cons rfl (fun K' hK => ?_) AllReadyH.nil
    go_simp
    go_at_call 65
    refine (l1Below_any g 50 _ CU1 (by omega) (by omega)).mono ?_
    rintro e wn ⟨r, rfl, r0, r1, CU2, hk⟩
    replace KD := KD.trans hk
    clear hk CU1
    have CU1 := CU2
    clear CU2
    go_wp2_with fail
    refine hK.out _ _ trivial (fun _ => ?_)
    clear hK K'
    try change wpAnyH _ _ _ _ _ _ _ (Act.put _ (some 19) _) _
    try dsimp only [Act.put]
    refine wpAnyH_ready (rs := [3]) (by kernel_rfl) (by simp) ?_
    refine AllReadyH.cons rfl (fun K' hK => ?_) AllReadyH.nil
    obtain ⟨A, m, c, i, y, hg, i0, i1, hm, hB⟩ := id CU1
    have qc := (cell_of_row _ g 0 _ _ _ hg).trans (show (curC .i64 A m c i y)[0]? = some (.slice A m c) from rfl)
    have hm' : (m : Int) ≤ 4096 := by omega
    have hm0 : (0 : Int) ≤ 2 + (m : Int) := by omega
    have hw : IntKind.i64.wrap (2 + (m : Int)) = 2 + (m : Int) := IntWalk.i64_in _ (by omega)
    clear hg hB i0 i1 hm
    go_simp
    refine hK.out _ _ trivial (fun _ => ?_)
    clear hK K'
    try change wpAnyH _ _ _ _ _ _ _ (Act.put _ (some 15) _) _
    try dsimp only [Act.put]
    refine wpAnyH_take (i := 4) (v := ?_) rfl (by kernel_rfl) (by kernel_rfl) (by kernel_rfl) (fun _ _ _ h => h) (Or.inl ⟨by rfl, ?_⟩) trivial ?_
    rotate_left 1
    · intro w hSw
      go_simp
      try with_reducible rfl
    try change wpAnyH _ _ _ _ _ _ _ (Act.put _ (some 16) _) _
    try dsimp only [Act.put]
    refine wpAnyH_take (i := 5) (v := ?_) rfl (by kernel_rfl) (by kernel_rfl) (by kernel_rfl) (fun _ _ _ h => h) (Or.inl ⟨by rfl, ?_⟩) trivial ?_
    rotate_left 1
    · intro w hSw
      go_simp
      try with_reducible rfl
    try change wpAnyH _ _ _ _ _ _ _ (Act.put _ (some 17) _) _
    try dsimp only [Act.put]
    refine wpAnyH_ready (rs := [8]) (by kernel_rfl) (by simp) ?_
    refine AllReadyH.cons rfl (fun K' hK => ?_) AllReadyH.nil
    go_simp
    go_at_call 103
    refine (l1Min_any _ _ _).mono ?_
    rintro e w' ⟨rfl, rfl⟩
    have hmn : (if 2 + (m : Int) < r then 2 + (m : Int) else r) ≤ 50 := by split <;> omega
    generalize (if 2 + (m : Int) < r then 2 + (m : Int) else r) = mn at hmn ⊢
    go_wp2_with fail
    refine hK.out _ _ trivial (fun _ => ?_)
    clear hK K'
    try change wpAnyH _ _ _ _ _ _ _ (Act.put _ (some 20) _) _
    try dsimp only [Act.put]
    refine wpAnyH_ready (rs := [9]) (by kernel_rfl) (by simp) ?_
    refine AllReadyH.cons rfl (fun K' hK => ?_) AllReadyH.nil
    go_simp
    refine hK.out _ _ trivial (fun _ => ?_)
    clear hK K'
    refine wpAnyH_done (by kernel_rfl) ?_ _
    refine NoPanic.normal ?_
    go_wp2_with fail
    go_meet
    exact ⟨mn, rfl, hmn, CU1, KD⟩
  case rest =>
    obtain ⟨n, rfl, hn, CU2, hk⟩ := hcut
    replace HB := (hk.block _ (Array.getElem?_eq_some_iff.1 HB).1 (by show ¬ g3 = g; omega)).trans HB
    replace HZ := (hk.block _ (Array.getElem?_eq_some_iff.1 HZ).1 (by show ¬ w.heap.size = g; omega)).trans HZ
    obtain ⟨gcs, hgc⟩ := CU1.cells
    replace OA := OA.keepsT hk hgc (by decide)
    replace KP := KP.trans hk
    clear hk CU1 hgc hone
    go_wp2_with fail
    go_loopw [5] (fun v5 wr => ∃ n : Int, n ≤ 50 ∧ v5 = .int .i64 n ∧ ∃ cs d s st, wr.heap[g3]? = some (.cells cs 49) ∧ cs.size = 20 ∧ OwnAg wr w.heap.size (.agg cs) d s st ∧ StOk d s ∧ st.length ≤ 1200 ∧ Cur 112 .i64 wr g ∧ Keeps (· = g) w wr ∧ wr.heap[w.heap.size]? = some (.cells (agC (.slice none 0 0) (.slice none 0 0) (.slice none 0 0) (.slice none 0 0) 0 0 0 0 false 0 0 0 0 (.slice none 0 0) (.slice none 0 0) (.slice none 0 0) (.slice none 0 0) 0 0 (.slice none 0 0)) 49)) (fun v5 _ => (intOf v5).toNat)
    case atStart => exact ⟨n, hn, rfl, cs, d, s, [], HB, hsz, OA, SO.out, by simp, CU2, KP, HZ⟩
    case round =>
      clear HB OA SO CU2 KP HZ hsz hn
      obtain ⟨n, hn, rfl, cs, d, s, st, HB, hsz, OA, so, st0, CU, KP, HZ⟩ := hrel
      have SO := Lib.hid so
      have ST := Lib.hid st0
      have SZ := Lib.hid hsz
      clear so st0 hsz
      by_cases hlt : 0 < n
      · go_upto_region 5 with fail
        obtain ⟨gcs, hgc⟩ := CU.cells
        have HG := Lib.hid hgc
        clear hgc
        refine wp_region_noPanic ?_
        refine wp_region_held_drew (S := fun _ => True) (by kernel_rfl) trivial (fun _ => ?_)
        replace CU := CU.below (Below.refl _ _).drew
        replace KP := KP.drew
        replace OA := OA.below (Below.refl _ _).drew
        rw [← heap_drew wr] at HB HZ
        replace HG : Hid (wr.drew.heap[g]? = some (.cells gcs 112)) := Lib.hid HG.out
        generalize wr.drew = wd at CU KP OA HB HZ HG ⊢
        refine wpAnyH_take (i := 1) (v := ?_) rfl (by kernel_rfl) (by kernel_rfl) (by kernel_rfl) (fun _ _ _ h => h) (Or.inl ⟨by rfl, ?_⟩) trivial ?_
        rotate_left 1
        · intro w hSw
          go_simp
          try with_reducible rfl
        change wpAnyH _ _ _ _ _ _ _ (Act.put _ (some 27) _) _
        dsimp only [Act.put]
        refine wpAnyH_ready (rs := [0, 2]) (by kernel_rfl) (by simp) ?_
        refine AllReadyH.cons rfl (fun K' hK => ?_) ?_
        · skip
          rw [if_pos (by rfl)]
          refine wp_load_row 49 (.tmp 3) rfl g3 rfl _ cs _ _ HB Tryz.underlying49 rfl (by rw [SZ.out]; exact HI.out) ?_
          refine hK.out _ _ trivial (fun _ => ?_)
          clear hK K'
          change wpAnyH _ _ _ _ _ _ _ (Act.put _ (some 26) _) _
          dsimp only [Act.put]
          refine wpAnyH_ready (rs := [2]) (by kernel_rfl) (by simp) ?_
          refine AllReadyH.cons rfl (fun K' hK => ?_) AllReadyH.nil
          go_simp
          go_at_call 104
          refine (l13Draw_any g _ CU).mono ?_
          rintro e wn ⟨k, a, b, rfl, CU2, hk⟩
          replace KP := KP.trans hk
          replace HB := (hk.block _ (Array.getElem?_eq_some_iff.1 HB).1 (by show ¬ g3 = g; omega)).trans HB
          replace HZ := (hk.block _ (Array.getElem?_eq_some_iff.1 HZ).1 (by show ¬ w.heap.size = g; omega)).trans HZ
          replace OA := OA.keepsT hk HG.out (by decide)
          clear hk HG CU
          go_wp2_with fail
          refine hK.out _ _ trivial (fun _ => ?_)
          clear hK K'
          refine wpAnyH_ready (rs := [3]) (by kernel_rfl) (by simp) ?_
          refine AllReadyH.cons rfl (fun K' hK => ?_) AllReadyH.nil
          go_simp
          go_at_call 53
          have hok2 := obey_ok (k := k) (a := a) (b := b) SO.out ST.out
          refine (l15Obey_any _ d s st k a b _ (OA.is (PlFits.of_ok SO.out.plan) (fits_ok SO.out)) SO.out ST.out).mono ?_
          rintro e wm ⟨v2, rfl, OA2, hb⟩
          generalize obeyD d s st k a b = r at OA2 hok2 ⊢
          obtain ⟨⟨s2, st2⟩, cd⟩ := r
          dsimp only at OA2 hok2 ⊢
          replace OA2 := OA2.base KP.size
          obtain ⟨cs2, rfl, hsz2, hone2⟩ := OA2.flat
          replace CU2 := CU2.below hb
          replace KP := KP.trans (Keeps.of_below hb)
          replace HB := (hb.block _ (Array.getElem?_eq_some_iff.1 HB).1).trans HB
          replace HZ := (hb.block _ (Array.getElem?_eq_some_iff.1 HZ).1).trans HZ
          clear hb OA
          go_wp2_with fail
          refine hK.out _ _ trivial (fun _ => ?_)
          clear hK K'
          refine wpAnyH_take (i := 4) (v := ?_) rfl (by kernel_rfl) (by kernel_rfl) (by kernel_rfl) (fun _ _ _ h => h) (Or.inl ⟨by rfl, ?_⟩) trivial ?_
          rotate_left 1
          · intro w hSw
            go_simp
            try with_reducible rfl
          change wpAnyH _ _ _ _ _ _ _ (Act.put _ (some 25) _) _
          dsimp only [Act.put]
          refine wpAnyH_take (i := 5) (v := ?_) rfl (by kernel_rfl) (by kernel_rfl) (by kernel_rfl) (fun _ _ _ h => h) (Or.inl ⟨by rfl, ?_⟩) trivial ?_
          rotate_left 1
          · intro w hSw
            go_simp
            try with_reducible rfl
          change wpAnyH _ _ _ _ _ _ _ (Act.put _ (some 30) _) _
          dsimp only [Act.put]
          refine wpAnyH_take (i := 6) (v := ?_) rfl (by kernel_rfl) (by kernel_rfl) (by kernel_rfl) (fun _ _ _ h => h) (Or.inl ⟨by rfl, ?_⟩) trivial ?_
          rotate_left 1
          · intro w hSw
            go_simp
            try with_reducible rfl
          change wpAnyH _ _ _ _ _ _ _ (Act.put _ (some 31) _) _
          dsimp only [Act.put]
          refine wpAnyH_ready (rs := [7]) (by kernel_rfl) (by simp) ?_
          refine AllReadyH.cons rfl (fun K' hK => ?_) AllReadyH.nil
          rw [if_pos (by rfl)]
          refine wp_store_row 49 (.tmp 3) (.tmp 30) rfl g3 cs2 rfl rfl 49 _ HB (by rw [hsz2]; exact HI.out) (by rw [SZ.out, hsz2]) hone2 ?_
          have KS : Keeps (· = g3) wm (wm.setRow g3 cs2) := keeps_setRow ..
          refine hK.out _ _ trivial (fun _ => ?_)
          clear hK K'
          refine wpAnyH_done (by kernel_rfl) ?_ _
          refine NoPanic.normal ?_
          go_wp2_with fail
          refine ⟨⟨n - 1, by omega, by go_num, cs2, d, s2, st2, setRow_heap _ _ _ _ _ _ HB, hsz2, OA2.keepsT KS HB (by decide), hok2.1, hok2.2, CU2.keeps KS (fun b hb e => by omega), KP.row (by omega), (setRow_other _ _ _ _ (by omega)).trans HZ⟩, by simp [intOf]; omega⟩
        refine AllReadyH.cons rfl (fun K' hK => ?_) AllReadyH.nil
        go_simp
        go_at_call 104
        refine (l13Draw_any g _ CU).mono ?_
        rintro e wn ⟨k, a, b, rfl, CU2, hk⟩
        replace KP := KP.trans hk
        replace HB := (hk.block _ (Array.getElem?_eq_some_iff.1 HB).1 (by show ¬ g3 = g; omega)).trans HB
        replace HZ := (hk.block _ (Array.getElem?_eq_some_iff.1 HZ).1 (by show ¬ w.heap.size = g; omega)).trans HZ
        replace OA := OA.keepsT hk HG.out (by decide)
        clear hk HG CU
        go_wp2_with fail
        refine hK.out _ _ trivial (fun _ => ?_)
        clear hK K'
        refine wpAnyH_ready (rs := [0]) (by kernel_rfl) (by simp) ?_
        refine AllReadyH.cons rfl (fun K' hK => ?_) AllReadyH.nil
        rw [if_pos (by rfl)]
        refine wp_load_row 49 (.tmp 3) rfl g3 rfl _ cs _ _ HB Tryz.underlying49 rfl (by rw [SZ.out]; exact HI.out) ?_
        refine hK.out _ _ trivial (fun _ => ?_)
        clear hK K'
        change wpAnyH _ _ _ _ _ _ _ (Act.put _ (some 26) _) _
        dsimp only [Act.put]
        refine wpAnyH_ready (rs := [3]) (by kernel_rfl) (by simp) ?_
        refine AllReadyH.cons rfl (fun K' hK => ?_) AllReadyH.nil
        go_simp
        go_at_call 53
        have hok2 := obey_ok (k := k) (a := a) (b := b) SO.out ST.out
        refine (l15Obey_any _ d s st k a b _ (OA.is (PlFits.of_ok SO.out.plan) (fits_ok SO.out)) SO.out ST.out).mono ?_
        rintro e wm ⟨v2, rfl, OA2, hb⟩
        generalize obeyD d s st k a b = r at OA2 hok2 ⊢
        obtain ⟨⟨s2, st2⟩, cd⟩ := r
        dsimp only at OA2 hok2 ⊢
        replace OA2 := OA2.base KP.size
        obtain ⟨cs2, rfl, hsz2, hone2⟩ := OA2.flat
        replace CU2 := CU2.below hb
        replace KP := KP.trans (Keeps.of_below hb)
        replace HB := (hb.block _ (Array.getElem?_eq_some_iff.1 HB).1).trans HB
        replace HZ := (hb.block _ (Array.getElem?_eq_some_iff.1 HZ).1).trans HZ
        clear hb OA
        go_wp2_with fail
        refine hK.out _ _ trivial (fun _ => ?_)
        clear hK K'
        refine wpAnyH_take (i := 4) (v := ?_) rfl (by kernel_rfl) (by kernel_rfl) (by kernel_rfl) (fun _ _ _ h => h) (Or.inl ⟨by rfl, ?_⟩) trivial ?_
        rotate_left 1
        · intro w hSw
          go_simp
          try with_reducible rfl
        change wpAnyH _ _ _ _ _ _ _ (Act.put _ (some 25) _) _
        dsimp only [Act.put]
        refine wpAnyH_take (i := 5) (v := ?_) rfl (by kernel_rfl) (by kernel_rfl) (by kernel_rfl) (fun _ _ _ h => h) (Or.inl ⟨by rfl, ?_⟩) trivial ?_
        rotate_left 1
        · intro w hSw
          go_simp
          try with_reducible rfl
        change wpAnyH _ _ _ _ _ _ _ (Act.put _ (some 30) _) _
        dsimp only [Act.put]
        refine wpAnyH_take (i := 6) (v := ?_) rfl (by kernel_rfl) (by kernel_rfl) (by kernel_rfl) (fun _ _ _ h => h) (Or.inl ⟨by rfl, ?_⟩) trivial ?_
        rotate_left 1
        · intro w hSw
          go_simp
          try with_reducible rfl
        change wpAnyH _ _ _ _ _ _ _ (Act.put _ (some 31) _) _
        dsimp only [Act.put]
        refine wpAnyH_ready (rs := [7]) (by kernel_rfl) (by simp) ?_
        refine AllReadyH.cons rfl (fun K' hK => ?_) AllReadyH.nil
        rw [if_pos (by rfl)]
        refine wp_store_row 49 (.tmp 3) (.tmp 30) rfl g3 cs2 rfl rfl 49 _ HB (by rw [hsz2]; exact HI.out) (by rw [SZ.out, hsz2]) hone2 ?_
        have KS : Keeps (· = g3) wm (wm.setRow g3 cs2) := keeps_setRow ..
        refine hK.out _ _ trivial (fun _ => ?_)
        clear hK K'
        refine wpAnyH_done (by kernel_rfl) ?_ _
        refine NoPanic.normal ?_
        go_wp2_with fail
        refine ⟨⟨n - 1, by omega, by go_num, cs2, d, s2, st2, setRow_heap _ _ _ _ _ _ HB, hsz2, OA2.keepsT KS HB (by decide), hok2.1, hok2.2, CU2.keeps KS (fun b hb e => by omega), KP.row (by omega), (setRow_other _ _ _ _ (by omega)).trans HZ⟩, by simp [intOf]; omega⟩
      · go_wp2_with (first
          | ((with_reducible refine store_agent (x := 2) (y := 32) (g := w.heap.size) (cs := cs) ?_ ?_ HZ ?_ ?_ ?_ ?_)
             · rfl
             · rfl
             · rw [SZ.out]; exact HI.out
             · rw [SZ.out]; rfl
             · obtain ⟨cs', he, -, h1⟩ := OA.flat
               injection he with he
               rw [he]
               exact h1)
          | ((with_reducible refine load_agent (x := 3) (g := g3) (cs := cs) ?_ HB ?_ ?_)
             · rfl
             · rw [SZ.out]; exact HI.out))
        have KS : Keeps (· = w.heap.size) wr (wr.setRow w.heap.size cs) := keeps_setRow ..
        exact bodyPost_ret (v := .agg cs) (results_cell_row Tryz.results78 _ _ _ _ _ _ _ rfl (setRow_heap wr _ _ _ _ _ HZ) Tryz.underlying49 rfl (by rw [SZ.out]; exact HI.out)) rfl ⟨_, d, s, st, rfl, OA.keepsT KS HZ (by decide), SO.out, ST.out, CU.keeps KS (fun b hb e => by omega), KP.row (Nat.le_refl _)⟩
end Go.Proofs.YtdkmhaghnfhajaaGreat
