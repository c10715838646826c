/-
  The model's draw of a record beside a state.
-/
import Derived.Test.YtoddmijfdmjfbaaGreatDoorMZ2
import Derived.Test.YtoddmijfdmjfbaaGreatDoorMZ5
import Derived.Test.YtoddmijfdmjfbaaGreatDoorMZ3
/- Dn -/
set_option linter.unusedVariables false
namespace Go.Proofs.YtoddmijfdmjfbaaGreatDoor
open Go.RowKit

set_option maxRecDepth 100000 in
set_option maxHeartbeats 8000000 in
theorem l6DrawRec_any (g : Nat) (w : World) (h : Cur 72 .i64 w g) {Y0 Y1 Y2 Y3 : Option Addr} {n0 f0 n1 f1 n2 f2 n3 f3 : Nat} {ph : Int} {co : Bool} {ck bo ba lb gd pr : Int} (h0 : n0 ≤ 13) (h1 : n1 ≤ 13) (h2 : n2 ≤ 13) :
    Calls Tryz.prog 17 #[.pointer (some ⟨g, 0, none⟩), .agg (stC Y0 Y1 Y2 Y3 n0 f0 n1 f1 n2 f2 n3 f3 ph co ck bo ba lb gd pr)] w (DrawnRec g w) := by
  have hl := h.lt
  have Y := (Blk.new w (stC Y0 Y1 Y2 Y3 n0 f0 n1 f1 n2 f2 n3 f3 ph co ck bo ba lb gd pr) 34).alloc (.cells #[.int .i64 0, .int .i64 0, .int .i64 0] 41)
  have X := Blk.new (w.alloc (.cells (stC Y0 Y1 Y2 Y3 n0 f0 n1 f1 n2 f2 n3 f3 ph co ck bo ba lb gd pr) 34)) #[.int .i64 0, .int .i64 0, .int .i64 0] 41
  rw [show ∀ (W : World) (o : Obj), (W.alloc o).heap.size = W.heap.size + 1 from fun W o => by simp] at X
  have hc := (h.alloc (.cells (stC Y0 Y1 Y2 Y3 n0 f0 n1 f1 n2 f2 n3 f3 ph co ck bo ba lb gd pr) 34)).alloc (.cells #[.int .i64 0, .int .i64 0, .int .i64 0] 41)
  have K : Keeps (· = g) w ((w.alloc (.cells (stC Y0 Y1 Y2 Y3 n0 f0 n1 f1 n2 f2 n3 f3 ph co ck bo ba lb gd pr) 34)).alloc (.cells #[.int .i64 0, .int .i64 0, .int .i64 0] 41)) := ((Keeps.refl _ _).alloc _).alloc _
  have g3 : ¬ w.heap.size = g := by omega
  have g4 : ¬ w.heap.size + 1 = g := by omega
  have l4 : g < w.heap.size + 1 := by omega
  clear h
  go_enter Tryz.func17, Tryz.ntmps17
  go_wp2_with fail
  generalize (w.alloc (.cells (stC Y0 Y1 Y2 Y3 n0 f0 n1 f1 n2 f2 n3 f3 ph co ck bo ba lb gd pr) 34)).alloc (.cells #[.int .i64 0, .int .i64 0, .int .i64 0] 41) = w0 at X Y hc K ⊢
  refine (l1Below_any g 8 _ hc (by omega) (by omega)).mono ?_
  rintro e w1 ⟨a1, rfl, x1, y1, hc1, hk⟩
  replace K := K.trans hk
  replace X := X.keeps hk g4
  replace Y := Y.keeps hk g3
  replace hc := hc1
  clear hc1 hk
  have q := X.C
  have qf := X.F
  have qz := X.z
  have r := Y.C
  rcases (by omega : a1 = 0 ∨ a1 = 1 ∨ a1 = 2 ∨ a1 = 3 ∨ a1 = 4 ∨ a1 = 5 ∨ a1 = 6 ∨ a1 = 7) with rfl | rfl | rfl | rfl | rfl | rfl | rfl | rfl
  · skip
    go_wp2_with fail
    refine (l1Below_any g 10 _ hc (by omega) (by omega)).mono ?_
    rintro e w2 ⟨a2, rfl, x2, y2, hc2, hk⟩
    replace K := K.trans hk
    replace X := X.keeps hk g4
    replace Y := Y.keeps hk g3
    replace hc := hc2
    clear hc2 hk
    have q := X.C
    have qf := X.F
    have qz := X.z
    have r := Y.C
    go_wp2_with fail
    have X9 := ((X.set (i := 0) (by simp) (.int .i64 (1))).set (i := 1) (by simp) (.int .i64 (a2))).set (i := 2) (by simp) (.int .i64 (0))
    have r9 := X9.C
    have C9 := ((hc.far (p := ⟨w.heap.size + 1, 0, none⟩) l4 (.int .i64 (1))).far (p := ⟨w.heap.size + 1, 1, none⟩) l4 (.int .i64 (a2))).far (p := ⟨w.heap.size + 1, 2, none⟩) l4 (.int .i64 (0))
    have K9 := ((K.far (p := ⟨w.heap.size + 1, 0, none⟩) (Nat.le_succ _) (.int .i64 (1))).far (p := ⟨w.heap.size + 1, 1, none⟩) (Nat.le_succ _) (.int .i64 (a2))).far (p := ⟨w.heap.size + 1, 2, none⟩) (Nat.le_succ _) (.int .i64 (0))
    refine bodyPost_ret (v := recV ⟨1, a2, 0⟩) ?_ rfl ⟨⟨1, a2, 0⟩, rfl, C9, K9⟩
    simp [results, Tryz.results17, go_sem, r9, recV]
  · skip
    go_wp2_with fail
    refine (l1Below_any g ((n0 : Int) + 1) _ hc (by omega) (by omega)).mono ?_
    rintro e w2 ⟨a2, rfl, x2, y2, hc2, hk⟩
    replace K := K.trans hk
    replace X := X.keeps hk g4
    replace Y := Y.keeps hk g3
    replace hc := hc2
    clear hc2 hk
    have q := X.C
    have qf := X.F
    have qz := X.z
    have r := Y.C
    go_wp2_with fail
    refine (l1Below_any g 8 _ hc (by omega) (by omega)).mono ?_
    rintro e w3 ⟨a3, rfl, x3, y3, hc3, hk⟩
    replace K := K.trans hk
    replace X := X.keeps hk g4
    replace Y := Y.keeps hk g3
    replace hc := hc3
    clear hc3 hk
    have q := X.C
    have qf := X.F
    have qz := X.z
    have r := Y.C
    go_wp2_with fail
    have X9 := ((X.set (i := 0) (by simp) (.int .i64 (2))).set (i := 1) (by simp) (.int .i64 (a2))).set (i := 2) (by simp) (.int .i64 (a3))
    have r9 := X9.C
    have C9 := ((hc.far (p := ⟨w.heap.size + 1, 0, none⟩) l4 (.int .i64 (2))).far (p := ⟨w.heap.size + 1, 1, none⟩) l4 (.int .i64 (a2))).far (p := ⟨w.heap.size + 1, 2, none⟩) l4 (.int .i64 (a3))
    have K9 := ((K.far (p := ⟨w.heap.size + 1, 0, none⟩) (Nat.le_succ _) (.int .i64 (2))).far (p := ⟨w.heap.size + 1, 1, none⟩) (Nat.le_succ _) (.int .i64 (a2))).far (p := ⟨w.heap.size + 1, 2, none⟩) (Nat.le_succ _) (.int .i64 (a3))
    refine bodyPost_ret (v := recV ⟨2, a2, a3⟩) ?_ rfl ⟨⟨2, a2, a3⟩, rfl, C9, K9⟩
    simp [results, Tryz.results17, go_sem, r9, recV]
  · skip
    go_wp2_with fail
    refine (l1Below_any g ((n0 : Int) + 1) _ hc (by omega) (by omega)).mono ?_
    rintro e w2 ⟨a2, rfl, x2, y2, hc2, hk⟩
    replace K := K.trans hk
    replace X := X.keeps hk g4
    replace Y := Y.keeps hk g3
    replace hc := hc2
    clear hc2 hk
    have q := X.C
    have qf := X.F
    have qz := X.z
    have r := Y.C
    go_wp2_with fail
    refine (l1Below_any g 8 _ hc (by omega) (by omega)).mono ?_
    rintro e w3 ⟨a3, rfl, x3, y3, hc3, hk⟩
    replace K := K.trans hk
    replace X := X.keeps hk g4
    replace Y := Y.keeps hk g3
    replace hc := hc3
    clear hc3 hk
    have q := X.C
    have qf := X.F
    have qz := X.z
    have r := Y.C
    go_wp2_with fail
    have X9 := ((X.set (i := 0) (by simp) (.int .i64 (2))).set (i := 1) (by simp) (.int .i64 (a2))).set (i := 2) (by simp) (.int .i64 (a3))
    have r9 := X9.C
    have C9 := ((hc.far (p := ⟨w.heap.size + 1, 0, none⟩) l4 (.int .i64 (2))).far (p := ⟨w.heap.size + 1, 1, none⟩) l4 (.int .i64 (a2))).far (p := ⟨w.heap.size + 1, 2, none⟩) l4 (.int .i64 (a3))
    have K9 := ((K.far (p := ⟨w.heap.size + 1, 0, none⟩) (Nat.le_succ _) (.int .i64 (2))).far (p := ⟨w.heap.size + 1, 1, none⟩) (Nat.le_succ _) (.int .i64 (a2))).far (p := ⟨w.heap.size + 1, 2, none⟩) (Nat.le_succ _) (.int .i64 (a3))
    refine bodyPost_ret (v := recV ⟨2, a2, a3⟩) ?_ rfl ⟨⟨2, a2, a3⟩, rfl, C9, K9⟩
    simp [results, Tryz.results17, go_sem, r9, recV]
  · skip
    go_wp2_with fail
    replace X := X.below (Below.refl _ _).drew
    replace Y := Y.below (Below.refl _ _).drew
    replace hc := hc.below (Below.refl _ _).drew
    replace K := K.drew
    clear q qf qz r
    refine wp_region_noPanic ?_
    refine wp_region_held_drew (S := fun W => ∀ o, W.cell? ⟨w.heap.size, o, none⟩ = (stC Y0 Y1 Y2 Y3 n0 f0 n1 f1 n2 f2 n3 f3 ph co ck bo ba lb gd pr)[o]?) (by kernel_rfl) Y.C (fun _ => ?_)
    generalize w1.drew = wd at X Y hc K ⊢
    refine wpAnyH_take (i := 0) (v := ?_) rfl (by kernel_rfl) (by kernel_rfl) (by kernel_rfl) (fun _ _ _ h => h) (Or.inl ⟨by rfl, ?_⟩) Y.C ?_
    rotate_left 1
    · intro w hSw
      skip
      go_simp
      try with_reducible rfl
    change wpAnyH _ _ _ _ _ _ _ (Act.put _ (some 26) _) _
    dsimp only [Act.put]
    refine wpAnyH_take (i := 2) (v := ?_) rfl (by kernel_rfl) (by kernel_rfl) (by kernel_rfl) (fun _ _ _ h => h) (Or.inl ⟨by rfl, ?_⟩) Y.C ?_
    rotate_left 1
    · intro w hSw
      skip
      go_simp
      try with_reducible rfl
    change wpAnyH _ _ _ _ _ _ _ (Act.put _ (some 28) _) _
    dsimp only [Act.put]
    refine wpAnyH_take (i := 3) (v := ?_) rfl (by kernel_rfl) (by kernel_rfl) (by kernel_rfl) (fun _ _ _ h => h) (Or.inl ⟨by rfl, ?_⟩) Y.C ?_
    rotate_left 1
    · intro w hSw
      skip
      go_simp
      try with_reducible rfl
    change wpAnyH _ _ _ _ _ _ _ (Act.put _ (some 29) _) _
    dsimp only [Act.put]
    refine wpAnyH_take (i := 4) (v := ?_) rfl (by kernel_rfl) (by kernel_rfl) (by kernel_rfl) (fun _ _ _ h => h) (Or.inl ⟨by rfl, ?_⟩) Y.C ?_
    rotate_left 1
    · intro w hSw
      skip
      go_simp
      try with_reducible rfl
    change wpAnyH _ _ _ _ _ _ _ (Act.put _ (some 30) _) _
    dsimp only [Act.put]
    refine wpAnyH_take (i := 5) (v := ?_) rfl (by kernel_rfl) (by kernel_rfl) (by kernel_rfl) (fun _ _ _ h => h) (Or.inl ⟨by rfl, ?_⟩) Y.C ?_
    rotate_left 1
    · intro w hSw
      skip
      go_simp
      try with_reducible rfl
    change wpAnyH _ _ _ _ _ _ _ (Act.put _ (some 31) _) _
    dsimp only [Act.put]
    refine wpAnyH_take (i := 6) (v := ?_) rfl (by kernel_rfl) (by kernel_rfl) (by kernel_rfl) (fun _ _ _ h => h) (Or.inl ⟨by rfl, ?_⟩) Y.C ?_
    rotate_left 1
    · intro w hSw
      skip
      go_simp
      try with_reducible rfl
    change wpAnyH _ _ _ _ _ _ _ (Act.put _ (some 32) _) _
    dsimp only [Act.put]
    rw [IntWalk.i64_in ((n1 : Int) + 1) (by omega)]
    refine wpAnyH_take (i := 8) (v := ?_) rfl (by kernel_rfl) (by kernel_rfl) (by kernel_rfl) (fun _ _ _ h => h) (Or.inl ⟨by rfl, ?_⟩) Y.C ?_
    rotate_left 1
    · intro w hSw
      skip
      go_simp
      try with_reducible rfl
    change wpAnyH _ _ _ _ _ _ _ (Act.put _ (some 34) _) _
    dsimp only [Act.put]
    refine wpAnyH_ready (rs := [1]) (by kernel_rfl) (by simp) ?_
    refine AllReadyH.cons rfl (fun K' hK => ?_) AllReadyH.nil
    go_simp
    go_at_call 37
    refine (l1From_any g 3 4 _ hc (by omega) (by omega) (by omega) (by omega)).mono ?_
    rintro e w2 ⟨a2, rfl, x2, y2, hc2, hk⟩
    replace K := K.trans hk
    replace X := X.keeps hk g4
    replace Y := Y.keeps hk g3
    replace hc := hc2
    clear hc2 hk
    go_wp2_with fail
    refine hK.out _ _ Y.C (fun _ => ?_)
    clear hK K'
    try (change wpAnyH _ _ _ _ _ _ _ (Act.put _ (some 27) _) _; dsimp only [Act.put])
    refine wpAnyH_ready (rs := [7]) (by kernel_rfl) (by simp) ?_
    refine AllReadyH.cons rfl (fun K' hK => ?_) AllReadyH.nil
    go_simp
    go_at_call 16
    refine (l1Below_any g ((n1 : Int) + 1) _ hc (by omega) (by omega)).mono ?_
    rintro e w3 ⟨a3, rfl, x3, y3, hc3, hk⟩
    replace K := K.trans hk
    replace X := X.keeps hk g4
    replace Y := Y.keeps hk g3
    replace hc := hc3
    clear hc3 hk
    go_wp2_with fail
    refine hK.out _ _ Y.C (fun _ => ?_)
    clear hK K'
    try (change wpAnyH _ _ _ _ _ _ _ (Act.put _ (some 33) _) _; dsimp only [Act.put])
    refine wpAnyH_ready (rs := [9]) (by kernel_rfl) (by simp) ?_
    refine AllReadyH.cons rfl (fun K' hK => ?_) AllReadyH.nil
    go_simp
    go_at_call 16
    refine (l1Below_any g 7 _ hc (by omega) (by omega)).mono ?_
    rintro e w4 ⟨a4, rfl, x4, y4, hc4, hk⟩
    replace K := K.trans hk
    replace X := X.keeps hk g4
    replace Y := Y.keeps hk g3
    replace hc := hc4
    clear hc4 hk
    go_wp2_with fail
    refine hK.out _ _ Y.C (fun _ => ?_)
    clear hK K'
    try (change wpAnyH _ _ _ _ _ _ _ (Act.put _ (some 35) _) _; dsimp only [Act.put])
    refine wpAnyH_take (i := 10) (v := ?_) rfl (by kernel_rfl) (by kernel_rfl) (by kernel_rfl) (fun _ _ _ h => h) (Or.inl ⟨by rfl, ?_⟩) Y.C ?_
    rotate_left 1
    · intro w hSw
      skip
      go_simp
      try with_reducible rfl
    change wpAnyH _ _ _ _ _ _ _ (Act.put _ (some 36) _) _
    dsimp only [Act.put]
    refine wpAnyH_ready (rs := [11]) (by kernel_rfl) (by simp) ?_
    refine AllReadyH.cons rfl (fun K' hK => ?_) AllReadyH.nil
    have q := X.C
    have qf := X.F
    have qz := X.z
    have r := Y.C
    go_simp
    have X9 := ((X.set (i := 0) (by simp) (.int .i64 a2)).set (i := 1) (by simp) (.int .i64 a3)).set (i := 2) (by simp) (.int .i64 a4)
    have C9 := ((hc.far (p := ⟨w.heap.size + 1, 0, none⟩) l4 (.int .i64 a2)).far (p := ⟨w.heap.size + 1, 1, none⟩) l4 (.int .i64 a3)).far (p := ⟨w.heap.size + 1, 2, none⟩) l4 (.int .i64 a4)
    have K9 := ((K.far (p := ⟨w.heap.size + 1, 0, none⟩) (Nat.le_succ _) (.int .i64 a2)).far (p := ⟨w.heap.size + 1, 1, none⟩) (Nat.le_succ _) (.int .i64 a3)).far (p := ⟨w.heap.size + 1, 2, none⟩) (Nat.le_succ _) (.int .i64 a4)
    have KY := (((Keeps.refl (· = w.heap.size + 1) w4).set (p := ⟨w.heap.size + 1, 0, none⟩) rfl (.int .i64 a2)).set (p := ⟨w.heap.size + 1, 1, none⟩) rfl (.int .i64 a3)).set (p := ⟨w.heap.size + 1, 2, none⟩) rfl (.int .i64 a4)
    have Y9 := Y.keeps KY (Nat.ne_of_lt (Nat.lt_succ_self _))
    have r9 := X9.C
    refine hK.out _ _ Y9.C (fun _ => ?_)
    clear hK K'
    refine wpAnyH_done (by kernel_rfl) ?_ _
    refine NoPanic.normal ?_
    clear q qf qz r
    go_wp2_with fail
    refine bodyPost_ret (v := recV ⟨a2, a3, a4⟩) ?_ rfl ⟨⟨a2, a3, a4⟩, rfl, C9, K9⟩
    simp [results, Tryz.results17, go_sem, r9, recV]
  · skip
    go_wp2_with fail
    refine (l1Below_any g ((n2 : Int) + 1) _ hc (by omega) (by omega)).mono ?_
    rintro e w2 ⟨a2, rfl, x2, y2, hc2, hk⟩
    replace K := K.trans hk
    replace X := X.keeps hk g4
    replace Y := Y.keeps hk g3
    replace hc := hc2
    clear hc2 hk
    have q := X.C
    have qf := X.F
    have qz := X.z
    have r := Y.C
    go_wp2_with fail
    have X9 := ((X.set (i := 0) (by simp) (.int .i64 (5))).set (i := 1) (by simp) (.int .i64 (a2))).set (i := 2) (by simp) (.int .i64 (0))
    have r9 := X9.C
    have C9 := ((hc.far (p := ⟨w.heap.size + 1, 0, none⟩) l4 (.int .i64 (5))).far (p := ⟨w.heap.size + 1, 1, none⟩) l4 (.int .i64 (a2))).far (p := ⟨w.heap.size + 1, 2, none⟩) l4 (.int .i64 (0))
    have K9 := ((K.far (p := ⟨w.heap.size + 1, 0, none⟩) (Nat.le_succ _) (.int .i64 (5))).far (p := ⟨w.heap.size + 1, 1, none⟩) (Nat.le_succ _) (.int .i64 (a2))).far (p := ⟨w.heap.size + 1, 2, none⟩) (Nat.le_succ _) (.int .i64 (0))
    refine bodyPost_ret (v := recV ⟨5, a2, 0⟩) ?_ rfl ⟨⟨5, a2, 0⟩, rfl, C9, K9⟩
    simp [results, Tryz.results17, go_sem, r9, recV]
  · skip
    go_wp2_with fail
    refine (l1From_any g 6 7 _ hc (by omega) (by omega) (by omega) (by omega)).mono ?_
    rintro e w2 ⟨a2, rfl, x2, y2, hc2, hk⟩
    replace K := K.trans hk
    replace X := X.keeps hk g4
    replace Y := Y.keeps hk g3
    replace hc := hc2
    clear hc2 hk
    have q := X.C
    have qf := X.F
    have qz := X.z
    have r := Y.C
    go_wp2_with fail
    refine (l1Below_any g 9 _ hc (by omega) (by omega)).mono ?_
    rintro e w3 ⟨a3, rfl, x3, y3, hc3, hk⟩
    replace K := K.trans hk
    replace X := X.keeps hk g4
    replace Y := Y.keeps hk g3
    replace hc := hc3
    clear hc3 hk
    have q := X.C
    have qf := X.F
    have qz := X.z
    have r := Y.C
    go_wp2_with fail
    have X9 := ((X.set (i := 0) (by simp) (.int .i64 (a2))).set (i := 1) (by simp) (.int .i64 (a3))).set (i := 2) (by simp) (.int .i64 (0))
    have r9 := X9.C
    have C9 := ((hc.far (p := ⟨w.heap.size + 1, 0, none⟩) l4 (.int .i64 (a2))).far (p := ⟨w.heap.size + 1, 1, none⟩) l4 (.int .i64 (a3))).far (p := ⟨w.heap.size + 1, 2, none⟩) l4 (.int .i64 (0))
    have K9 := ((K.far (p := ⟨w.heap.size + 1, 0, none⟩) (Nat.le_succ _) (.int .i64 (a2))).far (p := ⟨w.heap.size + 1, 1, none⟩) (Nat.le_succ _) (.int .i64 (a3))).far (p := ⟨w.heap.size + 1, 2, none⟩) (Nat.le_succ _) (.int .i64 (0))
    refine bodyPost_ret (v := recV ⟨a2, a3, 0⟩) ?_ rfl ⟨⟨a2, a3, 0⟩, rfl, C9, K9⟩
    simp [results, Tryz.results17, go_sem, r9, recV]
  · skip
    go_wp2_with fail
    refine (l1Below_any g 4 _ hc (by omega) (by omega)).mono ?_
    rintro e w2 ⟨a2, rfl, x2, y2, hc2, hk⟩
    replace K := K.trans hk
    replace X := X.keeps hk g4
    replace Y := Y.keeps hk g3
    replace hc := hc2
    clear hc2 hk
    have q := X.C
    have qf := X.F
    have qz := X.z
    have r := Y.C
    go_wp2_with fail
    refine (l1Below_any g 6 _ hc (by omega) (by omega)).mono ?_
    rintro e w3 ⟨a3, rfl, x3, y3, hc3, hk⟩
    replace K := K.trans hk
    replace X := X.keeps hk g4
    replace Y := Y.keeps hk g3
    replace hc := hc3
    clear hc3 hk
    have q := X.C
    have qf := X.F
    have qz := X.z
    have r := Y.C
    go_wp2_with fail
    have X9 := ((X.set (i := 0) (by simp) (.int .i64 (12))).set (i := 1) (by simp) (.int .i64 (a2))).set (i := 2) (by simp) (.int .i64 (a3))
    have r9 := X9.C
    have C9 := ((hc.far (p := ⟨w.heap.size + 1, 0, none⟩) l4 (.int .i64 (12))).far (p := ⟨w.heap.size + 1, 1, none⟩) l4 (.int .i64 (a2))).far (p := ⟨w.heap.size + 1, 2, none⟩) l4 (.int .i64 (a3))
    have K9 := ((K.far (p := ⟨w.heap.size + 1, 0, none⟩) (Nat.le_succ _) (.int .i64 (12))).far (p := ⟨w.heap.size + 1, 1, none⟩) (Nat.le_succ _) (.int .i64 (a2))).far (p := ⟨w.heap.size + 1, 2, none⟩) (Nat.le_succ _) (.int .i64 (a3))
    refine bodyPost_ret (v := recV ⟨12, a2, a3⟩) ?_ rfl ⟨⟨12, a2, a3⟩, rfl, C9, K9⟩
    simp [results, Tryz.results17, go_sem, r9, recV]
  · skip
    go_wp2_with fail
    refine (l3DrawAny_any g _ hc).mono ?_
    rintro e w2 ⟨⟨rk, ra, rb⟩, rfl, hc2, hk⟩
    replace K := K.trans hk
    replace X := X.keeps hk g4
    replace hc := hc2
    clear hc2 hk r q qf qz
    have q := X.C
    have qf := X.F
    have qz := X.z
    unfold recV
    dsimp only
    go_wp2_with fail
    have X9 := ((X.set (i := 0) (by simp) (.int .i64 (rk))).set (i := 1) (by simp) (.int .i64 (ra))).set (i := 2) (by simp) (.int .i64 (rb))
    have r9 := X9.C
    have C9 := ((hc.far (p := ⟨w.heap.size + 1, 0, none⟩) l4 (.int .i64 (rk))).far (p := ⟨w.heap.size + 1, 1, none⟩) l4 (.int .i64 (ra))).far (p := ⟨w.heap.size + 1, 2, none⟩) l4 (.int .i64 (rb))
    have K9 := ((K.far (p := ⟨w.heap.size + 1, 0, none⟩) (Nat.le_succ _) (.int .i64 (rk))).far (p := ⟨w.heap.size + 1, 1, none⟩) (Nat.le_succ _) (.int .i64 (ra))).far (p := ⟨w.heap.size + 1, 2, none⟩) (Nat.le_succ _) (.int .i64 (rb))
    refine bodyPost_ret (v := recV ⟨rk, ra, rb⟩) ?_ rfl ⟨⟨rk, ra, rb⟩, rfl, C9, K9⟩
    simp [results, Tryz.results17, go_sem, r9, recV]
end Go.Proofs.YtoddmijfdmjfbaaGreatDoor
