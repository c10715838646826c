/-
  The model's draw of a plan, a state and a list of records.
-/
import Derived.Test.YtdkmhaghnfhajaaGreatDoorMZ7
import Derived.Test.YtdkmhaghnfhajaaGreatDoorMZ6
import Derived.Test.YtdkmhaghnfhajaaGreatDoorMZ3
import Derived.Test.YtdkmhaghnfhajaaGreatDoorMZ16
import Derived.Deep.DeepCutAuto
/- Db -/
set_option linter.unusedVariables false
namespace Go.Proofs.YtdkmhaghnfhajaaGreatDoor
open Go.RowKit

set_option maxRecDepth 100000 in
set_option maxHeartbeats 4000000 in
theorem l3DrawAny_any (g : Nat) (w : World) (h : Cur 141 .i64 w g) : Calls Tryz.prog 131 #[.pointer (some ⟨g, 0, none⟩)] w (DrawnRec g w) := by
  have hl := h.lt
  have hne : ¬ w.heap.size = g := by omega
  have X0 := Blk.new w #[.int .i64 0, .int .i64 0, .int .i64 0] 52
  have hc0 : Cur 141 .i64 (w.alloc (.cells #[.int .i64 0, .int .i64 0, .int .i64 0] 52)) g := h.alloc _
  have hK0 : Keeps (· = g) w (w.alloc (.cells #[.int .i64 0, .int .i64 0, .int .i64 0] 52)) := (Keeps.refl _ _).alloc _
  clear h
  go_enter Tryz.func131, Tryz.ntmps131
  go_wp2_with fail
  refine (l3Draw_any g _ hc0).mono ?_
  rintro e w1 ⟨⟨rk, ra, rb⟩, rfl, hc1, hk1⟩
  have K1 := hK0.trans hk1
  have X1 := X0.keeps hk1 hne
  have hlt1 := X1.z
  unfold recV
  dsimp only
  clear hc0 hK0 hk1 X0
  go_wp2_with fail
  have K2 := K1.alloc (.cells #[.int .i64 rk, .int .i64 ra, .int .i64 rb] 52)
  have X2 := X1.alloc (.cells #[.int .i64 rk, .int .i64 ra, .int .i64 rb] 52)
  have Y2 := Blk.new w1 #[.int .i64 rk, .int .i64 ra, .int .i64 rb] 52
  have hc2 := hc1.alloc (.cells #[.int .i64 rk, .int .i64 ra, .int .i64 rb] 52)
  have hr : w.heap.size < w1.heap.size := hlt1
  have hrg : ¬ w1.heap.size = g := by omega
  clear K1 X1 hc1 hlt1
  generalize w1.alloc (.cells #[.int .i64 rk, .int .i64 ra, .int .i64 rb] 52) = w2 at K2 X2 Y2 hc2 ⊢
  generalize w1.heap.size = R at Y2 hr hrg ⊢
  refine (l1Once_any g 6 _ hc2 (by omega) (by omega)).mono ?_
  rintro e w3 ⟨b, rfl, hc3, hk3⟩
  have K3 := K2.trans hk3
  have X3 := X2.keeps hk3 hne
  have Y3 := Y2.keeps hk3 hrg
  clear K2 X2 Y2 hc2 hk3
  cases b
  · have q0 := X3.C
    have q1 := X3.F
    have q2 := Y3.C
    go_wp2_with fail
    have X9 := ((X3.set (i := 0) (by decide) (.int .i64 rk)).set (i := 1) (by simp) (.int .i64 ra)).set (i := 2) (by simp) (.int .i64 rb)
    have r9 := X9.C
    have C9 := ((hc3.far (p := ⟨w.heap.size, 0, none⟩) hl (.int .i64 rk)).far (p := ⟨w.heap.size, 1, none⟩) hl (.int .i64 ra)).far (p := ⟨w.heap.size, 2, none⟩) hl (.int .i64 rb)
    have K9 := ((K3.far (p := ⟨w.heap.size, 0, none⟩) (Nat.le_refl _) (.int .i64 rk)).far (p := ⟨w.heap.size, 1, none⟩) (Nat.le_refl _) (.int .i64 ra)).far (p := ⟨w.heap.size, 2, none⟩) (Nat.le_refl _) (.int .i64 rb)
    refine bodyPost_ret (v := recV ⟨rk, ra, rb⟩) ?_ rfl ⟨⟨rk, ra, rb⟩, rfl, C9, K9⟩
    simp [results, Tryz.results131, go_sem, r9, recV]
  · go_wp2_with fail
    refine (l1Below_any g 3 _ hc3 (by omega) (by omega)).mono ?_
    rintro e w4 ⟨x, rfl, x0, x1, hc4, hk4⟩
    have K4 := K3.trans hk4
    have X4 := X3.keeps hk4 hne
    have Y4 := Y3.keeps hk4 hrg
    clear K3 X3 Y3 hc3 hk4
    rcases (by omega : x = 0 ∨ x = 1 ∨ x = 2) with rfl | rfl | rfl
    · go_wp2_with fail
      refine (l1From_any g 0 13 _ hc4 (by omega) (by omega) (by omega) (by omega)).mono ?_
      rintro e w5 ⟨y, rfl, y0, y1, hc5, hk5⟩
      have K5 := K4.trans hk5
      have X5 := X4.keeps hk5 hne
      have Y5 := Y4.keeps hk5 hrg
      have Y6 := Y5.set (i := 0) (by simp) (.int .i64 y)
      have X6 := X5.keeps ((Keeps.refl (· = R) w5).set (p := ⟨R, 0, none⟩) rfl (.int .i64 y)) (by show ¬ w.heap.size = R; omega)
      have C6 := hc5.far (p := ⟨R, 0, none⟩) (by show g < R; omega) (.int .i64 y)
      have K6 := K5.far (p := ⟨R, 0, none⟩) (by show w.heap.size ≤ R; omega) (.int .i64 y)
      have q0 := Y5.C
      have q1 := Y5.F
      have q2 := X5.C
      have q3 := X5.F
      have q4 := Y6.C
      have q5 := X6.C
      have q6 := X6.F
      clear K4 X4 Y4 hc4 hk5 hc5 K5
      go_wp2_with fail
      have X9 := ((X6.set (i := 0) (by decide) (.int .i64 y)).set (i := 1) (by simp) (.int .i64 ra)).set (i := 2) (by simp) (.int .i64 rb)
      have r9 := X9.C
      have C9 := ((C6.far (p := ⟨w.heap.size, 0, none⟩) hl (.int .i64 y)).far (p := ⟨w.heap.size, 1, none⟩) hl (.int .i64 ra)).far (p := ⟨w.heap.size, 2, none⟩) hl (.int .i64 rb)
      have K9 := ((K6.far (p := ⟨w.heap.size, 0, none⟩) (Nat.le_refl _) (.int .i64 y)).far (p := ⟨w.heap.size, 1, none⟩) (Nat.le_refl _) (.int .i64 ra)).far (p := ⟨w.heap.size, 2, none⟩) (Nat.le_refl _) (.int .i64 rb)
      refine bodyPost_ret (v := recV ⟨y, ra, rb⟩) ?_ rfl ⟨⟨y, ra, rb⟩, rfl, C9, K9⟩
      simp [results, Tryz.results131, go_sem, r9, recV]
    · go_wp2_with fail
      refine (l1Num_any g 1000000 _ hc4 (by omega) (by omega)).mono ?_
      rintro e w5 ⟨y, rfl, hc5, hk5⟩
      have K5 := K4.trans hk5
      have X5 := X4.keeps hk5 hne
      have Y5 := Y4.keeps hk5 hrg
      have Y6 := Y5.set (i := 1) (by simp) (.int .i64 y)
      have X6 := X5.keeps ((Keeps.refl (· = R) w5).set (p := ⟨R, 1, none⟩) rfl (.int .i64 y)) (by show ¬ w.heap.size = R; omega)
      have C6 := hc5.far (p := ⟨R, 1, none⟩) (by show g < R; omega) (.int .i64 y)
      have K6 := K5.far (p := ⟨R, 1, none⟩) (by show w.heap.size ≤ R; omega) (.int .i64 y)
      have q0 := Y5.C
      have q1 := Y5.F
      have q2 := X5.C
      have q3 := X5.F
      have q4 := Y6.C
      have q5 := X6.C
      have q6 := X6.F
      clear K4 X4 Y4 hc4 hk5 hc5 K5
      go_wp2_with fail
      have X9 := ((X6.set (i := 0) (by decide) (.int .i64 rk)).set (i := 1) (by simp) (.int .i64 y)).set (i := 2) (by simp) (.int .i64 rb)
      have r9 := X9.C
      have C9 := ((C6.far (p := ⟨w.heap.size, 0, none⟩) hl (.int .i64 rk)).far (p := ⟨w.heap.size, 1, none⟩) hl (.int .i64 y)).far (p := ⟨w.heap.size, 2, none⟩) hl (.int .i64 rb)
      have K9 := ((K6.far (p := ⟨w.heap.size, 0, none⟩) (Nat.le_refl _) (.int .i64 rk)).far (p := ⟨w.heap.size, 1, none⟩) (Nat.le_refl _) (.int .i64 y)).far (p := ⟨w.heap.size, 2, none⟩) (Nat.le_refl _) (.int .i64 rb)
      refine bodyPost_ret (v := recV ⟨rk, y, rb⟩) ?_ rfl ⟨⟨rk, y, rb⟩, rfl, C9, K9⟩
      simp [results, Tryz.results131, go_sem, r9, recV]
    · go_wp2_with fail
      refine (l1Num_any g 1000000 _ hc4 (by omega) (by omega)).mono ?_
      rintro e w5 ⟨y, rfl, hc5, hk5⟩
      have K5 := K4.trans hk5
      have X5 := X4.keeps hk5 hne
      have Y5 := Y4.keeps hk5 hrg
      have Y6 := Y5.set (i := 2) (by simp) (.int .i64 y)
      have X6 := X5.keeps ((Keeps.refl (· = R) w5).set (p := ⟨R, 2, none⟩) rfl (.int .i64 y)) (by show ¬ w.heap.size = R; omega)
      have C6 := hc5.far (p := ⟨R, 2, none⟩) (by show g < R; omega) (.int .i64 y)
      have K6 := K5.far (p := ⟨R, 2, none⟩) (by show w.heap.size ≤ R; omega) (.int .i64 y)
      have q0 := Y5.C
      have q1 := Y5.F
      have q2 := X5.C
      have q3 := X5.F
      have q4 := Y6.C
      have q5 := X6.C
      have q6 := X6.F
      clear K4 X4 Y4 hc4 hk5 hc5 K5
      go_wp2_with fail
      have X9 := ((X6.set (i := 0) (by decide) (.int .i64 rk)).set (i := 1) (by simp) (.int .i64 ra)).set (i := 2) (by simp) (.int .i64 y)
      have r9 := X9.C
      have C9 := ((C6.far (p := ⟨w.heap.size, 0, none⟩) hl (.int .i64 rk)).far (p := ⟨w.heap.size, 1, none⟩) hl (.int .i64 ra)).far (p := ⟨w.heap.size, 2, none⟩) hl (.int .i64 y)
      have K9 := ((K6.far (p := ⟨w.heap.size, 0, none⟩) (Nat.le_refl _) (.int .i64 rk)).far (p := ⟨w.heap.size, 1, none⟩) (Nat.le_refl _) (.int .i64 ra)).far (p := ⟨w.heap.size, 2, none⟩) (Nat.le_refl _) (.int .i64 y)
      refine bodyPost_ret (v := recV ⟨rk, ra, y⟩) ?_ rfl ⟨⟨rk, ra, y⟩, rfl, C9, K9⟩
      simp [results, Tryz.results131, go_sem, r9, recV]
end Go.Proofs.YtdkmhaghnfhajaaGreatDoor
/- Dn -/
set_option linter.unusedVariables false
namespace Go.Proofs.YtdkmhaghnfhajaaGreatDoor
open Go.RowKit

set_option maxRecDepth 100000 in
set_option maxHeartbeats 8000000 in
theorem l6DrawRec_any (g : Nat) (w : World) (h : Cur 141 .i64 w g) {Y0 Y1 Y2 Y3 : Option Addr} {n0 f0 n1 f1 n2 f2 n3 f3 : Nat} {ph : Int} {co : Bool} {ck bo ba lb gd pr : Int} (h0 : n0 ≤ 13) (h1 : n1 ≤ 13) (h2 : n2 ≤ 13) :
    Calls Tryz.prog 70 #[.pointer (some ⟨g, 0, none⟩), .agg (stC Y0 Y1 Y2 Y3 n0 f0 n1 f1 n2 f2 n3 f3 ph co ck bo ba lb gd pr)] w (DrawnRec g w) := by
  have hl := h.lt
  have Y := (Blk.new w (stC Y0 Y1 Y2 Y3 n0 f0 n1 f1 n2 f2 n3 f3 ph co ck bo ba lb gd pr) 34).alloc (.cells #[.int .i64 0, .int .i64 0, .int .i64 0] 52)
  have X := Blk.new (w.alloc (.cells (stC Y0 Y1 Y2 Y3 n0 f0 n1 f1 n2 f2 n3 f3 ph co ck bo ba lb gd pr) 34)) #[.int .i64 0, .int .i64 0, .int .i64 0] 52
  rw [show ∀ (W : World) (o : Obj), (W.alloc o).heap.size = W.heap.size + 1 from fun W o => by simp] at X
  have hc := (h.alloc (.cells (stC Y0 Y1 Y2 Y3 n0 f0 n1 f1 n2 f2 n3 f3 ph co ck bo ba lb gd pr) 34)).alloc (.cells #[.int .i64 0, .int .i64 0, .int .i64 0] 52)
  have K : Keeps (· = g) w ((w.alloc (.cells (stC Y0 Y1 Y2 Y3 n0 f0 n1 f1 n2 f2 n3 f3 ph co ck bo ba lb gd pr) 34)).alloc (.cells #[.int .i64 0, .int .i64 0, .int .i64 0] 52)) := ((Keeps.refl _ _).alloc _).alloc _
  have g3 : ¬ w.heap.size = g := by omega
  have g4 : ¬ w.heap.size + 1 = g := by omega
  have l4 : g < w.heap.size + 1 := by omega
  clear h
  go_enter Tryz.func70, Tryz.ntmps70
  go_wp2_with fail
  generalize (w.alloc (.cells (stC Y0 Y1 Y2 Y3 n0 f0 n1 f1 n2 f2 n3 f3 ph co ck bo ba lb gd pr) 34)).alloc (.cells #[.int .i64 0, .int .i64 0, .int .i64 0] 52) = w0 at X Y hc K ⊢
  refine (l1Below_any g 8 _ hc (by omega) (by omega)).mono ?_
  rintro e w1 ⟨a1, rfl, x1, y1, hc1, hk⟩
  replace K := K.trans hk
  replace X := X.keeps hk g4
  replace Y := Y.keeps hk g3
  replace hc := hc1
  clear hc1 hk
  have q := X.C
  have qf := X.F
  have qz := X.z
  have r := Y.C
  rcases (by omega : a1 = 0 ∨ a1 = 1 ∨ a1 = 2 ∨ a1 = 3 ∨ a1 = 4 ∨ a1 = 5 ∨ a1 = 6 ∨ a1 = 7) with rfl | rfl | rfl | rfl | rfl | rfl | rfl | rfl
  · skip
    go_wp2_with fail
    refine (l1Below_any g 10 _ hc (by omega) (by omega)).mono ?_
    rintro e w2 ⟨a2, rfl, x2, y2, hc2, hk⟩
    replace K := K.trans hk
    replace X := X.keeps hk g4
    replace Y := Y.keeps hk g3
    replace hc := hc2
    clear hc2 hk
    have q := X.C
    have qf := X.F
    have qz := X.z
    have r := Y.C
    go_wp2_with fail
    have X9 := ((X.set (i := 0) (by simp) (.int .i64 (1))).set (i := 1) (by simp) (.int .i64 (a2))).set (i := 2) (by simp) (.int .i64 (0))
    have r9 := X9.C
    have C9 := ((hc.far (p := ⟨w.heap.size + 1, 0, none⟩) l4 (.int .i64 (1))).far (p := ⟨w.heap.size + 1, 1, none⟩) l4 (.int .i64 (a2))).far (p := ⟨w.heap.size + 1, 2, none⟩) l4 (.int .i64 (0))
    have K9 := ((K.far (p := ⟨w.heap.size + 1, 0, none⟩) (Nat.le_succ _) (.int .i64 (1))).far (p := ⟨w.heap.size + 1, 1, none⟩) (Nat.le_succ _) (.int .i64 (a2))).far (p := ⟨w.heap.size + 1, 2, none⟩) (Nat.le_succ _) (.int .i64 (0))
    refine bodyPost_ret (v := recV ⟨1, a2, 0⟩) ?_ rfl ⟨⟨1, a2, 0⟩, rfl, C9, K9⟩
    simp [results, Tryz.results70, go_sem, r9, recV]
  · skip
    go_wp2_with fail
    refine (l1Below_any g ((n0 : Int) + 1) _ hc (by omega) (by omega)).mono ?_
    rintro e w2 ⟨a2, rfl, x2, y2, hc2, hk⟩
    replace K := K.trans hk
    replace X := X.keeps hk g4
    replace Y := Y.keeps hk g3
    replace hc := hc2
    clear hc2 hk
    have q := X.C
    have qf := X.F
    have qz := X.z
    have r := Y.C
    go_wp2_with fail
    refine (l1Below_any g 8 _ hc (by omega) (by omega)).mono ?_
    rintro e w3 ⟨a3, rfl, x3, y3, hc3, hk⟩
    replace K := K.trans hk
    replace X := X.keeps hk g4
    replace Y := Y.keeps hk g3
    replace hc := hc3
    clear hc3 hk
    have q := X.C
    have qf := X.F
    have qz := X.z
    have r := Y.C
    go_wp2_with fail
    have X9 := ((X.set (i := 0) (by simp) (.int .i64 (2))).set (i := 1) (by simp) (.int .i64 (a2))).set (i := 2) (by simp) (.int .i64 (a3))
    have r9 := X9.C
    have C9 := ((hc.far (p := ⟨w.heap.size + 1, 0, none⟩) l4 (.int .i64 (2))).far (p := ⟨w.heap.size + 1, 1, none⟩) l4 (.int .i64 (a2))).far (p := ⟨w.heap.size + 1, 2, none⟩) l4 (.int .i64 (a3))
    have K9 := ((K.far (p := ⟨w.heap.size + 1, 0, none⟩) (Nat.le_succ _) (.int .i64 (2))).far (p := ⟨w.heap.size + 1, 1, none⟩) (Nat.le_succ _) (.int .i64 (a2))).far (p := ⟨w.heap.size + 1, 2, none⟩) (Nat.le_succ _) (.int .i64 (a3))
    refine bodyPost_ret (v := recV ⟨2, a2, a3⟩) ?_ rfl ⟨⟨2, a2, a3⟩, rfl, C9, K9⟩
    simp [results, Tryz.results70, go_sem, r9, recV]
  · skip
    go_wp2_with fail
    refine (l1Below_any g ((n0 : Int) + 1) _ hc (by omega) (by omega)).mono ?_
    rintro e w2 ⟨a2, rfl, x2, y2, hc2, hk⟩
    replace K := K.trans hk
    replace X := X.keeps hk g4
    replace Y := Y.keeps hk g3
    replace hc := hc2
    clear hc2 hk
    have q := X.C
    have qf := X.F
    have qz := X.z
    have r := Y.C
    go_wp2_with fail
    refine (l1Below_any g 8 _ hc (by omega) (by omega)).mono ?_
    rintro e w3 ⟨a3, rfl, x3, y3, hc3, hk⟩
    replace K := K.trans hk
    replace X := X.keeps hk g4
    replace Y := Y.keeps hk g3
    replace hc := hc3
    clear hc3 hk
    have q := X.C
    have qf := X.F
    have qz := X.z
    have r := Y.C
    go_wp2_with fail
    have X9 := ((X.set (i := 0) (by simp) (.int .i64 (2))).set (i := 1) (by simp) (.int .i64 (a2))).set (i := 2) (by simp) (.int .i64 (a3))
    have r9 := X9.C
    have C9 := ((hc.far (p := ⟨w.heap.size + 1, 0, none⟩) l4 (.int .i64 (2))).far (p := ⟨w.heap.size + 1, 1, none⟩) l4 (.int .i64 (a2))).far (p := ⟨w.heap.size + 1, 2, none⟩) l4 (.int .i64 (a3))
    have K9 := ((K.far (p := ⟨w.heap.size + 1, 0, none⟩) (Nat.le_succ _) (.int .i64 (2))).far (p := ⟨w.heap.size + 1, 1, none⟩) (Nat.le_succ _) (.int .i64 (a2))).far (p := ⟨w.heap.size + 1, 2, none⟩) (Nat.le_succ _) (.int .i64 (a3))
    refine bodyPost_ret (v := recV ⟨2, a2, a3⟩) ?_ rfl ⟨⟨2, a2, a3⟩, rfl, C9, K9⟩
    simp [results, Tryz.results70, go_sem, r9, recV]
  · skip
    go_wp2_with fail
    replace X := X.below (Below.refl _ _).drew
    replace Y := Y.below (Below.refl _ _).drew
    replace hc := hc.below (Below.refl _ _).drew
    replace K := K.drew
    clear q qf qz r
    refine wp_region_noPanic ?_
    refine wp_region_held_drew (S := fun W => ∀ o, W.cell? ⟨w.heap.size, o, none⟩ = (stC Y0 Y1 Y2 Y3 n0 f0 n1 f1 n2 f2 n3 f3 ph co ck bo ba lb gd pr)[o]?) (by kernel_rfl) Y.C (fun _ => ?_)
    generalize w1.drew = wd at X Y hc K ⊢
    refine wpAnyH_take (i := 0) (v := ?_) rfl (by kernel_rfl) (by kernel_rfl) (by kernel_rfl) (fun _ _ _ h => h) (Or.inl ⟨by rfl, ?_⟩) Y.C ?_
    rotate_left 1
    · intro w hSw
      skip
      go_simp
      try with_reducible rfl
    change wpAnyH _ _ _ _ _ _ _ (Act.put _ (some 26) _) _
    dsimp only [Act.put]
    refine wpAnyH_take (i := 2) (v := ?_) rfl (by kernel_rfl) (by kernel_rfl) (by kernel_rfl) (fun _ _ _ h => h) (Or.inl ⟨by rfl, ?_⟩) Y.C ?_
    rotate_left 1
    · intro w hSw
      skip
      go_simp
      try with_reducible rfl
    change wpAnyH _ _ _ _ _ _ _ (Act.put _ (some 28) _) _
    dsimp only [Act.put]
    refine wpAnyH_take (i := 3) (v := ?_) rfl (by kernel_rfl) (by kernel_rfl) (by kernel_rfl) (fun _ _ _ h => h) (Or.inl ⟨by rfl, ?_⟩) Y.C ?_
    rotate_left 1
    · intro w hSw
      skip
      go_simp
      try with_reducible rfl
    change wpAnyH _ _ _ _ _ _ _ (Act.put _ (some 29) _) _
    dsimp only [Act.put]
    refine wpAnyH_take (i := 4) (v := ?_) rfl (by kernel_rfl) (by kernel_rfl) (by kernel_rfl) (fun _ _ _ h => h) (Or.inl ⟨by rfl, ?_⟩) Y.C ?_
    rotate_left 1
    · intro w hSw
      skip
      go_simp
      try with_reducible rfl
    change wpAnyH _ _ _ _ _ _ _ (Act.put _ (some 30) _) _
    dsimp only [Act.put]
    refine wpAnyH_take (i := 5) (v := ?_) rfl (by kernel_rfl) (by kernel_rfl) (by kernel_rfl) (fun _ _ _ h => h) (Or.inl ⟨by rfl, ?_⟩) Y.C ?_
    rotate_left 1
    · intro w hSw
      skip
      go_simp
      try with_reducible rfl
    change wpAnyH _ _ _ _ _ _ _ (Act.put _ (some 31) _) _
    dsimp only [Act.put]
    refine wpAnyH_take (i := 6) (v := ?_) rfl (by kernel_rfl) (by kernel_rfl) (by kernel_rfl) (fun _ _ _ h => h) (Or.inl ⟨by rfl, ?_⟩) Y.C ?_
    rotate_left 1
    · intro w hSw
      skip
      go_simp
      try with_reducible rfl
    change wpAnyH _ _ _ _ _ _ _ (Act.put _ (some 32) _) _
    dsimp only [Act.put]
    rw [IntWalk.i64_in ((n1 : Int) + 1) (by omega)]
    refine wpAnyH_take (i := 8) (v := ?_) rfl (by kernel_rfl) (by kernel_rfl) (by kernel_rfl) (fun _ _ _ h => h) (Or.inl ⟨by rfl, ?_⟩) Y.C ?_
    rotate_left 1
    · intro w hSw
      skip
      go_simp
      try with_reducible rfl
    change wpAnyH _ _ _ _ _ _ _ (Act.put _ (some 34) _) _
    dsimp only [Act.put]
    refine wpAnyH_ready (rs := [1]) (by kernel_rfl) (by simp) ?_
    refine AllReadyH.cons rfl (fun K' hK => ?_) AllReadyH.nil
    go_simp
    go_at_call 77
    refine (l1From_any g 3 4 _ hc (by omega) (by omega) (by omega) (by omega)).mono ?_
    rintro e w2 ⟨a2, rfl, x2, y2, hc2, hk⟩
    replace K := K.trans hk
    replace X := X.keeps hk g4
    replace Y := Y.keeps hk g3
    replace hc := hc2
    clear hc2 hk
    go_wp2_with fail
    refine hK.out _ _ Y.C (fun _ => ?_)
    clear hK K'
    try (change wpAnyH _ _ _ _ _ _ _ (Act.put _ (some 27) _) _; dsimp only [Act.put])
    refine wpAnyH_ready (rs := [7]) (by kernel_rfl) (by simp) ?_
    refine AllReadyH.cons rfl (fun K' hK => ?_) AllReadyH.nil
    go_simp
    go_at_call 51
    refine (l1Below_any g ((n1 : Int) + 1) _ hc (by omega) (by omega)).mono ?_
    rintro e w3 ⟨a3, rfl, x3, y3, hc3, hk⟩
    replace K := K.trans hk
    replace X := X.keeps hk g4
    replace Y := Y.keeps hk g3
    replace hc := hc3
    clear hc3 hk
    go_wp2_with fail
    refine hK.out _ _ Y.C (fun _ => ?_)
    clear hK K'
    try (change wpAnyH _ _ _ _ _ _ _ (Act.put _ (some 33) _) _; dsimp only [Act.put])
    refine wpAnyH_ready (rs := [9]) (by kernel_rfl) (by simp) ?_
    refine AllReadyH.cons rfl (fun K' hK => ?_) AllReadyH.nil
    go_simp
    go_at_call 51
    refine (l1Below_any g 7 _ hc (by omega) (by omega)).mono ?_
    rintro e w4 ⟨a4, rfl, x4, y4, hc4, hk⟩
    replace K := K.trans hk
    replace X := X.keeps hk g4
    replace Y := Y.keeps hk g3
    replace hc := hc4
    clear hc4 hk
    go_wp2_with fail
    refine hK.out _ _ Y.C (fun _ => ?_)
    clear hK K'
    try (change wpAnyH _ _ _ _ _ _ _ (Act.put _ (some 35) _) _; dsimp only [Act.put])
    refine wpAnyH_take (i := 10) (v := ?_) rfl (by kernel_rfl) (by kernel_rfl) (by kernel_rfl) (fun _ _ _ h => h) (Or.inl ⟨by rfl, ?_⟩) Y.C ?_
    rotate_left 1
    · intro w hSw
      skip
      go_simp
      try with_reducible rfl
    change wpAnyH _ _ _ _ _ _ _ (Act.put _ (some 36) _) _
    dsimp only [Act.put]
    refine wpAnyH_ready (rs := [11]) (by kernel_rfl) (by simp) ?_
    refine AllReadyH.cons rfl (fun K' hK => ?_) AllReadyH.nil
    have q := X.C
    have qf := X.F
    have qz := X.z
    have r := Y.C
    go_simp
    have X9 := ((X.set (i := 0) (by simp) (.int .i64 a2)).set (i := 1) (by simp) (.int .i64 a3)).set (i := 2) (by simp) (.int .i64 a4)
    have C9 := ((hc.far (p := ⟨w.heap.size + 1, 0, none⟩) l4 (.int .i64 a2)).far (p := ⟨w.heap.size + 1, 1, none⟩) l4 (.int .i64 a3)).far (p := ⟨w.heap.size + 1, 2, none⟩) l4 (.int .i64 a4)
    have K9 := ((K.far (p := ⟨w.heap.size + 1, 0, none⟩) (Nat.le_succ _) (.int .i64 a2)).far (p := ⟨w.heap.size + 1, 1, none⟩) (Nat.le_succ _) (.int .i64 a3)).far (p := ⟨w.heap.size + 1, 2, none⟩) (Nat.le_succ _) (.int .i64 a4)
    have KY := (((Keeps.refl (· = w.heap.size + 1) w4).set (p := ⟨w.heap.size + 1, 0, none⟩) rfl (.int .i64 a2)).set (p := ⟨w.heap.size + 1, 1, none⟩) rfl (.int .i64 a3)).set (p := ⟨w.heap.size + 1, 2, none⟩) rfl (.int .i64 a4)
    have Y9 := Y.keeps KY (Nat.ne_of_lt (Nat.lt_succ_self _))
    have r9 := X9.C
    refine hK.out _ _ Y9.C (fun _ => ?_)
    clear hK K'
    refine wpAnyH_done (by kernel_rfl) ?_ _
    refine NoPanic.normal ?_
    clear q qf qz r
    go_wp2_with fail
    refine bodyPost_ret (v := recV ⟨a2, a3, a4⟩) ?_ rfl ⟨⟨a2, a3, a4⟩, rfl, C9, K9⟩
    simp [results, Tryz.results70, go_sem, r9, recV]
  · skip
    go_wp2_with fail
    refine (l1Below_any g ((n2 : Int) + 1) _ hc (by omega) (by omega)).mono ?_
    rintro e w2 ⟨a2, rfl, x2, y2, hc2, hk⟩
    replace K := K.trans hk
    replace X := X.keeps hk g4
    replace Y := Y.keeps hk g3
    replace hc := hc2
    clear hc2 hk
    have q := X.C
    have qf := X.F
    have qz := X.z
    have r := Y.C
    go_wp2_with fail
    have X9 := ((X.set (i := 0) (by simp) (.int .i64 (5))).set (i := 1) (by simp) (.int .i64 (a2))).set (i := 2) (by simp) (.int .i64 (0))
    have r9 := X9.C
    have C9 := ((hc.far (p := ⟨w.heap.size + 1, 0, none⟩) l4 (.int .i64 (5))).far (p := ⟨w.heap.size + 1, 1, none⟩) l4 (.int .i64 (a2))).far (p := ⟨w.heap.size + 1, 2, none⟩) l4 (.int .i64 (0))
    have K9 := ((K.far (p := ⟨w.heap.size + 1, 0, none⟩) (Nat.le_succ _) (.int .i64 (5))).far (p := ⟨w.heap.size + 1, 1, none⟩) (Nat.le_succ _) (.int .i64 (a2))).far (p := ⟨w.heap.size + 1, 2, none⟩) (Nat.le_succ _) (.int .i64 (0))
    refine bodyPost_ret (v := recV ⟨5, a2, 0⟩) ?_ rfl ⟨⟨5, a2, 0⟩, rfl, C9, K9⟩
    simp [results, Tryz.results70, go_sem, r9, recV]
  · skip
    go_wp2_with fail
    refine (l1From_any g 6 7 _ hc (by omega) (by omega) (by omega) (by omega)).mono ?_
    rintro e w2 ⟨a2, rfl, x2, y2, hc2, hk⟩
    replace K := K.trans hk
    replace X := X.keeps hk g4
    replace Y := Y.keeps hk g3
    replace hc := hc2
    clear hc2 hk
    have q := X.C
    have qf := X.F
    have qz := X.z
    have r := Y.C
    go_wp2_with fail
    refine (l1Below_any g 9 _ hc (by omega) (by omega)).mono ?_
    rintro e w3 ⟨a3, rfl, x3, y3, hc3, hk⟩
    replace K := K.trans hk
    replace X := X.keeps hk g4
    replace Y := Y.keeps hk g3
    replace hc := hc3
    clear hc3 hk
    have q := X.C
    have qf := X.F
    have qz := X.z
    have r := Y.C
    go_wp2_with fail
    have X9 := ((X.set (i := 0) (by simp) (.int .i64 (a2))).set (i := 1) (by simp) (.int .i64 (a3))).set (i := 2) (by simp) (.int .i64 (0))
    have r9 := X9.C
    have C9 := ((hc.far (p := ⟨w.heap.size + 1, 0, none⟩) l4 (.int .i64 (a2))).far (p := ⟨w.heap.size + 1, 1, none⟩) l4 (.int .i64 (a3))).far (p := ⟨w.heap.size + 1, 2, none⟩) l4 (.int .i64 (0))
    have K9 := ((K.far (p := ⟨w.heap.size + 1, 0, none⟩) (Nat.le_succ _) (.int .i64 (a2))).far (p := ⟨w.heap.size + 1, 1, none⟩) (Nat.le_succ _) (.int .i64 (a3))).far (p := ⟨w.heap.size + 1, 2, none⟩) (Nat.le_succ _) (.int .i64 (0))
    refine bodyPost_ret (v := recV ⟨a2, a3, 0⟩) ?_ rfl ⟨⟨a2, a3, 0⟩, rfl, C9, K9⟩
    simp [results, Tryz.results70, go_sem, r9, recV]
  · skip
    go_wp2_with fail
    refine (l1Below_any g 4 _ hc (by omega) (by omega)).mono ?_
    rintro e w2 ⟨a2, rfl, x2, y2, hc2, hk⟩
    replace K := K.trans hk
    replace X := X.keeps hk g4
    replace Y := Y.keeps hk g3
    replace hc := hc2
    clear hc2 hk
    have q := X.C
    have qf := X.F
    have qz := X.z
    have r := Y.C
    go_wp2_with fail
    refine (l1Below_any g 6 _ hc (by omega) (by omega)).mono ?_
    rintro e w3 ⟨a3, rfl, x3, y3, hc3, hk⟩
    replace K := K.trans hk
    replace X := X.keeps hk g4
    replace Y := Y.keeps hk g3
    replace hc := hc3
    clear hc3 hk
    have q := X.C
    have qf := X.F
    have qz := X.z
    have r := Y.C
    go_wp2_with fail
    have X9 := ((X.set (i := 0) (by simp) (.int .i64 (12))).set (i := 1) (by simp) (.int .i64 (a2))).set (i := 2) (by simp) (.int .i64 (a3))
    have r9 := X9.C
    have C9 := ((hc.far (p := ⟨w.heap.size + 1, 0, none⟩) l4 (.int .i64 (12))).far (p := ⟨w.heap.size + 1, 1, none⟩) l4 (.int .i64 (a2))).far (p := ⟨w.heap.size + 1, 2, none⟩) l4 (.int .i64 (a3))
    have K9 := ((K.far (p := ⟨w.heap.size + 1, 0, none⟩) (Nat.le_succ _) (.int .i64 (12))).far (p := ⟨w.heap.size + 1, 1, none⟩) (Nat.le_succ _) (.int .i64 (a2))).far (p := ⟨w.heap.size + 1, 2, none⟩) (Nat.le_succ _) (.int .i64 (a3))
    refine bodyPost_ret (v := recV ⟨12, a2, a3⟩) ?_ rfl ⟨⟨12, a2, a3⟩, rfl, C9, K9⟩
    simp [results, Tryz.results70, go_sem, r9, recV]
  · skip
    go_wp2_with fail
    refine (l3DrawAny_any g _ hc).mono ?_
    rintro e w2 ⟨⟨rk, ra, rb⟩, rfl, hc2, hk⟩
    replace K := K.trans hk
    replace X := X.keeps hk g4
    replace hc := hc2
    clear hc2 hk r q qf qz
    have q := X.C
    have qf := X.F
    have qz := X.z
    unfold recV
    dsimp only
    go_wp2_with fail
    have X9 := ((X.set (i := 0) (by simp) (.int .i64 (rk))).set (i := 1) (by simp) (.int .i64 (ra))).set (i := 2) (by simp) (.int .i64 (rb))
    have r9 := X9.C
    have C9 := ((hc.far (p := ⟨w.heap.size + 1, 0, none⟩) l4 (.int .i64 (rk))).far (p := ⟨w.heap.size + 1, 1, none⟩) l4 (.int .i64 (ra))).far (p := ⟨w.heap.size + 1, 2, none⟩) l4 (.int .i64 (rb))
    have K9 := ((K.far (p := ⟨w.heap.size + 1, 0, none⟩) (Nat.le_succ _) (.int .i64 (rk))).far (p := ⟨w.heap.size + 1, 1, none⟩) (Nat.le_succ _) (.int .i64 (ra))).far (p := ⟨w.heap.size + 1, 2, none⟩) (Nat.le_succ _) (.int .i64 (rb))
    refine bodyPost_ret (v := recV ⟨rk, ra, rb⟩) ?_ rfl ⟨⟨rk, ra, rb⟩, rfl, C9, K9⟩
    simp [results, Tryz.results70, go_sem, r9, recV]
end Go.Proofs.YtdkmhaghnfhajaaGreatDoor
/- Do -/
set_option linter.unusedVariables false
namespace Go.Proofs.YtdkmhaghnfhajaaGreatDoor
open Go.RowKit

def GivesPSR (w : World) (e : Ending) (w' : World) : Prop :=
  ∃ v0 v1 v2 v3 d vs s r, e = .returned (.tuple #[.agg #[v0, v1, v2, v3, .int .i64 d.l, .int .i64 d.p, .int .i64 d.t], vs, recV r]) ∧ Lists w' w.heap.size v0 v1 v2 v3 d ∧ OwnSt w' w.heap.size vs s ∧ PlSmall d ∧ StSmall s ∧ Below w.heap.size w w'
theorem results_three_cells {P : Program} {fn : Func} {p q r : Tmp} {ty ty' ty2 : TypeId} (h : fn.results = #[.cell p ty, .cell q ty', .cell r ty2]) (tmps : Array Value) (w : World) (g g' g2 : Nat) (t t' t2 : TypeId) (cs cs' cs2 : Array Value) (fr fr' fr2 : Nat × Nat) (d d' d2 : TypeDesc)
    (hp : tmps.getD p undef = .pointer (some ⟨g, 0, none⟩)) (hq : tmps.getD q undef = .pointer (some ⟨g', 0, none⟩)) (hr : tmps.getD r undef = .pointer (some ⟨g2, 0, none⟩)) (hg : w.heap[g]? = some (.cells cs t fr)) (hg' : w.heap[g']? = some (.cells cs' t' fr')) (hg2 : w.heap[g2]? = some (.cells cs2 t2 fr2))
    (hu : P.underlying ty = some d) (hd : (match d with | .struct _ | .array _ _ => true | _ => false) = true) (hi : (P.info? ty).map (·.size) = some cs.size)
    (hu' : P.underlying ty' = some d') (hd' : (match d' with | .struct _ | .array _ _ => true | _ => false) = true) (hi' : (P.info? ty').map (·.size) = some cs'.size)
    (hu2 : P.underlying ty2 = some d2) (hd2 : (match d2 with | .struct _ | .array _ _ => true | _ => false) = true) (hi2 : (P.info? ty2).map (·.size) = some cs2.size) :
    (results fn tmps).run P w = .ok (.tuple #[.agg cs, .agg cs', .agg cs2]) w := by
  have hp' : tmps[p]?.getD undef = .pointer (some ⟨g, 0, none⟩) := by simpa using hp
  have hq' : tmps[q]?.getD undef = .pointer (some ⟨g', 0, none⟩) := by simpa using hq
  have hr' : tmps[r]?.getD undef = .pointer (some ⟨g2, 0, none⟩) := by simpa using hr
  simp [results, h, hp', hq', hr', asAddr, run_loadVar_row w g t ty cs fr d hg hu hd hi, run_loadVar_row w g' t' ty' cs' fr' d' hg' hu' hd' hi', run_loadVar_row w g2 t2 ty2 cs2 fr2 d2 hg2 hu2 hd2 hi2]

set_option maxRecDepth 100000 in
set_option maxHeartbeats 8000000 in
theorem drawAppliedRec_any (A : Option Addr) (n c : Nat) (w : World) (hB : Bytes w w.heap.size A n) (hn : n ≤ 4096) : Calls Tryz.prog 23 #[.slice A n c] w (GivesPSR w) := by
  have HIP : Hid ((Tryz.prog.info? 29).map (·.size) = some 7) := Lib.hid (by kernel_rfl)
  have HIS : Hid ((Tryz.prog.info? 34).map (·.size) = some 12) := Lib.hid (by kernel_rfl)
  have HIR : Hid ((Tryz.prog.info? 52).map (·.size) = some 3) := Lib.hid (by kernel_rfl)
  have b2 : (((w.alloc (.cells (planC none none none none 0 0 0 0 0 0 0 0 0 0 0) 29)).alloc (.cells (stC none none none none 0 0 0 0 0 0 0 0 0 false 0 0 0 0 0 0) 34)).alloc (.cells (#[.int .i64 0, .int .i64 0, .int .i64 0]) 52)).heap[w.heap.size]? = some (.cells (planC none none none none 0 0 0 0 0 0 0 0 0 0 0) 29) := by
    have hb := (Below.refl (w.alloc (.cells (planC none none none none 0 0 0 0 0 0 0 0 0 0 0) 29)).heap.size (w.alloc (.cells (planC none none none none 0 0 0 0 0 0 0 0 0 0 0) 29))).alloc (Nat.le_refl _) (.cells (stC none none none none 0 0 0 0 0 0 0 0 0 false 0 0 0 0 0 0) 34)
    have hb2 := hb.alloc hb.size (.cells (#[.int .i64 0, .int .i64 0, .int .i64 0]) 52)
    exact (hb2.block w.heap.size (by simp)).trans (heap_alloc_new w _)
  have b3 : (((w.alloc (.cells (planC none none none none 0 0 0 0 0 0 0 0 0 0 0) 29)).alloc (.cells (stC none none none none 0 0 0 0 0 0 0 0 0 false 0 0 0 0 0 0) 34)).alloc (.cells (#[.int .i64 0, .int .i64 0, .int .i64 0]) 52)).heap[w.heap.size + 1]? = some (.cells (stC none none none none 0 0 0 0 0 0 0 0 0 false 0 0 0 0 0 0) 34) := by
    have hb := (Below.refl ((w.alloc (.cells (planC none none none none 0 0 0 0 0 0 0 0 0 0 0) 29)).alloc (.cells (stC none none none none 0 0 0 0 0 0 0 0 0 false 0 0 0 0 0 0) 34)).heap.size ((w.alloc (.cells (planC none none none none 0 0 0 0 0 0 0 0 0 0 0) 29)).alloc (.cells (stC none none none none 0 0 0 0 0 0 0 0 0 false 0 0 0 0 0 0) 34))).alloc (Nat.le_refl _) (.cells (#[.int .i64 0, .int .i64 0, .int .i64 0]) 52)
    exact (hb.block (w.heap.size + 1) (by simp)).trans (heap_alloc2_new w _ _)
  have b4 : (((w.alloc (.cells (planC none none none none 0 0 0 0 0 0 0 0 0 0 0) 29)).alloc (.cells (stC none none none none 0 0 0 0 0 0 0 0 0 false 0 0 0 0 0 0) 34)).alloc (.cells (#[.int .i64 0, .int .i64 0, .int .i64 0]) 52)).heap[w.heap.size + 2]? = some (.cells (#[.int .i64 0, .int .i64 0, .int .i64 0]) 52) := by
    have := heap_alloc2_new (w.alloc (.cells (planC none none none none 0 0 0 0 0 0 0 0 0 0 0) 29)) (.cells (stC none none none none 0 0 0 0 0 0 0 0 0 false 0 0 0 0 0 0) 34) (.cells (#[.int .i64 0, .int .i64 0, .int .i64 0]) 52)
    rwa [heap_size_alloc_] at this
  have KB : Below w.heap.size w (((w.alloc (.cells (planC none none none none 0 0 0 0 0 0 0 0 0 0 0) 29)).alloc (.cells (stC none none none none 0 0 0 0 0 0 0 0 0 false 0 0 0 0 0 0) 34)).alloc (.cells (#[.int .i64 0, .int .i64 0, .int .i64 0]) 52)) := (((Below.refl _ _).alloc (Nat.le_refl _) _).alloc (by simp) _).alloc (by simp; omega) _
  have HB := Lib.hid ((hB.below KB (Nat.le_refl _)).more KB.size)
  clear hB
  go_enter Tryz.func23, Tryz.ntmps23
  go_wp2_with fail
  generalize (((w.alloc (.cells (planC none none none none 0 0 0 0 0 0 0 0 0 0 0) 29)).alloc (.cells (stC none none none none 0 0 0 0 0 0 0 0 0 false 0 0 0 0 0 0) 34)).alloc (.cells (#[.int .i64 0, .int .i64 0, .int .i64 0]) 52)) = w0 at b2 b3 b4 KB HB ⊢
  refine (l1New_any A n c w0 HB.out hn).mono ?_
  rintro e w1 ⟨g, rfl, hg, hc1, K1⟩
  have hz3 := (Array.getElem?_eq_some_iff.1 b4).1
  replace b2 := (K1.block _ (Array.getElem?_eq_some_iff.1 b2).1).trans b2
  replace b3 := (K1.block _ (Array.getElem?_eq_some_iff.1 b3).1).trans b3
  replace b4 := (K1.block _ (Array.getElem?_eq_some_iff.1 b4).1).trans b4
  replace KB := KB.trans (K1.mono KB.size)
  clear K1 HB
  go_wp2_with fail
  refine (l5DrawAny_any g w1 hc1).mono ?_
  rintro e w2 ⟨v0, v1, v2, v3, d, vs, s, rfl, Lp, Os, hd, hs, CU, hk⟩
  replace b2 := (hk.block _ (Array.getElem?_eq_some_iff.1 b2).1 (by show ¬ w.heap.size = g; omega)).trans b2
  replace b3 := (hk.block _ (Array.getElem?_eq_some_iff.1 b3).1 (by show ¬ w.heap.size + 1 = g; omega)).trans b3
  replace b4 := (hk.block _ (Array.getElem?_eq_some_iff.1 b4).1 (by show ¬ w.heap.size + 2 = g; omega)).trans b4
  have hl2 : g < w2.heap.size := CU.lt
  have hz4 := (Array.getElem?_eq_some_iff.1 b4).1
  replace Lp := Lp.base KB.size
  replace Os := Os.base KB.size
  replace KB := KB.trans (hk.below (B := w.heap.size) KB.size (by rintro b hb rfl; omega))
  clear hk hc1
  obtain ⟨y0, y1, y2, y3, rfl, -⟩ := Os.it
  obtain ⟨⟨Y0, f0, rfl⟩, ⟨Y1, f1, rfl⟩, ⟨Y2, f2, rfl⟩, ⟨Y3, f3, rfl⟩⟩ := Os.shapes
  obtain ⟨Q0, e0, rfl, -, -⟩ := Lp.o0.formR
  obtain ⟨Q1, e1, rfl, -, -⟩ := Lp.o1.formR
  obtain ⟨Q2, e2, rfl, -, -⟩ := Lp.o2.formR
  obtain ⟨Q3, e3, rfl, -, -⟩ := Lp.o3.formR
  have hA : Below w2.heap.size w2 ((w2.alloc (.cells (planC none none none none 0 0 0 0 0 0 0 0 0 0 0) 29)).alloc (.cells (stC none none none none 0 0 0 0 0 0 0 0 0 false 0 0 0 0 0 0) 34)) := ((Below.refl _ _).alloc (Nat.le_refl _) _).alloc (by simp) _
  have H6 : ((w2.alloc (.cells (planC none none none none 0 0 0 0 0 0 0 0 0 0 0) 29)).alloc (.cells (stC none none none none 0 0 0 0 0 0 0 0 0 false 0 0 0 0 0 0) 34)).heap[w2.heap.size]? = some (.cells (planC none none none none 0 0 0 0 0 0 0 0 0 0 0) 29) := by
    have hb := (Below.refl (w2.alloc (.cells (planC none none none none 0 0 0 0 0 0 0 0 0 0 0) 29)).heap.size (w2.alloc (.cells (planC none none none none 0 0 0 0 0 0 0 0 0 0 0) 29))).alloc (Nat.le_refl _) (.cells (stC none none none none 0 0 0 0 0 0 0 0 0 false 0 0 0 0 0 0) 34)
    exact (hb.block w2.heap.size (by simp)).trans (heap_alloc_new w2 _)
  have H7 := heap_alloc2_new w2 (.cells (planC none none none none 0 0 0 0 0 0 0 0 0 0 0) 29) (.cells (stC none none none none 0 0 0 0 0 0 0 0 0 false 0 0 0 0 0 0) 34)
  have H7' := (setRow_other ((w2.alloc (.cells (planC none none none none 0 0 0 0 0 0 0 0 0 0 0) 29)).alloc (.cells (stC none none none none 0 0 0 0 0 0 0 0 0 false 0 0 0 0 0 0) 34)) w2.heap.size _ (planC Q0 Q1 Q2 Q3 d.n0 e0 d.n1 e1 d.n2 e2 d.n3 e3 d.l d.p d.t) (Nat.succ_ne_self _)).trans H7
  go_upto_region 3 with (first
    | ((with_reducible refine store_plan (x := 6) (y := 13) (g := w2.heap.size) (cs := planC Q0 Q1 Q2 Q3 d.n0 e0 d.n1 e1 d.n2 e2 d.n3 e3 d.l d.p d.t) ?_ ?_ H6 ?_ ?_ ?_ ?_)
       · rfl
       · rfl
       · exact HIP.out
       · rfl
       · simp [Value.oneCell'])
    | ((with_reducible refine store_state (x := 7) (y := 14) (g := w2.heap.size + 1) (cs := stC Y0 Y1 Y2 Y3 s.pods.length f0 s.mnts.length f1 s.devs.length f2 s.lks.length f3 s.ph s.co s.ck s.bo s.ba s.lb s.gd s.pr) ?_ ?_ H7' ?_ ?_ ?_ ?_)
       · rfl
       · rfl
       · exact HIS.out
       · rfl
       · simp [Value.oneCell']))
  have h2w := KB.size
  have hw2 : w2.heap.size < w2.heap.size + 1 := Nat.lt_succ_self _
  have hA2 := below_setRow (below_setRow hA (Nat.le_refl _) (planC Q0 Q1 Q2 Q3 d.n0 e0 d.n1 e1 d.n2 e2 d.n3 e3 d.l d.p d.t)) (Nat.le_succ _) (stC Y0 Y1 Y2 Y3 s.pods.length f0 s.mnts.length f1 s.devs.length f2 s.lks.length f3 s.ph s.co s.ck s.bo s.ba s.lb s.gd s.pr)
  have G6 := (setRow_other (((w2.alloc (.cells (planC none none none none 0 0 0 0 0 0 0 0 0 0 0) 29)).alloc (.cells (stC none none none none 0 0 0 0 0 0 0 0 0 false 0 0 0 0 0 0) 34)).setRow w2.heap.size (planC Q0 Q1 Q2 Q3 d.n0 e0 d.n1 e1 d.n2 e2 d.n3 e3 d.l d.p d.t)) (w2.heap.size + 1) w2.heap.size (stC Y0 Y1 Y2 Y3 s.pods.length f0 s.mnts.length f1 s.devs.length f2 s.lks.length f3 s.ph s.co s.ck s.bo s.ba s.lb s.gd s.pr) (by omega)).trans (setRow_heap _ _ _ (planC Q0 Q1 Q2 Q3 d.n0 e0 d.n1 e1 d.n2 e2 d.n3 e3 d.l d.p d.t) _ _ H6)
  have G7 := setRow_heap (((w2.alloc (.cells (planC none none none none 0 0 0 0 0 0 0 0 0 0 0) 29)).alloc (.cells (stC none none none none 0 0 0 0 0 0 0 0 0 false 0 0 0 0 0 0) 34)).setRow w2.heap.size (planC Q0 Q1 Q2 Q3 d.n0 e0 d.n1 e1 d.n2 e2 d.n3 e3 d.l d.p d.t)) (w2.heap.size + 1) _ (stC Y0 Y1 Y2 Y3 s.pods.length f0 s.mnts.length f1 s.devs.length f2 s.lks.length f3 s.ph s.co s.ck s.bo s.ba s.lb s.gd s.pr) _ _ H7'
  clear H6 H7 H7' hA
  replace b2 := (hA2.block _ (Array.getElem?_eq_some_iff.1 b2).1).trans b2
  replace b3 := (hA2.block _ (Array.getElem?_eq_some_iff.1 b3).1).trans b3
  replace b4 := (hA2.block _ (Array.getElem?_eq_some_iff.1 b4).1).trans b4
  replace Lp := Lp.below hA2
  replace Os := Os.below hA2
  replace KB := KB.trans (hA2.mono KB.size)
  replace CU := CU.below hA2
  have hg2 : g < w2.heap.size := by assumption
  clear hA2 hw2
  generalize (((w2.alloc (.cells (planC none none none none 0 0 0 0 0 0 0 0 0 0 0) 29)).alloc (.cells (stC none none none none 0 0 0 0 0 0 0 0 0 false 0 0 0 0 0 0) 34)).setRow w2.heap.size (planC Q0 Q1 Q2 Q3 d.n0 e0 d.n1 e1 d.n2 e2 d.n3 e3 d.l d.p d.t)).setRow (w2.heap.size + 1) (stC Y0 Y1 Y2 Y3 s.pods.length f0 s.mnts.length f1 s.devs.length f2 s.lks.length f3 s.ph s.co s.ck s.bo s.ba s.lb s.gd s.pr) = w3 at b2 b3 b4 G6 G7 Lp Os KB CU ⊢
  obtain ⟨R7, hR7⟩ : ∃ R, w2.heap.size + 1 = R := ⟨_, rfl⟩
  rw [hR7] at G7 ⊢
  generalize w2.heap.size = R6 at G6 hR7 hz4 hl2 hg2 h2w ⊢
  have H6 := G6
  have H7 := G7
  clear G6 G7
  refine wp_region_noPanic ?_
  refine wp_region_held_drew (S := fun W => (∀ o, W.cell? ⟨R6, o, none⟩ = (planC Q0 Q1 Q2 Q3 d.n0 e0 d.n1 e1 d.n2 e2 d.n3 e3 d.l d.p d.t)[o]?) ∧ (∀ o, W.cell? ⟨R7, o, none⟩ = (stC Y0 Y1 Y2 Y3 s.pods.length f0 s.mnts.length f1 s.devs.length f2 s.lks.length f3 s.ph s.co s.ck s.bo s.ba s.lb s.gd s.pr)[o]?)) (by kernel_rfl) (by rw [← heap_drew w3] at H6 H7; exact ⟨fun o => cell_of_row _ _ o _ _ _ H6, fun o => cell_of_row _ _ o _ _ _ H7⟩) (fun _ => ?_)
  rw [← heap_drew w3] at b2 b3 b4 H6 H7
  replace Lp := Lp.below (Below.refl _ _).drew
  replace Os := Os.below (Below.refl _ _).drew
  replace KB := KB.drew
  replace CU := CU.below (Below.refl _ _).drew
  generalize w3.drew = wd at b2 b3 b4 H6 H7 Lp Os KB CU ⊢
  refine wpAnyH_take (i := 0) (v := ?_) rfl (by kernel_rfl) (by kernel_rfl) (by kernel_rfl) (fun _ _ _ h => h) (Or.inl ⟨by rfl, ?_⟩) ⟨fun o => cell_of_row _ _ o _ _ _ H6, fun o => cell_of_row _ _ o _ _ _ H7⟩ ?_
  rotate_left 1
  · intro w hSw
    obtain ⟨hs6, hs7⟩ := hSw
    go_simp
    try with_reducible rfl
  change wpAnyH _ _ _ _ _ _ _ (Act.put _ (some 15) _) _
  dsimp only [Act.put]
  refine wpAnyH_take (i := 1) (v := ?_) rfl (by kernel_rfl) (by kernel_rfl) (by kernel_rfl) (fun _ _ _ h => h) (Or.inl ⟨by rfl, ?_⟩) ⟨fun o => cell_of_row _ _ o _ _ _ H6, fun o => cell_of_row _ _ o _ _ _ H7⟩ ?_
  rotate_left 1
  · intro w hSw
    obtain ⟨hs6, hs7⟩ := hSw
    go_simp
    try with_reducible rfl
  change wpAnyH _ _ _ _ _ _ _ (Act.put _ (some 16) _) _
  dsimp only [Act.put]
  refine wpAnyH_take (i := 2) (v := ?_) rfl (by kernel_rfl) (by kernel_rfl) (by kernel_rfl) (fun _ _ _ h => h) (Or.inl ⟨by rfl, ?_⟩) ⟨fun o => cell_of_row _ _ o _ _ _ H6, fun o => cell_of_row _ _ o _ _ _ H7⟩ ?_
  rotate_left 1
  · intro w hSw
    obtain ⟨hs6, hs7⟩ := hSw
    go_simp
    try with_reducible rfl
  change wpAnyH _ _ _ _ _ _ _ (Act.put _ (some 17) _) _
  dsimp only [Act.put]
  refine wpAnyH_take (i := 3) (v := ?_) rfl (by kernel_rfl) (by kernel_rfl) (by kernel_rfl) (fun _ _ _ h => h) (Or.inl ⟨by rfl, ?_⟩) ⟨fun o => cell_of_row _ _ o _ _ _ H6, fun o => cell_of_row _ _ o _ _ _ H7⟩ ?_
  rotate_left 1
  · intro w hSw
    obtain ⟨hs6, hs7⟩ := hSw
    go_simp
    try with_reducible rfl
  change wpAnyH _ _ _ _ _ _ _ (Act.put _ (some 18) _) _
  dsimp only [Act.put]
  refine wpAnyH_ready (rs := [4]) (by kernel_rfl) (by simp) ?_
  refine AllReadyH.cons rfl (fun K' hK => ?_) AllReadyH.nil
  go_simp
  go_at_call 70
  refine (l6DrawRec_any g _ CU (by have := hs.s0; omega) (by have := hs.s1; omega) (by have := hs.s2; omega)).mono ?_
  rintro e w9 ⟨⟨rk, ra, rb⟩, rfl, CU9, hk⟩
  obtain ⟨gcs, hgc⟩ := CU.cells
  replace Lp := Lp.keeps hk hgc (by decide)
  replace Os := Os.keepsT hk hgc (by decide)
  replace b2 := (hk.block _ (Array.getElem?_eq_some_iff.1 b2).1 (by show ¬ w.heap.size = g; omega)).trans b2
  replace b3 := (hk.block _ (Array.getElem?_eq_some_iff.1 b3).1 (by show ¬ w.heap.size + 1 = g; omega)).trans b3
  replace b4 := (hk.block _ (Array.getElem?_eq_some_iff.1 b4).1 (by show ¬ w.heap.size + 2 = g; omega)).trans b4
  replace H6 := (hk.block _ (Array.getElem?_eq_some_iff.1 H6).1 (by show ¬ R6 = g; omega)).trans H6
  replace H7 := (hk.block _ (Array.getElem?_eq_some_iff.1 H7).1 (by show ¬ R7 = g; omega)).trans H7
  replace KB := KB.trans (hk.below (B := w.heap.size) KB.size (by rintro b hb rfl; omega))
  clear hk CU CU9 hgc
  unfold recV
  dsimp only
  go_wp2_with fail
  refine hK.out _ _ ⟨fun o => cell_of_row _ _ o _ _ _ H6, fun o => cell_of_row _ _ o _ _ _ H7⟩ (fun _ => ?_)
  clear hK K'
  try (change wpAnyH _ _ _ _ _ _ _ (Act.put _ (some 19) _) _; dsimp only [Act.put])
  refine wpAnyH_ready (rs := [5]) (by kernel_rfl) (by simp) ?_
  refine AllReadyH.cons rfl (fun K' hK => ?_) AllReadyH.nil
  rw [if_pos (by rfl)]
  refine wp_store_row 29 (.tmp 2) (.tmp 15) rfl (w.heap.size) (planC Q0 Q1 Q2 Q3 d.n0 e0 d.n1 e1 d.n2 e2 d.n3 e3 d.l d.p d.t) rfl rfl 29 _ b2 HIP.out rfl (by simp [Value.oneCell']) ?_
  replace Lp := Lp.keeps (keepsRow_ _ (w.heap.size) (planC Q0 Q1 Q2 Q3 d.n0 e0 d.n1 e1 d.n2 e2 d.n3 e3 d.l d.p d.t)) b2 (by decide)
  replace Os := Os.keepsT (keepsRow_ _ (w.heap.size) (planC Q0 Q1 Q2 Q3 d.n0 e0 d.n1 e1 d.n2 e2 d.n3 e3 d.l d.p d.t)) b2 (by decide)
  replace KB := belowRow_ KB (B := w.heap.size) (by omega) (planC Q0 Q1 Q2 Q3 d.n0 e0 d.n1 e1 d.n2 e2 d.n3 e3 d.l d.p d.t)
  replace b3 := (setRow_other _ (w.heap.size) (w.heap.size + 1) (planC Q0 Q1 Q2 Q3 d.n0 e0 d.n1 e1 d.n2 e2 d.n3 e3 d.l d.p d.t) (by omega)).trans b3
  replace b4 := (setRow_other _ (w.heap.size) (w.heap.size + 2) (planC Q0 Q1 Q2 Q3 d.n0 e0 d.n1 e1 d.n2 e2 d.n3 e3 d.l d.p d.t) (by omega)).trans b4
  replace H6 := (setRow_other _ (w.heap.size) (R6) (planC Q0 Q1 Q2 Q3 d.n0 e0 d.n1 e1 d.n2 e2 d.n3 e3 d.l d.p d.t) (by omega)).trans H6
  replace H7 := (setRow_other _ (w.heap.size) (R7) (planC Q0 Q1 Q2 Q3 d.n0 e0 d.n1 e1 d.n2 e2 d.n3 e3 d.l d.p d.t) (by omega)).trans H7
  replace b2 := setRow_heap _ _ _ (planC Q0 Q1 Q2 Q3 d.n0 e0 d.n1 e1 d.n2 e2 d.n3 e3 d.l d.p d.t) _ _ b2
  refine hK.out _ _ ⟨fun o => cell_of_row _ _ o _ _ _ H6, fun o => cell_of_row _ _ o _ _ _ H7⟩ (fun _ => ?_)
  clear hK K'
  try (change wpAnyH _ _ _ _ _ _ _ (Act.put _ none _) _; dsimp only [Act.put])
  refine wpAnyH_ready (rs := [6]) (by kernel_rfl) (by simp) ?_
  refine AllReadyH.cons rfl (fun K' hK => ?_) AllReadyH.nil
  rw [if_pos (by rfl)]
  refine wp_store_row 34 (.tmp 3) (.tmp 16) rfl (w.heap.size + 1) (stC Y0 Y1 Y2 Y3 s.pods.length f0 s.mnts.length f1 s.devs.length f2 s.lks.length f3 s.ph s.co s.ck s.bo s.ba s.lb s.gd s.pr) rfl rfl 34 _ b3 HIS.out rfl (by simp [Value.oneCell']) ?_
  replace Lp := Lp.keeps (keepsRow_ _ (w.heap.size + 1) (stC Y0 Y1 Y2 Y3 s.pods.length f0 s.mnts.length f1 s.devs.length f2 s.lks.length f3 s.ph s.co s.ck s.bo s.ba s.lb s.gd s.pr)) b3 (by decide)
  replace Os := Os.keepsT (keepsRow_ _ (w.heap.size + 1) (stC Y0 Y1 Y2 Y3 s.pods.length f0 s.mnts.length f1 s.devs.length f2 s.lks.length f3 s.ph s.co s.ck s.bo s.ba s.lb s.gd s.pr)) b3 (by decide)
  replace KB := belowRow_ KB (B := w.heap.size + 1) (by omega) (stC Y0 Y1 Y2 Y3 s.pods.length f0 s.mnts.length f1 s.devs.length f2 s.lks.length f3 s.ph s.co s.ck s.bo s.ba s.lb s.gd s.pr)
  replace b2 := (setRow_other _ (w.heap.size + 1) (w.heap.size) (stC Y0 Y1 Y2 Y3 s.pods.length f0 s.mnts.length f1 s.devs.length f2 s.lks.length f3 s.ph s.co s.ck s.bo s.ba s.lb s.gd s.pr) (by omega)).trans b2
  replace b4 := (setRow_other _ (w.heap.size + 1) (w.heap.size + 2) (stC Y0 Y1 Y2 Y3 s.pods.length f0 s.mnts.length f1 s.devs.length f2 s.lks.length f3 s.ph s.co s.ck s.bo s.ba s.lb s.gd s.pr) (by omega)).trans b4
  replace H6 := (setRow_other _ (w.heap.size + 1) (R6) (stC Y0 Y1 Y2 Y3 s.pods.length f0 s.mnts.length f1 s.devs.length f2 s.lks.length f3 s.ph s.co s.ck s.bo s.ba s.lb s.gd s.pr) (by omega)).trans H6
  replace H7 := (setRow_other _ (w.heap.size + 1) (R7) (stC Y0 Y1 Y2 Y3 s.pods.length f0 s.mnts.length f1 s.devs.length f2 s.lks.length f3 s.ph s.co s.ck s.bo s.ba s.lb s.gd s.pr) (by omega)).trans H7
  replace b3 := setRow_heap _ _ _ (stC Y0 Y1 Y2 Y3 s.pods.length f0 s.mnts.length f1 s.devs.length f2 s.lks.length f3 s.ph s.co s.ck s.bo s.ba s.lb s.gd s.pr) _ _ b3
  refine hK.out _ _ ⟨fun o => cell_of_row _ _ o _ _ _ H6, fun o => cell_of_row _ _ o _ _ _ H7⟩ (fun _ => ?_)
  clear hK K'
  try (change wpAnyH _ _ _ _ _ _ _ (Act.put _ none _) _; dsimp only [Act.put])
  refine wpAnyH_ready (rs := [7]) (by kernel_rfl) (by simp) ?_
  refine AllReadyH.cons rfl (fun K' hK => ?_) AllReadyH.nil
  rw [if_pos (by rfl)]
  refine wp_store_row 52 (.tmp 4) (.tmp 19) rfl (w.heap.size + 2) (#[.int .i64 rk, .int .i64 ra, .int .i64 rb]) rfl rfl 52 _ b4 HIR.out rfl (by simp [Value.oneCell']) ?_
  replace Lp := Lp.keeps (keepsRow_ _ (w.heap.size + 2) (#[.int .i64 rk, .int .i64 ra, .int .i64 rb])) b4 (by decide)
  replace Os := Os.keepsT (keepsRow_ _ (w.heap.size + 2) (#[.int .i64 rk, .int .i64 ra, .int .i64 rb])) b4 (by decide)
  replace KB := belowRow_ KB (B := w.heap.size + 2) (by omega) (#[.int .i64 rk, .int .i64 ra, .int .i64 rb])
  replace b2 := (setRow_other _ (w.heap.size + 2) (w.heap.size) (#[.int .i64 rk, .int .i64 ra, .int .i64 rb]) (by omega)).trans b2
  replace b3 := (setRow_other _ (w.heap.size + 2) (w.heap.size + 1) (#[.int .i64 rk, .int .i64 ra, .int .i64 rb]) (by omega)).trans b3
  replace H6 := (setRow_other _ (w.heap.size + 2) (R6) (#[.int .i64 rk, .int .i64 ra, .int .i64 rb]) (by omega)).trans H6
  replace H7 := (setRow_other _ (w.heap.size + 2) (R7) (#[.int .i64 rk, .int .i64 ra, .int .i64 rb]) (by omega)).trans H7
  replace b4 := setRow_heap _ _ _ (#[.int .i64 rk, .int .i64 ra, .int .i64 rb]) _ _ b4
  refine hK.out _ _ ⟨fun o => cell_of_row _ _ o _ _ _ H6, fun o => cell_of_row _ _ o _ _ _ H7⟩ (fun _ => ?_)
  clear hK K'
  try (change wpAnyH _ _ _ _ _ _ _ (Act.put _ none _) _; dsimp only [Act.put])
  refine wpAnyH_done (by kernel_rfl) ?_ _
  refine NoPanic.normal ?_
  go_wp2_with fail
  exact bodyPost_ret (v := .tuple #[.agg (planC Q0 Q1 Q2 Q3 d.n0 e0 d.n1 e1 d.n2 e2 d.n3 e3 d.l d.p d.t), .agg (stC Y0 Y1 Y2 Y3 s.pods.length f0 s.mnts.length f1 s.devs.length f2 s.lks.length f3 s.ph s.co s.ck s.bo s.ba s.lb s.gd s.pr), .agg #[.int .i64 rk, .int .i64 ra, .int .i64 rb]]) (results_three_cells Tryz.results23 _ _ _ _ _ _ _ _ _ _ _ _ _ _ _ _ _ rfl rfl rfl b2 b3 b4 Tryz.underlying29 rfl HIP.out Tryz.underlying34 rfl HIS.out Tryz.underlying52 rfl HIR.out) rfl ⟨_, _, _, _, d, _, s, ⟨rk, ra, rb⟩, rfl, Lp, Os, hd, hs, KB⟩
end Go.Proofs.YtdkmhaghnfhajaaGreatDoor
/- Dp -/
set_option linter.unusedVariables false
namespace Go.Proofs.YtdkmhaghnfhajaaGreatDoor
open Go.RowKit

def GivesPSL (w : World) (e : Ending) (w' : World) : Prop :=
  ∃ v0 v1 v2 v3 d vs s v l, e = .returned (.tuple #[.agg #[v0, v1, v2, v3, .int .i64 d.l, .int .i64 d.p, .int .i64 d.t], vs, v]) ∧ Lists w' w.heap.size v0 v1 v2 v3 d ∧ OwnSt w' w.heap.size vs s ∧ PlSmall d ∧ StSmall s ∧ OR w' w.heap.size v l ∧ l.length ≤ 4 ∧ Below w.heap.size w w'
theorem OR.push_ {w' : World} {B : Nat} {v' : Value} {l : List RecD} (r : RecD) (h' : w'.ownsRow B 52 3 v' (l.length + 1) (recVs l ++ [.int .i64 r.k, .int .i64 r.a, .int .i64 r.b])) : OR w' B v' (l ++ [r]) := by
  unfold OR
  rw [List.length_append]
  have : recVs (l ++ [r]) = recVs l ++ [.int .i64 r.k, .int .i64 r.a, .int .i64 r.b] := by simp [recVs, flat]
  rw [this]
  exact h'
theorem OR.form_ {w : World} {B : Nat} {v : Value} {l : List RecD} (h : OR w B v l) : ∃ A c, v = .slice A l.length c := by
  rcases h.2 with ⟨hv, h0⟩ | ⟨g, cap, cur, hv, -⟩
  · exact ⟨none, 0, by rw [hv, h0]⟩
  · exact ⟨_, _, hv⟩
theorem results_cells_two_tmp {P : Program} {fn : Func} {p q r : Tmp} {ty ty' : TypeId} (h : fn.results = #[.cell p ty, .cell q ty', .tmp r]) (tmps : Array Value) (w : World) (g g' : Nat) (t t' : TypeId) (cs cs' : Array Value) (fr fr' : Nat × Nat) (d d' : TypeDesc) (u : Value)
    (hp : tmps.getD p undef = .pointer (some ⟨g, 0, none⟩)) (hq : tmps.getD q undef = .pointer (some ⟨g', 0, none⟩)) (hr : tmps.getD r undef = u) (hg : w.heap[g]? = some (.cells cs t fr)) (hg' : w.heap[g']? = some (.cells cs' t' fr'))
    (hu : P.underlying ty = some d) (hd : (match d with | .struct _ | .array _ _ => true | _ => false) = true) (hi : (P.info? ty).map (·.size) = some cs.size)
    (hu' : P.underlying ty' = some d') (hd' : (match d' with | .struct _ | .array _ _ => true | _ => false) = true) (hi' : (P.info? ty').map (·.size) = some cs'.size) :
    (results fn tmps).run P w = .ok (.tuple #[.agg cs, .agg cs', u]) w := by
  have hp' : tmps[p]?.getD undef = .pointer (some ⟨g, 0, none⟩) := by simpa using hp
  have hq' : tmps[q]?.getD undef = .pointer (some ⟨g', 0, none⟩) := by simpa using hq
  have hr' : tmps[r]?.getD undef = u := by simpa using hr
  simp [results, h, hp', hq', hr', asAddr, run_loadVar_row w g t ty cs fr d hg hu hd hi, run_loadVar_row w g' t' ty' cs' fr' d' hg' hu' hd' hi']

set_option maxRecDepth 100000 in
set_option maxHeartbeats 8000000 in
theorem drawAppliedAll_any (A : Option Addr) (n c : Nat) (w : World) (hB : Bytes w w.heap.size A n) (hn : n ≤ 4096) : Calls Tryz.prog 21 #[.slice A n c] w (GivesPSL w) := by
  have HIP : Hid ((Tryz.prog.info? 29).map (·.size) = some 7) := Lib.hid (by kernel_rfl)
  have HIS : Hid ((Tryz.prog.info? 34).map (·.size) = some 12) := Lib.hid (by kernel_rfl)
  obtain ⟨i0, hi, hz0, hz1, hz2⟩ := info_parts info_rec
  have HI := Lib.hid hi
  have HZ0 := Lib.hid hz0
  have HZ1 := Lib.hid hz1
  have HZ2 := Lib.hid hz2
  clear hi hz0 hz1 hz2
  have b2 : ((w.alloc (.cells (planC none none none none 0 0 0 0 0 0 0 0 0 0 0) 29)).alloc (.cells (stC none none none none 0 0 0 0 0 0 0 0 0 false 0 0 0 0 0 0) 34)).heap[w.heap.size]? = some (.cells (planC none none none none 0 0 0 0 0 0 0 0 0 0 0) 29) := by
    have hb := (Below.refl (w.alloc (.cells (planC none none none none 0 0 0 0 0 0 0 0 0 0 0) 29)).heap.size (w.alloc (.cells (planC none none none none 0 0 0 0 0 0 0 0 0 0 0) 29))).alloc (Nat.le_refl _) (.cells (stC none none none none 0 0 0 0 0 0 0 0 0 false 0 0 0 0 0 0) 34)
    exact (hb.block w.heap.size (by simp)).trans (heap_alloc_new w _)
  have b3 := heap_alloc2_new w (.cells (planC none none none none 0 0 0 0 0 0 0 0 0 0 0) 29) (.cells (stC none none none none 0 0 0 0 0 0 0 0 0 false 0 0 0 0 0 0) 34)
  have KB : Below w.heap.size w ((w.alloc (.cells (planC none none none none 0 0 0 0 0 0 0 0 0 0 0) 29)).alloc (.cells (stC none none none none 0 0 0 0 0 0 0 0 0 false 0 0 0 0 0 0) 34)) := ((Below.refl _ _).alloc (Nat.le_refl _) _).alloc (by simp) _
  have HB := Lib.hid ((hB.below KB (Nat.le_refl _)).more KB.size)
  clear hB
  go_enter Tryz.func21, Tryz.ntmps21
  go_wp2_with fail
  generalize ((w.alloc (.cells (planC none none none none 0 0 0 0 0 0 0 0 0 0 0) 29)).alloc (.cells (stC none none none none 0 0 0 0 0 0 0 0 0 false 0 0 0 0 0 0) 34)) = w0 at b2 b3 KB HB ⊢
  refine (l1New_any A n c w0 HB.out hn).mono ?_
  rintro e w1 ⟨g, rfl, hg, hc1, K1⟩
  have hz3 := (Array.getElem?_eq_some_iff.1 b3).1
  replace b2 := (K1.block _ (Array.getElem?_eq_some_iff.1 b2).1).trans b2
  replace b3 := (K1.block _ (Array.getElem?_eq_some_iff.1 b3).1).trans b3
  replace KB := KB.trans (K1.mono KB.size)
  clear K1 HB
  go_wp2_with fail
  refine (l5DrawAny_any g w1 hc1).mono ?_
  rintro e w2 ⟨v0, v1, v2, v3, d, vs, s, rfl, Lp, Os, hd, hs, CU, hk⟩
  replace b2 := (hk.block _ (Array.getElem?_eq_some_iff.1 b2).1 (by show ¬ w.heap.size = g; omega)).trans b2
  replace b3 := (hk.block _ (Array.getElem?_eq_some_iff.1 b3).1 (by show ¬ w.heap.size + 1 = g; omega)).trans b3
  have hl2 : g < w2.heap.size := CU.lt
  have hz4 := (Array.getElem?_eq_some_iff.1 b3).1
  replace Lp := Lp.base KB.size
  replace Os := Os.base KB.size
  replace KB := KB.trans (hk.below (B := w.heap.size) KB.size (by rintro b hb rfl; omega))
  clear hk hc1
  obtain ⟨y0, y1, y2, y3, rfl, -⟩ := Os.it
  obtain ⟨⟨Y0, f0, rfl⟩, ⟨Y1, f1, rfl⟩, ⟨Y2, f2, rfl⟩, ⟨Y3, f3, rfl⟩⟩ := Os.shapes
  obtain ⟨Q0, e0, rfl, -, -⟩ := Lp.o0.formR
  obtain ⟨Q1, e1, rfl, -, -⟩ := Lp.o1.formR
  obtain ⟨Q2, e2, rfl, -, -⟩ := Lp.o2.formR
  obtain ⟨Q3, e3, rfl, -, -⟩ := Lp.o3.formR
  have hA : Below w2.heap.size w2 ((w2.alloc (.cells (planC none none none none 0 0 0 0 0 0 0 0 0 0 0) 29)).alloc (.cells (stC none none none none 0 0 0 0 0 0 0 0 0 false 0 0 0 0 0 0) 34)) := ((Below.refl _ _).alloc (Nat.le_refl _) _).alloc (by simp) _
  have H6 : ((w2.alloc (.cells (planC none none none none 0 0 0 0 0 0 0 0 0 0 0) 29)).alloc (.cells (stC none none none none 0 0 0 0 0 0 0 0 0 false 0 0 0 0 0 0) 34)).heap[w2.heap.size]? = some (.cells (planC none none none none 0 0 0 0 0 0 0 0 0 0 0) 29) := by
    have hb := (Below.refl (w2.alloc (.cells (planC none none none none 0 0 0 0 0 0 0 0 0 0 0) 29)).heap.size (w2.alloc (.cells (planC none none none none 0 0 0 0 0 0 0 0 0 0 0) 29))).alloc (Nat.le_refl _) (.cells (stC none none none none 0 0 0 0 0 0 0 0 0 false 0 0 0 0 0 0) 34)
    exact (hb.block w2.heap.size (by simp)).trans (heap_alloc_new w2 _)
  have H7 := heap_alloc2_new w2 (.cells (planC none none none none 0 0 0 0 0 0 0 0 0 0 0) 29) (.cells (stC none none none none 0 0 0 0 0 0 0 0 0 false 0 0 0 0 0 0) 34)
  have H7' := (setRow_other ((w2.alloc (.cells (planC none none none none 0 0 0 0 0 0 0 0 0 0 0) 29)).alloc (.cells (stC none none none none 0 0 0 0 0 0 0 0 0 false 0 0 0 0 0 0) 34)) w2.heap.size _ (planC Q0 Q1 Q2 Q3 d.n0 e0 d.n1 e1 d.n2 e2 d.n3 e3 d.l d.p d.t) (Nat.succ_ne_self _)).trans H7
  go_upto_region 3 with (first
    | ((with_reducible refine store_plan (x := 6) (y := 15) (g := w2.heap.size) (cs := planC Q0 Q1 Q2 Q3 d.n0 e0 d.n1 e1 d.n2 e2 d.n3 e3 d.l d.p d.t) ?_ ?_ H6 ?_ ?_ ?_ ?_)
       · rfl
       · rfl
       · exact HIP.out
       · rfl
       · simp [Value.oneCell'])
    | ((with_reducible refine store_state (x := 7) (y := 16) (g := w2.heap.size + 1) (cs := stC Y0 Y1 Y2 Y3 s.pods.length f0 s.mnts.length f1 s.devs.length f2 s.lks.length f3 s.ph s.co s.ck s.bo s.ba s.lb s.gd s.pr) ?_ ?_ H7' ?_ ?_ ?_ ?_)
       · rfl
       · rfl
       · exact HIS.out
       · rfl
       · simp [Value.oneCell']))
  have h2w := KB.size
  have hw2 : w2.heap.size < w2.heap.size + 1 := Nat.lt_succ_self _
  have hA2 := below_setRow (below_setRow hA (Nat.le_refl _) (planC Q0 Q1 Q2 Q3 d.n0 e0 d.n1 e1 d.n2 e2 d.n3 e3 d.l d.p d.t)) (Nat.le_succ _) (stC Y0 Y1 Y2 Y3 s.pods.length f0 s.mnts.length f1 s.devs.length f2 s.lks.length f3 s.ph s.co s.ck s.bo s.ba s.lb s.gd s.pr)
  have G6 := (setRow_other (((w2.alloc (.cells (planC none none none none 0 0 0 0 0 0 0 0 0 0 0) 29)).alloc (.cells (stC none none none none 0 0 0 0 0 0 0 0 0 false 0 0 0 0 0 0) 34)).setRow w2.heap.size (planC Q0 Q1 Q2 Q3 d.n0 e0 d.n1 e1 d.n2 e2 d.n3 e3 d.l d.p d.t)) (w2.heap.size + 1) w2.heap.size (stC Y0 Y1 Y2 Y3 s.pods.length f0 s.mnts.length f1 s.devs.length f2 s.lks.length f3 s.ph s.co s.ck s.bo s.ba s.lb s.gd s.pr) (by omega)).trans (setRow_heap _ _ _ (planC Q0 Q1 Q2 Q3 d.n0 e0 d.n1 e1 d.n2 e2 d.n3 e3 d.l d.p d.t) _ _ H6)
  have G7 := setRow_heap (((w2.alloc (.cells (planC none none none none 0 0 0 0 0 0 0 0 0 0 0) 29)).alloc (.cells (stC none none none none 0 0 0 0 0 0 0 0 0 false 0 0 0 0 0 0) 34)).setRow w2.heap.size (planC Q0 Q1 Q2 Q3 d.n0 e0 d.n1 e1 d.n2 e2 d.n3 e3 d.l d.p d.t)) (w2.heap.size + 1) _ (stC Y0 Y1 Y2 Y3 s.pods.length f0 s.mnts.length f1 s.devs.length f2 s.lks.length f3 s.ph s.co s.ck s.bo s.ba s.lb s.gd s.pr) _ _ H7'
  clear H6 H7 H7' hA
  replace b2 := (hA2.block _ (Array.getElem?_eq_some_iff.1 b2).1).trans b2
  replace b3 := (hA2.block _ (Array.getElem?_eq_some_iff.1 b3).1).trans b3
  replace Lp := Lp.below hA2
  replace Os := Os.below hA2
  replace KB := KB.trans (hA2.mono KB.size)
  replace CU := CU.below hA2
  have hg2 : g < w2.heap.size := by assumption
  clear hA2 hw2
  generalize (((w2.alloc (.cells (planC none none none none 0 0 0 0 0 0 0 0 0 0 0) 29)).alloc (.cells (stC none none none none 0 0 0 0 0 0 0 0 0 false 0 0 0 0 0 0) 34)).setRow w2.heap.size (planC Q0 Q1 Q2 Q3 d.n0 e0 d.n1 e1 d.n2 e2 d.n3 e3 d.l d.p d.t)).setRow (w2.heap.size + 1) (stC Y0 Y1 Y2 Y3 s.pods.length f0 s.mnts.length f1 s.devs.length f2 s.lks.length f3 s.ph s.co s.ck s.bo s.ba s.lb s.gd s.pr) = w3 at b2 b3 G6 G7 Lp Os KB CU ⊢
  obtain ⟨R7, hR7⟩ : ∃ R, w2.heap.size + 1 = R := ⟨_, rfl⟩
  rw [hR7] at G7 ⊢
  generalize w2.heap.size = R6 at G6 hR7 hz4 hl2 hg2 h2w ⊢
  have H6 := G6
  have H7 := G7
  clear G6 G7
  go_wp2_with fail
  have K4 : Keeps (· = g) w3 (w3.alloc (.cells #[] 52)) := (Keeps.refl _ _).alloc _
  have CU4 := CU.alloc (.cells #[] 52)
  have O : OR (w3.alloc (.cells #[] 52)) w3.heap.size (.slice (some ⟨w3.heap.size, 0, none⟩) 0 0) [] := OR.empty (Nat.le_refl _)
  have h7 := (Array.getElem?_eq_some_iff.1 H7).1
  have h3w := KB.size
  generalize w3.alloc (.cells #[] 52) = w4 at K4 CU4 O ⊢
  refine (l1Below_any g 5 _ CU4 (by omega) (by omega)).mono ?_
  rintro e w5 ⟨nn, rfl, n0, n1, CU5, hk⟩
  replace O := O.keep hk (by rintro r hr rfl; omega)
  have K5 := K4.trans hk
  clear hk CU4 K4
  obtain ⟨nn, rfl⟩ := Int.eq_ofNat_of_zero_le n0
  go_wp2_with fail
  go_loopw [8, 9] (fun s8 s9 wr => ∃ (k : Nat) (l : List RecD), s9 = .int .i64 k ∧ k + l.length ≤ 4 ∧ OR wr w3.heap.size s8 l ∧ Cur 141 .i64 wr g ∧ Keeps (· = g) w3 wr) (fun _ s9 _ => (intOf s9).toNat)
  case atStart => exact ⟨nn, [], rfl, by simp; omega, O, CU5, K5⟩
  case round =>
    clear O CU5 K5
    obtain ⟨k, l, rfl, hkl, O, hc, K⟩ := hrel
    by_cases hpos : 0 < k
    · have hC7 : ∀ o, wr.cell? ⟨R7, o, none⟩ = (stC Y0 Y1 Y2 Y3 s.pods.length f0 s.mnts.length f1 s.devs.length f2 s.lks.length f3 s.ph s.co s.ck s.bo s.ba s.lb s.gd s.pr)[o]? := fun o => cell_of_row _ _ o _ _ _ ((K.block _ h7 (by show ¬ R7 = g; omega)).trans H7)
      go_wp2_with fail
      refine (l6DrawRec_any g _ hc (by have := hs.s0; omega) (by have := hs.s1; omega) (by have := hs.s2; omega)).mono ?_
      rintro e w6 ⟨⟨rk, ra, rb⟩, rfl, hc3, hk3⟩
      have HK3 := Lib.hid (K.trans hk3)
      have HO3 := Lib.hid (O.keep hk3 (by rintro r hr rfl; omega))
      have HC3 := Lib.hid hc3
      have hs3 : w3.heap.size ≤ w6.heap.size := HK3.out.size
      have h63 : Hid (l.length + 1 ≤ maxLen) := Lib.hid (by unfold maxLen; omega)
      have hby : Hid ((l.length + 1) * 24 ≤ 140737488355328) := Lib.hid (by omega)
      unfold recV
      dsimp only
      clear hc K O hc3 hk3 hC7
      go_wp2_with ((at_builtin; refine wpList_append_own _ rfl _ _ 37 rfl w3.heap.size 52 i0 (.agg #[.int .i64 0, .int .i64 0, .int .i64 0]) 3 24 Tryz.underlying37 HI.out HZ0.out HZ1.out HZ2.out rfl (by decide) _ _ _ rfl (ownsRow_below HO3.out ((Below.refl _ _).alloc (Nat.le_refl _) _)) ⟨w6.heap.size, 0, none⟩ 1 1 [.int .i64 rk, .int .i64 ra, .int .i64 rb] rfl rfl (World.news_of_block (cs := #[.int .i64 rk, .int .i64 ra, .int .i64 rb]) (heap_alloc_new w6 _)) (by simp [Value.oneCell']) h63.out hby.out (by simp; omega) ?_; intro v' w7 hown' hgrow hnil))
      refine ⟨⟨k - 1, l ++ [⟨rk, ra, rb⟩], int_eq (by omega), by simp; omega, OR.push_ ⟨rk, ra, rb⟩ hown', (HC3.out.alloc _).grown hgrow (fun r hr => by have := (HO3.out.lt hr).1; omega), (HK3.out.alloc _).grown hgrow (fun r hr => (HO3.out.lt hr).1)⟩, by simp [intOf]; omega⟩
    · obtain rfl : k = 0 := by omega
      go_upto_region 8 with fail
      obtain ⟨gcs, hgc⟩ := CU.cells
      replace Lp := Lp.keeps K hgc (by decide)
      replace Os := Os.keepsT K hgc (by decide)
      replace b2 := (K.block _ (Array.getElem?_eq_some_iff.1 b2).1 (by show ¬ w.heap.size = g; omega)).trans b2
      replace b3 := (K.block _ (Array.getElem?_eq_some_iff.1 b3).1 (by show ¬ w.heap.size + 1 = g; omega)).trans b3
      replace H6 := (K.block _ (Array.getElem?_eq_some_iff.1 H6).1 (by show ¬ R6 = g; omega)).trans H6
      replace H7 := (K.block _ (Array.getElem?_eq_some_iff.1 H7).1 (by show ¬ R7 = g; omega)).trans H7
      replace KB := KB.trans (K.below (B := w.heap.size) KB.size (by rintro b hb rfl; omega))
      clear K hgc CU hc hpos
      have hr8 := O.form_
      obtain ⟨AL, CL, rfl⟩ := hr8
      refine wp_region_noPanic ?_
      refine wp_region_held_drew (S := fun W => (∀ o, W.cell? ⟨R6, o, none⟩ = (planC Q0 Q1 Q2 Q3 d.n0 e0 d.n1 e1 d.n2 e2 d.n3 e3 d.l d.p d.t)[o]?) ∧ (∀ o, W.cell? ⟨R7, o, none⟩ = (stC Y0 Y1 Y2 Y3 s.pods.length f0 s.mnts.length f1 s.devs.length f2 s.lks.length f3 s.ph s.co s.ck s.bo s.ba s.lb s.gd s.pr)[o]?)) (by kernel_rfl) (by rw [← heap_drew wr] at H6 H7; exact ⟨fun o => cell_of_row _ _ o _ _ _ H6, fun o => cell_of_row _ _ o _ _ _ H7⟩) (fun _ => ?_)
      rw [← heap_drew wr] at b2 b3 H6 H7
      replace Lp := Lp.below (Below.refl _ _).drew
      replace Os := Os.below (Below.refl _ _).drew
      replace O := O.below (Below.refl _ _).drew
      replace KB := KB.drew
      generalize wr.drew = wd at b2 b3 H6 H7 Lp Os KB O ⊢
      refine wpAnyH_take (i := 0) (v := ?_) rfl (by kernel_rfl) (by kernel_rfl) (by kernel_rfl) (fun _ _ _ h => h) (Or.inl ⟨by rfl, ?_⟩) ⟨fun o => cell_of_row _ _ o _ _ _ H6, fun o => cell_of_row _ _ o _ _ _ H7⟩ ?_
      rotate_left 1
      · intro w hSw
        obtain ⟨hs6, hs7⟩ := hSw
        go_simp
        try with_reducible rfl
      change wpAnyH _ _ _ _ _ _ _ (Act.put _ (some 30) _) _
      dsimp only [Act.put]
      refine wpAnyH_take (i := 1) (v := ?_) rfl (by kernel_rfl) (by kernel_rfl) (by kernel_rfl) (fun _ _ _ h => h) (Or.inl ⟨by rfl, ?_⟩) ⟨fun o => cell_of_row _ _ o _ _ _ H6, fun o => cell_of_row _ _ o _ _ _ H7⟩ ?_
      rotate_left 1
      · intro w hSw
        obtain ⟨hs6, hs7⟩ := hSw
        go_simp
        try with_reducible rfl
      change wpAnyH _ _ _ _ _ _ _ (Act.put _ (some 31) _) _
      dsimp only [Act.put]
      refine wpAnyH_take (i := 2) (v := ?_) rfl (by kernel_rfl) (by kernel_rfl) (by kernel_rfl) (fun _ _ _ h => h) (Or.inl ⟨by rfl, ?_⟩) ⟨fun o => cell_of_row _ _ o _ _ _ H6, fun o => cell_of_row _ _ o _ _ _ H7⟩ ?_
      rotate_left 1
      · intro w hSw
        obtain ⟨hs6, hs7⟩ := hSw
        go_simp
        try with_reducible rfl
      change wpAnyH _ _ _ _ _ _ _ (Act.put _ (some 32) _) _
      dsimp only [Act.put]
      refine wpAnyH_ready (rs := [3]) (by kernel_rfl) (by simp) ?_
      refine AllReadyH.cons rfl (fun K' hK => ?_) AllReadyH.nil
      rw [if_pos (by rfl)]
      refine wp_store_row 29 (.tmp 2) (.tmp 30) rfl (w.heap.size) (planC Q0 Q1 Q2 Q3 d.n0 e0 d.n1 e1 d.n2 e2 d.n3 e3 d.l d.p d.t) rfl rfl 29 _ b2 HIP.out rfl (by simp [Value.oneCell']) ?_
      replace Lp := Lp.keeps (keepsRow_ _ (w.heap.size) (planC Q0 Q1 Q2 Q3 d.n0 e0 d.n1 e1 d.n2 e2 d.n3 e3 d.l d.p d.t)) b2 (by decide)
      replace Os := Os.keepsT (keepsRow_ _ (w.heap.size) (planC Q0 Q1 Q2 Q3 d.n0 e0 d.n1 e1 d.n2 e2 d.n3 e3 d.l d.p d.t)) b2 (by decide)
      replace O := O.keep (keepsRow_ _ (w.heap.size) (planC Q0 Q1 Q2 Q3 d.n0 e0 d.n1 e1 d.n2 e2 d.n3 e3 d.l d.p d.t)) (by rintro r hr rfl; omega)
      replace KB := belowRow_ KB (B := w.heap.size) (by omega) (planC Q0 Q1 Q2 Q3 d.n0 e0 d.n1 e1 d.n2 e2 d.n3 e3 d.l d.p d.t)
      replace b3 := (setRow_other _ (w.heap.size) (w.heap.size + 1) (planC Q0 Q1 Q2 Q3 d.n0 e0 d.n1 e1 d.n2 e2 d.n3 e3 d.l d.p d.t) (by omega)).trans b3
      replace H6 := (setRow_other _ (w.heap.size) (R6) (planC Q0 Q1 Q2 Q3 d.n0 e0 d.n1 e1 d.n2 e2 d.n3 e3 d.l d.p d.t) (by omega)).trans H6
      replace H7 := (setRow_other _ (w.heap.size) (R7) (planC Q0 Q1 Q2 Q3 d.n0 e0 d.n1 e1 d.n2 e2 d.n3 e3 d.l d.p d.t) (by omega)).trans H7
      replace b2 := setRow_heap _ _ _ (planC Q0 Q1 Q2 Q3 d.n0 e0 d.n1 e1 d.n2 e2 d.n3 e3 d.l d.p d.t) _ _ b2
      refine hK.out _ _ ⟨fun o => cell_of_row _ _ o _ _ _ H6, fun o => cell_of_row _ _ o _ _ _ H7⟩ (fun _ => ?_)
      clear hK K'
      try (change wpAnyH _ _ _ _ _ _ _ (Act.put _ none _) _; dsimp only [Act.put])
      refine wpAnyH_ready (rs := [4]) (by kernel_rfl) (by simp) ?_
      refine AllReadyH.cons rfl (fun K' hK => ?_) AllReadyH.nil
      rw [if_pos (by rfl)]
      refine wp_store_row 34 (.tmp 3) (.tmp 31) rfl (w.heap.size + 1) (stC Y0 Y1 Y2 Y3 s.pods.length f0 s.mnts.length f1 s.devs.length f2 s.lks.length f3 s.ph s.co s.ck s.bo s.ba s.lb s.gd s.pr) rfl rfl 34 _ b3 HIS.out rfl (by simp [Value.oneCell']) ?_
      replace Lp := Lp.keeps (keepsRow_ _ (w.heap.size + 1) (stC Y0 Y1 Y2 Y3 s.pods.length f0 s.mnts.length f1 s.devs.length f2 s.lks.length f3 s.ph s.co s.ck s.bo s.ba s.lb s.gd s.pr)) b3 (by decide)
      replace Os := Os.keepsT (keepsRow_ _ (w.heap.size + 1) (stC Y0 Y1 Y2 Y3 s.pods.length f0 s.mnts.length f1 s.devs.length f2 s.lks.length f3 s.ph s.co s.ck s.bo s.ba s.lb s.gd s.pr)) b3 (by decide)
      replace O := O.keep (keepsRow_ _ (w.heap.size + 1) (stC Y0 Y1 Y2 Y3 s.pods.length f0 s.mnts.length f1 s.devs.length f2 s.lks.length f3 s.ph s.co s.ck s.bo s.ba s.lb s.gd s.pr)) (by rintro r hr rfl; omega)
      replace KB := belowRow_ KB (B := w.heap.size + 1) (by omega) (stC Y0 Y1 Y2 Y3 s.pods.length f0 s.mnts.length f1 s.devs.length f2 s.lks.length f3 s.ph s.co s.ck s.bo s.ba s.lb s.gd s.pr)
      replace b2 := (setRow_other _ (w.heap.size + 1) (w.heap.size) (stC Y0 Y1 Y2 Y3 s.pods.length f0 s.mnts.length f1 s.devs.length f2 s.lks.length f3 s.ph s.co s.ck s.bo s.ba s.lb s.gd s.pr) (by omega)).trans b2
      replace H6 := (setRow_other _ (w.heap.size + 1) (R6) (stC Y0 Y1 Y2 Y3 s.pods.length f0 s.mnts.length f1 s.devs.length f2 s.lks.length f3 s.ph s.co s.ck s.bo s.ba s.lb s.gd s.pr) (by omega)).trans H6
      replace H7 := (setRow_other _ (w.heap.size + 1) (R7) (stC Y0 Y1 Y2 Y3 s.pods.length f0 s.mnts.length f1 s.devs.length f2 s.lks.length f3 s.ph s.co s.ck s.bo s.ba s.lb s.gd s.pr) (by omega)).trans H7
      replace b3 := setRow_heap _ _ _ (stC Y0 Y1 Y2 Y3 s.pods.length f0 s.mnts.length f1 s.devs.length f2 s.lks.length f3 s.ph s.co s.ck s.bo s.ba s.lb s.gd s.pr) _ _ b3
      refine hK.out _ _ ⟨fun o => cell_of_row _ _ o _ _ _ H6, fun o => cell_of_row _ _ o _ _ _ H7⟩ (fun _ => ?_)
      clear hK K'
      try (change wpAnyH _ _ _ _ _ _ _ (Act.put _ none _) _; dsimp only [Act.put])
      refine wpAnyH_take (i := 5) (v := ?_) rfl (by kernel_rfl) (by kernel_rfl) (by kernel_rfl) (fun _ _ _ h => h) (Or.inl ⟨by rfl, ?_⟩) ⟨fun o => cell_of_row _ _ o _ _ _ H6, fun o => cell_of_row _ _ o _ _ _ H7⟩ ?_
      rotate_left 1
      · intro w hSw
        obtain ⟨hs6, hs7⟩ := hSw
        go_simp
        try with_reducible rfl
      change wpAnyH _ _ _ _ _ _ _ (Act.put _ (some 4) _) _
      dsimp only [Act.put]
      refine wpAnyH_done (by kernel_rfl) ?_ _
      refine NoPanic.normal ?_
      go_wp2_with fail
      exact bodyPost_ret (v := .tuple #[.agg (planC Q0 Q1 Q2 Q3 d.n0 e0 d.n1 e1 d.n2 e2 d.n3 e3 d.l d.p d.t), .agg (stC Y0 Y1 Y2 Y3 s.pods.length f0 s.mnts.length f1 s.devs.length f2 s.lks.length f3 s.ph s.co s.ck s.bo s.ba s.lb s.gd s.pr), .slice AL l.length CL]) (results_cells_two_tmp Tryz.results21 _ _ _ _ _ _ _ _ _ _ _ _ _ rfl rfl rfl b2 b3 Tryz.underlying29 rfl HIP.out Tryz.underlying34 rfl HIS.out) rfl ⟨_, _, _, _, d, _, s, _, l, rfl, Lp, Os, hd, hs, O.base h3w, by omega, KB⟩
end Go.Proofs.YtdkmhaghnfhajaaGreatDoor
