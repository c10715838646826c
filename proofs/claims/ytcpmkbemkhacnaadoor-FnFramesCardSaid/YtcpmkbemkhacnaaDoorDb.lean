/-
  The model's draws of records, of lists, of bytes.
-/
import Derived.Test.YtcpmkbemkhacnaaDoorDa
import Derived.Test.YtcpmkbemkhacnaaDoorBeS
set_option linter.unusedVariables false
namespace Go.Proofs.YtcpmkbemkhacnaaDoor
open Go.RowKit

set_option maxRecDepth 100000 in
set_option maxHeartbeats 4000000 in
theorem l3DrawAny_any (g : Nat) (w : World) (h : Cur 79 .i64 w g) : Calls Tryd.prog 43 #[.pointer (some ⟨g, 0, none⟩)] w (DrawnRec g w) := by
  have hl := h.lt
  have hne : ¬ w.heap.size = g := by omega
  have X0 := Blk.new w #[.int .i64 0, .int .i64 0, .int .i64 0] 30
  have hc0 : Cur 79 .i64 (w.alloc (.cells #[.int .i64 0, .int .i64 0, .int .i64 0] 30)) g := h.alloc _
  have hK0 : Keeps (· = g) w (w.alloc (.cells #[.int .i64 0, .int .i64 0, .int .i64 0] 30)) := (Keeps.refl _ _).alloc _
  clear h
  go_enter Tryd.func43, Tryd.ntmps43
  go_wp2_with fail
  refine (l3Draw_any g _ hc0).mono ?_
  rintro e w1 ⟨⟨rk, ra, rb⟩, rfl, hc1, hk1⟩
  have K1 := hK0.trans hk1
  have X1 := X0.keeps hk1 hne
  have hlt1 := X1.z
  unfold recV
  dsimp only
  clear hc0 hK0 hk1 X0
  go_wp2_with fail
  have K2 := K1.alloc (.cells #[.int .i64 rk, .int .i64 ra, .int .i64 rb] 30)
  have X2 := X1.alloc (.cells #[.int .i64 rk, .int .i64 ra, .int .i64 rb] 30)
  have Y2 := Blk.new w1 #[.int .i64 rk, .int .i64 ra, .int .i64 rb] 30
  have hc2 := hc1.alloc (.cells #[.int .i64 rk, .int .i64 ra, .int .i64 rb] 30)
  have hr : w.heap.size < w1.heap.size := hlt1
  have hrg : ¬ w1.heap.size = g := by omega
  clear K1 X1 hc1 hlt1
  generalize w1.alloc (.cells #[.int .i64 rk, .int .i64 ra, .int .i64 rb] 30) = w2 at K2 X2 Y2 hc2 ⊢
  generalize w1.heap.size = R at Y2 hr hrg ⊢
  refine (l1Once_any g 6 _ hc2 (by omega) (by omega)).mono ?_
  rintro e w3 ⟨b, rfl, hc3, hk3⟩
  have K3 := K2.trans hk3
  have X3 := X2.keeps hk3 hne
  have Y3 := Y2.keeps hk3 hrg
  clear K2 X2 Y2 hc2 hk3
  cases b
  · have q0 := X3.C
    have q1 := X3.F
    have q2 := Y3.C
    go_wp2_with fail
    have X9 := ((X3.set (i := 0) (by decide) (.int .i64 rk)).set (i := 1) (by simp) (.int .i64 ra)).set (i := 2) (by simp) (.int .i64 rb)
    have r9 := X9.C
    have C9 := ((hc3.far (p := ⟨w.heap.size, 0, none⟩) hl (.int .i64 rk)).far (p := ⟨w.heap.size, 1, none⟩) hl (.int .i64 ra)).far (p := ⟨w.heap.size, 2, none⟩) hl (.int .i64 rb)
    have K9 := ((K3.far (p := ⟨w.heap.size, 0, none⟩) (Nat.le_refl _) (.int .i64 rk)).far (p := ⟨w.heap.size, 1, none⟩) (Nat.le_refl _) (.int .i64 ra)).far (p := ⟨w.heap.size, 2, none⟩) (Nat.le_refl _) (.int .i64 rb)
    refine bodyPost_ret (v := recV ⟨rk, ra, rb⟩) ?_ rfl ⟨⟨rk, ra, rb⟩, rfl, C9, K9⟩
    simp [results, Tryd.results43, go_sem, r9, recV]
  · go_wp2_with fail
    refine (l1Below_any g 3 _ hc3 (by omega) (by omega)).mono ?_
    rintro e w4 ⟨x, rfl, x0, x1, hc4, hk4⟩
    have K4 := K3.trans hk4
    have X4 := X3.keeps hk4 hne
    have Y4 := Y3.keeps hk4 hrg
    clear K3 X3 Y3 hc3 hk4
    rcases (by omega : x = 0 ∨ x = 1 ∨ x = 2) with rfl | rfl | rfl
    · go_wp2_with fail
      refine (l1From_any g 0 13 _ hc4 (by omega) (by omega) (by omega) (by omega)).mono ?_
      rintro e w5 ⟨y, rfl, y0, y1, hc5, hk5⟩
      have K5 := K4.trans hk5
      have X5 := X4.keeps hk5 hne
      have Y5 := Y4.keeps hk5 hrg
      have Y6 := Y5.set (i := 0) (by simp) (.int .i64 y)
      have X6 := X5.keeps ((Keeps.refl (· = R) w5).set (p := ⟨R, 0, none⟩) rfl (.int .i64 y)) (by show ¬ w.heap.size = R; omega)
      have C6 := hc5.far (p := ⟨R, 0, none⟩) (by show g < R; omega) (.int .i64 y)
      have K6 := K5.far (p := ⟨R, 0, none⟩) (by show w.heap.size ≤ R; omega) (.int .i64 y)
      have q0 := Y5.C
      have q1 := Y5.F
      have q2 := X5.C
      have q3 := X5.F
      have q4 := Y6.C
      have q5 := X6.C
      have q6 := X6.F
      clear K4 X4 Y4 hc4 hk5 hc5 K5
      go_wp2_with fail
      have X9 := ((X6.set (i := 0) (by decide) (.int .i64 y)).set (i := 1) (by simp) (.int .i64 ra)).set (i := 2) (by simp) (.int .i64 rb)
      have r9 := X9.C
      have C9 := ((C6.far (p := ⟨w.heap.size, 0, none⟩) hl (.int .i64 y)).far (p := ⟨w.heap.size, 1, none⟩) hl (.int .i64 ra)).far (p := ⟨w.heap.size, 2, none⟩) hl (.int .i64 rb)
      have K9 := ((K6.far (p := ⟨w.heap.size, 0, none⟩) (Nat.le_refl _) (.int .i64 y)).far (p := ⟨w.heap.size, 1, none⟩) (Nat.le_refl _) (.int .i64 ra)).far (p := ⟨w.heap.size, 2, none⟩) (Nat.le_refl _) (.int .i64 rb)
      refine bodyPost_ret (v := recV ⟨y, ra, rb⟩) ?_ rfl ⟨⟨y, ra, rb⟩, rfl, C9, K9⟩
      simp [results, Tryd.results43, go_sem, r9, recV]
    · go_wp2_with fail
      refine (l1Num_any g 1000000 _ hc4 (by omega) (by omega)).mono ?_
      rintro e w5 ⟨y, rfl, hc5, hk5⟩
      have K5 := K4.trans hk5
      have X5 := X4.keeps hk5 hne
      have Y5 := Y4.keeps hk5 hrg
      have Y6 := Y5.set (i := 1) (by simp) (.int .i64 y)
      have X6 := X5.keeps ((Keeps.refl (· = R) w5).set (p := ⟨R, 1, none⟩) rfl (.int .i64 y)) (by show ¬ w.heap.size = R; omega)
      have C6 := hc5.far (p := ⟨R, 1, none⟩) (by show g < R; omega) (.int .i64 y)
      have K6 := K5.far (p := ⟨R, 1, none⟩) (by show w.heap.size ≤ R; omega) (.int .i64 y)
      have q0 := Y5.C
      have q1 := Y5.F
      have q2 := X5.C
      have q3 := X5.F
      have q4 := Y6.C
      have q5 := X6.C
      have q6 := X6.F
      clear K4 X4 Y4 hc4 hk5 hc5 K5
      go_wp2_with fail
      have X9 := ((X6.set (i := 0) (by decide) (.int .i64 rk)).set (i := 1) (by simp) (.int .i64 y)).set (i := 2) (by simp) (.int .i64 rb)
      have r9 := X9.C
      have C9 := ((C6.far (p := ⟨w.heap.size, 0, none⟩) hl (.int .i64 rk)).far (p := ⟨w.heap.size, 1, none⟩) hl (.int .i64 y)).far (p := ⟨w.heap.size, 2, none⟩) hl (.int .i64 rb)
      have K9 := ((K6.far (p := ⟨w.heap.size, 0, none⟩) (Nat.le_refl _) (.int .i64 rk)).far (p := ⟨w.heap.size, 1, none⟩) (Nat.le_refl _) (.int .i64 y)).far (p := ⟨w.heap.size, 2, none⟩) (Nat.le_refl _) (.int .i64 rb)
      refine bodyPost_ret (v := recV ⟨rk, y, rb⟩) ?_ rfl ⟨⟨rk, y, rb⟩, rfl, C9, K9⟩
      simp [results, Tryd.results43, go_sem, r9, recV]
    · go_wp2_with fail
      refine (l1Num_any g 1000000 _ hc4 (by omega) (by omega)).mono ?_
      rintro e w5 ⟨y, rfl, hc5, hk5⟩
      have K5 := K4.trans hk5
      have X5 := X4.keeps hk5 hne
      have Y5 := Y4.keeps hk5 hrg
      have Y6 := Y5.set (i := 2) (by simp) (.int .i64 y)
      have X6 := X5.keeps ((Keeps.refl (· = R) w5).set (p := ⟨R, 2, none⟩) rfl (.int .i64 y)) (by show ¬ w.heap.size = R; omega)
      have C6 := hc5.far (p := ⟨R, 2, none⟩) (by show g < R; omega) (.int .i64 y)
      have K6 := K5.far (p := ⟨R, 2, none⟩) (by show w.heap.size ≤ R; omega) (.int .i64 y)
      have q0 := Y5.C
      have q1 := Y5.F
      have q2 := X5.C
      have q3 := X5.F
      have q4 := Y6.C
      have q5 := X6.C
      have q6 := X6.F
      clear K4 X4 Y4 hc4 hk5 hc5 K5
      go_wp2_with fail
      have X9 := ((X6.set (i := 0) (by decide) (.int .i64 rk)).set (i := 1) (by simp) (.int .i64 ra)).set (i := 2) (by simp) (.int .i64 y)
      have r9 := X9.C
      have C9 := ((C6.far (p := ⟨w.heap.size, 0, none⟩) hl (.int .i64 rk)).far (p := ⟨w.heap.size, 1, none⟩) hl (.int .i64 ra)).far (p := ⟨w.heap.size, 2, none⟩) hl (.int .i64 y)
      have K9 := ((K6.far (p := ⟨w.heap.size, 0, none⟩) (Nat.le_refl _) (.int .i64 rk)).far (p := ⟨w.heap.size, 1, none⟩) (Nat.le_refl _) (.int .i64 ra)).far (p := ⟨w.heap.size, 2, none⟩) (Nat.le_refl _) (.int .i64 y)
      refine bodyPost_ret (v := recV ⟨rk, ra, y⟩) ?_ rfl ⟨⟨rk, ra, y⟩, rfl, C9, K9⟩
      simp [results, Tryd.results43, go_sem, r9, recV]
end Go.Proofs.YtcpmkbemkhacnaaDoor
