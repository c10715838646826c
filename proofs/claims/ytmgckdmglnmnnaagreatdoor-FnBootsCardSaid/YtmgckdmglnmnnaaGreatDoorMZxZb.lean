/-
  The model's draw of an order.
-/
import Derived.Test.YtmgckdmglnmnnaaGreatDoorMZ3
import Derived.Test.YtmgckdmglnmnnaaGreatDoorMZxWn
/- Zb -/
set_option linter.unusedVariables false
namespace Go.Proofs.YtmgckdmglnmnnaaGreatDoor
open Go.RowKit

/-- Behind a draw of an order, whichever. -/
def DrawnOrd (g : Nat) (w : World) (e : Ending) (w' : World) : Prop :=
  ∃ k a b : Int, e = .returned (.agg (ordC k a b)) ∧ Cur 71 .i64 w' g ∧ Keeps (· = g) w w'
theorem Blk.three {W : World} {g0 : Nat} (X : Blk W g0 #[.int .i64 0, .int .i64 0, .int .i64 0]) (k a b : Int) : Blk (((W.setCell ⟨g0, 0, none⟩ (.int .i64 k)).setCell ⟨g0, 1, none⟩ (.int .i64 a)).setCell ⟨g0, 2, none⟩ (.int .i64 b)) g0 (ordC k a b) :=
  ((X.set (i := 0) (by decide) (.int .i64 k)).set (i := 1) (by simp) (.int .i64 a)).set (i := 2) (by simp) (.int .i64 b)
theorem Cur.three {W : World} {g g0 : Nat} (h : Cur 71 .i64 W g) (hl : g < g0) (x y z : Value) : Cur 71 .i64 (((W.setCell ⟨g0, 0, none⟩ x).setCell ⟨g0, 1, none⟩ y).setCell ⟨g0, 2, none⟩ z) g :=
  ((h.far (p := ⟨g0, 0, none⟩) hl x).far (p := ⟨g0, 1, none⟩) hl y).far (p := ⟨g0, 2, none⟩) hl z
theorem Keeps.three {S : Nat → Prop} {w W : World} (h : Keeps S w W) (x y z : Value) : Keeps S w (((W.setCell ⟨w.heap.size, 0, none⟩ x).setCell ⟨w.heap.size, 1, none⟩ y).setCell ⟨w.heap.size, 2, none⟩ z) :=
  ((h.far (p := ⟨w.heap.size, 0, none⟩) (Nat.le_refl _) x).far (p := ⟨w.heap.size, 1, none⟩) (Nat.le_refl _) y).far (p := ⟨w.heap.size, 2, none⟩) (Nat.le_refl _) z

set_option maxRecDepth 100000 in
set_option maxHeartbeats 16000000 in
theorem l13Draw_any (g : Nat) (w : World) (h : Cur 71 .i64 w g) : Calls Tryz.prog 60 #[.pointer (some ⟨g, 0, none⟩)] w (DrawnOrd g w) := by
  have hl := h.lt
  have hne : ¬ w.heap.size = g := by omega
  have X0 := Blk.new w #[.int .i64 0, .int .i64 0, .int .i64 0] 94
  have hc0 : Cur 71 .i64 (w.alloc (.cells #[.int .i64 0, .int .i64 0, .int .i64 0] 94)) g := h.alloc _
  have hK0 : Keeps (· = g) w (w.alloc (.cells #[.int .i64 0, .int .i64 0, .int .i64 0] 94)) := (Keeps.refl _ _).alloc _
  clear h
  go_enter Tryz.func60, Tryz.ntmps60
  go_wp2_with fail
  refine (l1Below_any g 30 _ hc0 (by omega) (by omega)).mono ?_
  rintro e w1 ⟨x, rfl, x0, x1, hc1, hk1⟩
  have K1 := hK0.trans hk1
  have X1 := X0.keeps hk1 hne
  obtain ⟨x, rfl⟩ := Int.eq_ofNat_of_zero_le x0
  have hx : x < 30 := by omega
  clear hc0 hK0 hk1 X0 x0 x1
  rcases (by omega : x = 0 ∨ x = 1 ∨ x = 2 ∨ x = 3 ∨ x = 4 ∨ x = 5 ∨ x = 6 ∨ x = 7 ∨ x = 8 ∨ x = 9 ∨ x = 10 ∨ x = 11 ∨ x = 12 ∨ x = 13 ∨ x = 14 ∨ x = 15 ∨ x = 16 ∨ x = 17 ∨ x = 18 ∨ 19 ≤ x) with rfl | rfl | rfl | rfl | rfl | rfl | rfl | rfl | rfl | rfl | rfl | rfl | rfl | rfl | rfl | rfl | rfl | rfl | rfl | hge
  · clear hx
    have q0 := X1.C
    have q1 := X1.F
    go_wp2_with fail
    have r := (X1.three 1 0 0).C
    refine bodyPost_ret (v := .agg (ordC 1 0 0)) ?_ rfl ⟨_, _, _, rfl, hc1.three hl _ _ _, K1.three _ _ _⟩
    simp [results, Tryz.results60, go_sem, r]
  · clear hx
    have q0 := X1.C
    have q1 := X1.F
    go_wp2_with fail
    have r := (X1.three 1 0 0).C
    refine bodyPost_ret (v := .agg (ordC 1 0 0)) ?_ rfl ⟨_, _, _, rfl, hc1.three hl _ _ _, K1.three _ _ _⟩
    simp [results, Tryz.results60, go_sem, r]
  · clear hx
    have q0 := X1.C
    have q1 := X1.F
    go_wp2_with fail
    have r := (X1.three 1 0 0).C
    refine bodyPost_ret (v := .agg (ordC 1 0 0)) ?_ rfl ⟨_, _, _, rfl, hc1.three hl _ _ _, K1.three _ _ _⟩
    simp [results, Tryz.results60, go_sem, r]
  · clear hx
    have q0 := X1.C
    have q1 := X1.F
    go_wp2_with fail
    have r := (X1.three 2 0 0).C
    refine bodyPost_ret (v := .agg (ordC 2 0 0)) ?_ rfl ⟨_, _, _, rfl, hc1.three hl _ _ _, K1.three _ _ _⟩
    simp [results, Tryz.results60, go_sem, r]
  · clear hx
    have q0 := X1.C
    have q1 := X1.F
    go_wp2_with fail
    have r := (X1.three 2 0 0).C
    refine bodyPost_ret (v := .agg (ordC 2 0 0)) ?_ rfl ⟨_, _, _, rfl, hc1.three hl _ _ _, K1.three _ _ _⟩
    simp [results, Tryz.results60, go_sem, r]
  · clear hx
    go_wp2_with fail
    refine (l1Below_any g 5 _ hc1 (by omega) (by omega)).mono ?_
    rintro e w2 ⟨a, rfl, a0, a1, hc2, hk⟩
    have K2 := K1.trans hk
    have X2 := X1.keeps hk hne
    clear hc1 K1 X1 hk
    have q0 := X2.C
    have q1 := X2.F
    go_wp2_with fail
    have r := (X2.three 3 a 0).C
    refine bodyPost_ret (v := .agg (ordC 3 a 0)) ?_ rfl ⟨_, _, _, rfl, hc2.three hl _ _ _, K2.three _ _ _⟩
    simp [results, Tryz.results60, go_sem, r]
  · clear hx
    go_wp2_with fail
    refine (l1Below_any g 5 _ hc1 (by omega) (by omega)).mono ?_
    rintro e w2 ⟨a, rfl, a0, a1, hc2, hk⟩
    have K2 := K1.trans hk
    have X2 := X1.keeps hk hne
    clear hc1 K1 X1 hk
    have q0 := X2.C
    have q1 := X2.F
    go_wp2_with fail
    have r := (X2.three 3 a 0).C
    refine bodyPost_ret (v := .agg (ordC 3 a 0)) ?_ rfl ⟨_, _, _, rfl, hc2.three hl _ _ _, K2.three _ _ _⟩
    simp [results, Tryz.results60, go_sem, r]
  · clear hx
    have q0 := X1.C
    have q1 := X1.F
    go_wp2_with fail
    have r := (X1.three 4 0 0).C
    refine bodyPost_ret (v := .agg (ordC 4 0 0)) ?_ rfl ⟨_, _, _, rfl, hc1.three hl _ _ _, K1.three _ _ _⟩
    simp [results, Tryz.results60, go_sem, r]
  · clear hx
    have q0 := X1.C
    have q1 := X1.F
    go_wp2_with fail
    have r := (X1.three 4 0 0).C
    refine bodyPost_ret (v := .agg (ordC 4 0 0)) ?_ rfl ⟨_, _, _, rfl, hc1.three hl _ _ _, K1.three _ _ _⟩
    simp [results, Tryz.results60, go_sem, r]
  · clear hx
    have q0 := X1.C
    have q1 := X1.F
    go_wp2_with fail
    have r := (X1.three 4 0 0).C
    refine bodyPost_ret (v := .agg (ordC 4 0 0)) ?_ rfl ⟨_, _, _, rfl, hc1.three hl _ _ _, K1.three _ _ _⟩
    simp [results, Tryz.results60, go_sem, r]
  · clear hx
    have q0 := X1.C
    have q1 := X1.F
    go_wp2_with fail
    have r := (X1.three 5 0 0).C
    refine bodyPost_ret (v := .agg (ordC 5 0 0)) ?_ rfl ⟨_, _, _, rfl, hc1.three hl _ _ _, K1.three _ _ _⟩
    simp [results, Tryz.results60, go_sem, r]
  · clear hx
    go_wp2_with fail
    refine (l1Below_any g 3 _ hc1 (by omega) (by omega)).mono ?_
    rintro e w2 ⟨a, rfl, a0, a1, hc2, hk⟩
    have K2 := K1.trans hk
    have X2 := X1.keeps hk hne
    clear hc1 K1 X1 hk
    have q0 := X2.C
    have q1 := X2.F
    go_wp2_with fail
    have r := (X2.three 6 a 0).C
    refine bodyPost_ret (v := .agg (ordC 6 a 0)) ?_ rfl ⟨_, _, _, rfl, hc2.three hl _ _ _, K2.three _ _ _⟩
    simp [results, Tryz.results60, go_sem, r]
  · clear hx
    go_wp2_with fail
    refine (l1Below_any g 3 _ hc1 (by omega) (by omega)).mono ?_
    rintro e w2 ⟨a, rfl, a0, a1, hc2, hk⟩
    have K2 := K1.trans hk
    have X2 := X1.keeps hk hne
    clear hc1 K1 X1 hk
    have q0 := X2.C
    have q1 := X2.F
    go_wp2_with fail
    have r := (X2.three 7 a 0).C
    refine bodyPost_ret (v := .agg (ordC 7 a 0)) ?_ rfl ⟨_, _, _, rfl, hc2.three hl _ _ _, K2.three _ _ _⟩
    simp [results, Tryz.results60, go_sem, r]
  · clear hx
    go_wp2_with fail
    refine (l1Below_any g 5 _ hc1 (by omega) (by omega)).mono ?_
    rintro e w2 ⟨a, rfl, a0, a1, hc2, hk⟩
    have K2 := K1.trans hk
    have X2 := X1.keeps hk hne
    clear hc1 K1 X1 hk
    have q0 := X2.C
    have q1 := X2.F
    go_wp2_with fail
    have r := (X2.three 8 a 0).C
    refine bodyPost_ret (v := .agg (ordC 8 a 0)) ?_ rfl ⟨_, _, _, rfl, hc2.three hl _ _ _, K2.three _ _ _⟩
    simp [results, Tryz.results60, go_sem, r]
  · clear hx
    go_wp2_with fail
    refine (l1Below_any g 5 _ hc1 (by omega) (by omega)).mono ?_
    rintro e w2 ⟨a, rfl, a0, a1, hc2, hk⟩
    have K2 := K1.trans hk
    have X2 := X1.keeps hk hne
    clear hc1 K1 X1 hk
    have q0 := X2.C
    have q1 := X2.F
    go_wp2_with fail
    have r := (X2.three 9 a 0).C
    refine bodyPost_ret (v := .agg (ordC 9 a 0)) ?_ rfl ⟨_, _, _, rfl, hc2.three hl _ _ _, K2.three _ _ _⟩
    simp [results, Tryz.results60, go_sem, r]
  · clear hx
    go_wp2_with fail
    refine (l1Below_any g 4 _ hc1 (by omega) (by omega)).mono ?_
    rintro e w2 ⟨a, rfl, a0, a1, hc2, hk⟩
    have K2 := K1.trans hk
    have X2 := X1.keeps hk hne
    clear hc1 K1 X1 hk
    go_wp2_with fail
    refine (l1Below_any g 5 _ hc2 (by omega) (by omega)).mono ?_
    rintro e w3 ⟨b, rfl, b0, b1, hc3, hk⟩
    have K3 := K2.trans hk
    have X3 := X2.keeps hk hne
    clear hc2 K2 X2 hk
    have q0 := X3.C
    have q1 := X3.F
    go_wp2_with fail
    have r := (X3.three 10 a (1 + b)).C
    refine bodyPost_ret (v := .agg (ordC 10 a (1 + b))) ?_ rfl ⟨_, _, _, rfl, hc3.three hl _ _ _, K3.three _ _ _⟩
    simp [results, Tryz.results60, go_sem, r]
  · clear hx
    go_wp2_with fail
    refine (l1Below_any g 6 _ hc1 (by omega) (by omega)).mono ?_
    rintro e w2 ⟨a, rfl, a0, a1, hc2, hk⟩
    have K2 := K1.trans hk
    have X2 := X1.keeps hk hne
    clear hc1 K1 X1 hk
    have q0 := X2.C
    have q1 := X2.F
    go_wp2_with fail
    have r := (X2.three 12 (1 + a) 0).C
    refine bodyPost_ret (v := .agg (ordC 12 (1 + a) 0)) ?_ rfl ⟨_, _, _, rfl, hc2.three hl _ _ _, K2.three _ _ _⟩
    simp [results, Tryz.results60, go_sem, r]
  · clear hx
    go_wp2_with fail
    refine (l1Below_any g 4 _ hc1 (by omega) (by omega)).mono ?_
    rintro e w2 ⟨a, rfl, a0, a1, hc2, hk⟩
    have K2 := K1.trans hk
    have X2 := X1.keeps hk hne
    clear hc1 K1 X1 hk
    go_wp2_with fail
    refine (l1Min_any a 1 _).mono ?_
    rintro e w' ⟨rfl, rfl⟩
    generalize hm : (if a < 1 then a else 1) = m
    have q0 := X2.C
    have q1 := X2.F
    go_wp2_with fail
    have r := (X2.three 13 m 0).C
    refine bodyPost_ret (v := .agg (ordC 13 m 0)) ?_ rfl ⟨_, _, _, rfl, hc2.three hl _ _ _, K2.three _ _ _⟩
    simp [results, Tryz.results60, go_sem, r]
  · clear hx
    go_wp2_with fail
    refine (l1Below_any g 4 _ hc1 (by omega) (by omega)).mono ?_
    rintro e w2 ⟨a, rfl, a0, a1, hc2, hk⟩
    have K2 := K1.trans hk
    have X2 := X1.keeps hk hne
    clear hc1 K1 X1 hk
    go_wp2_with fail
    refine (l1Min_any a 1 _).mono ?_
    rintro e w' ⟨rfl, rfl⟩
    generalize hm : (if a < 1 then a else 1) = m
    have q0 := X2.C
    have q1 := X2.F
    go_wp2_with fail
    have r := (X2.three 13 m 0).C
    refine bodyPost_ret (v := .agg (ordC 13 m 0)) ?_ rfl ⟨_, _, _, rfl, hc2.three hl _ _ _, K2.three _ _ _⟩
    simp [results, Tryz.results60, go_sem, r]
  · have e0 : (((x : Nat) : Int) == 0) = false := by simp; omega
    have e1 : (((x : Nat) : Int) == 1) = false := by simp; omega
    have e2 : (((x : Nat) : Int) == 2) = false := by simp; omega
    have e3 : (((x : Nat) : Int) == 3) = false := by simp; omega
    have e4 : (((x : Nat) : Int) == 4) = false := by simp; omega
    have e5 : (((x : Nat) : Int) == 5) = false := by simp; omega
    have e6 : (((x : Nat) : Int) == 6) = false := by simp; omega
    have e7 : (((x : Nat) : Int) == 7) = false := by simp; omega
    have e8 : (((x : Nat) : Int) == 8) = false := by simp; omega
    have e9 : (((x : Nat) : Int) == 9) = false := by simp; omega
    have e10 : (((x : Nat) : Int) == 10) = false := by simp; omega
    have e11 : (((x : Nat) : Int) == 11) = false := by simp; omega
    have e12 : (((x : Nat) : Int) == 12) = false := by simp; omega
    have e13 : (((x : Nat) : Int) == 13) = false := by simp; omega
    have e14 : (((x : Nat) : Int) == 14) = false := by simp; omega
    have e15 : (((x : Nat) : Int) == 15) = false := by simp; omega
    have e16 : (((x : Nat) : Int) == 16) = false := by simp; omega
    have e17 : (((x : Nat) : Int) == 17) = false := by simp; omega
    have e18 : (((x : Nat) : Int) == 18) = false := by simp; omega
    have q0 := X1.C
    have q1 := X1.F
    go_wp2_with fail
    have r := (X1.three 11 0 0).C
    refine bodyPost_ret (v := .agg (ordC 11 0 0)) ?_ rfl ⟨_, _, _, rfl, hc1.three hl _ _ _, K1.three _ _ _⟩
    simp [results, Tryz.results60, go_sem, r]
end Go.Proofs.YtmgckdmglnmnnaaGreatDoor
