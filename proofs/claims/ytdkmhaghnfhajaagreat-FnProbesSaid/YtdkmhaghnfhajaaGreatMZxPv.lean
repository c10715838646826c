/-
  The model's draw of a plan, one time in six bent.
-/
import Derived.Test.YtdkmhaghnfhajaaGreatMZ2
/- Pv -/
set_option linter.unusedVariables false
set_option linter.unusedSimpArgs false
namespace Go.Proofs.YtdkmhaghnfhajaaGreat
open Go.RowKit

theorem OI.base {w : World} {B B' e k n : Nat} {v : Value} {x : Nat → Int} (h : OI w B e k v n x) (hb : B' ≤ B) : OI w B' e k v n x := by
  obtain ⟨xs, hown, hx⟩ := h
  exact ⟨xs, ownsRow_base hown hb, hx⟩
theorem OI.made {w : World} {B n : Nat} {v : Value} (h : w.ownsRow B 62 4 v n (madeCells #[.int .i64 0, .int .i64 0, .int .i64 0, .int .i64 0] (n * 4)).toList) : OI w B 62 4 v n (fun _ => 0) :=
  ⟨_, h, fun j hj => by
    have e : (#[.int .i64 0, .int .i64 0, .int .i64 0, .int .i64 0] : Array Value) = Array.replicate 4 (.int .i64 0) := rfl
    rw [e]
    simp [madeCells, hj]
    rw [getElem!_pos _ _ (by simp; exact Nat.mod_lt _ (by omega))]
    simp⟩
theorem Bld.of {T : TypeId} {kd : IntKind} {w w2 : World} {g : Nat} {v0 v1 v2 v3 : Value} {n0 n1 n2 n3 : Nat} {x0 x1 x2 x3 : Nat → Int} (hold : g < w.heap.size) (hc : Cur T kd w2 g) (hk : Keeps (· = g) (w.alloc (.cells zeroC 29)) w2) (cs : Array Value)
    (o0 : OI w2 (w.alloc (.cells zeroC 29)).heap.size 62 4 v0 n0 x0) (o1 : OI w2 (w.alloc (.cells zeroC 29)).heap.size 2 1 v1 n1 x1) (o2 : OI w2 (w.alloc (.cells zeroC 29)).heap.size 69 2 v2 n2 x2) (o3 : OI w2 (w.alloc (.cells zeroC 29)).heap.size 79 1 v3 n3 x3) :
    Bld T kd w (w2.alloc (.cells cs 29)) g w.heap.size w2.heap.size cs v0 v1 v2 v3 n0 n1 n2 n3 x0 x1 x2 x3 := by
  have hs := hk.size
  rw [heap_size_alloc_] at hs o0 o1 o2 o3
  have hb2 : Below w2.heap.size w2 (w2.alloc (.cells cs 29)) := (Below.refl _ _).alloc (Nat.le_refl _) _
  have hb1 : Below w.heap.size w (w.alloc (.cells zeroC 29)) := (Below.refl _ _).alloc (Nat.le_refl _) _
  exact ⟨hc.below hb2, (Keeps.of_below hb1).trans (hk.trans (Keeps.of_below hb2)), hold, heap_alloc_new _ _, by omega,
    (hb2.block _ (by omega)).trans ((hk.block _ (by rw [heap_size_alloc_]; omega) (by show ¬ w.heap.size = g; omega)).trans (heap_alloc_new _ _)), Nat.le_refl _, by omega,
    (o0.below hb2).base (by omega), (o1.below hb2).base (by omega), (o2.below hb2).base (by omega), (o3.below hb2).base (by omega)⟩
theorem grown_any {w w' : World} (h : w.grownBy w' none) (row : Option Nat) : w.grownBy w' row := ⟨h.os, h.tape, h.output, h.size, fun b hb _ => h.block b hb (by simp)⟩

set_option maxRecDepth 100000 in
set_option maxHeartbeats 8000000 in
theorem drawAny_of (HD : Hid (∀ (g : Nat) (w : World), Cur 112 .i64 w g → Calls Tryz.prog 102 #[.pointer (some ⟨g, 0, none⟩)] w (DrawnPlan 112 .i64 (fun d => planOkB d = true ∧ d.n0 ≤ 5 ∧ d.n1 ≤ 3 ∧ d.n2 ≤ 4 ∧ d.n3 ≤ 2) g w)))
    (g : Nat) (w : World) (h : Cur 112 .i64 w g) :
    Calls Tryz.prog 80 #[.pointer (some ⟨g, 0, none⟩)] w (DrawnPlan 112 .i64 (fun d => d.n0 ≤ 13 ∧ d.n1 ≤ 4 ∧ d.n2 ≤ 5 ∧ d.n3 ≤ 3) g w) := by
  have hold := h.lt
  go_enter Tryz.func80, Tryz.ntmps80
  go_wp2_with fail
  have h1 : Cur 112 .i64 (w.alloc (.cells zeroC 29)) g := h.below ((Below.refl _ _).alloc (Nat.le_refl _) _)
  refine (HD.out g _ h1).mono ?_
  rintro e w2 ⟨v0, v1, v2, v3, ⟨n0, n1, n2, n3, x0, x1, x2, x3, l, p, t⟩, rfl, o0, o1, o2, o3, hc, hk, -, m0, m1, m2, m3⟩
  dsimp only at o0 o1 o2 o3 m0 m1 m2 m3 ⊢
  have B := Bld.of hold hc hk #[v0, v1, v2, v3, .int .i64 l, .int .i64 p, .int .i64 t] o0 o1 o2 o3
  obtain ⟨V0, C0, rfl, -, -⟩ := o0.form
  obtain ⟨V1, C1, rfl, -, -⟩ := o1.form
  obtain ⟨V2, C2, rfl, -, -⟩ := o2.form
  obtain ⟨V3, C3, rfl, -, -⟩ := o3.form
  clear h h1 hc hk o0 o1 o2 o3
  go_wp2_with fail
  generalize w2.alloc (.cells #[.slice V0 n0 C0, .slice V1 n1 C1, .slice V2 n2 C2, .slice V3 n3 C3, .int .i64 l, .int .i64 p, .int .i64 t] 29) = w3 at B ⊢
  generalize w2.heap.size = P at B ⊢
  have hc := B.cur
  refine (l1Once_any g _ _ hc (by omega) (by omega)).mono ?_
  rintro e w4 ⟨b, rfl, hc4, hk4⟩
  have B4 := B.draw apart_cur hk4 hc4
  clear hc hk4 B
  cases b
  · skip
    have hR := B4.rl
    have hlR := B4.rlt
    have hlP := B4.lt
    have hRP := B4.rp
    have hPR := hRP.symm
    have hRc : ∀ o, w4.cell? ⟨w.heap.size, o, none⟩ = (planC none none none none 0 0 0 0 0 0 0 0 0 0 0)[o]? := fun o => cell_of_row _ _ _ _ _ _ hR
    have hRf : ∀ o, w4.frozen? ⟨w.heap.size, o, none⟩ = false := fun o => frozen_of_row _ _ _ _ _ hR
    have hP := B4.cell
    have hF := B4.frozen
    clear hR
    go_wp2_with fail
    refine bodyPost_ret (v := .agg #[.slice V0 n0 C0, .slice V1 n1 C1, .slice V2 n2 C2, .slice V3 n3 C3, .int .i64 l, .int .i64 p, .int .i64 t]) ?_ rfl ⟨.slice V0 n0 C0, .slice V1 n1 C1, .slice V2 n2 C2, .slice V3 n3 C3, ⟨n0, n1, n2, n3, x0, x1, x2, x3, l, p, t⟩, rfl, ?_⟩
    · simp [results, Tryz.results80, go_sem, hRc, hRP, hPR]
    · obtain ⟨r0, r1, r2, r3, r4, r5⟩ := Bld.out B4 ((((((((Keeps.refl (· = w.heap.size) _).set (p := ⟨w.heap.size, 0, none⟩) rfl (.slice V0 n0 C0)).set (p := ⟨w.heap.size, 1, none⟩) rfl (.slice V1 n1 C1)).set (p := ⟨w.heap.size, 2, none⟩) rfl (.slice V2 n2 C2)).set (p := ⟨w.heap.size, 3, none⟩) rfl (.slice V3 n3 C3)).set (p := ⟨w.heap.size, 4, none⟩) rfl (.int .i64 l)).set (p := ⟨w.heap.size, 5, none⟩) rfl (.int .i64 p)).set (p := ⟨w.heap.size, 6, none⟩) rfl (.int .i64 t))
      exact ⟨r0, r1, r2, r3, r4, r5, by dsimp only; omega, by dsimp only; omega, by dsimp only; omega, by dsimp only; omega⟩
  · go_wp2_with fail
    refine (l1Below_any g _ _ hc4 (by omega) (by omega)).mono ?_
    rintro e w5 ⟨x, rfl, x00, x01, hc5, hk5⟩
    have B5 := B4.draw apart_cur hk5 hc5
    clear hc4 hk5 B4
    have hP5 := B5.cell
    obtain ⟨x, rfl⟩ := Int.eq_ofNat_of_zero_le x00
    rcases (by omega : x = 0 ∨ x = 1 ∨ x = 2 ∨ x = 3 ∨ x = 4 ∨ x = 5 ∨ x = 6 ∨ x = 7) with rfl | rfl | rfl | rfl | rfl | rfl | rfl | rfl
    · go_wp2_with fail
      refine (l1Num_any g _ _ hc5 (by omega) (by omega)).mono ?_
      rintro e w6 ⟨y, rfl, hc6, hk6⟩
      have B6 := B5.draw apart_cur hk6 hc6
      clear hc5 hk6 B5 hP5
      have hR := B6.rl
      have hlR := B6.rlt
      have hlP := B6.lt
      have hRP := B6.rp
      have hPR := hRP.symm
      have hRc : ∀ o, w6.cell? ⟨w.heap.size, o, none⟩ = (planC none none none none 0 0 0 0 0 0 0 0 0 0 0)[o]? := fun o => cell_of_row _ _ _ _ _ _ hR
      have hRf : ∀ o, w6.frozen? ⟨w.heap.size, o, none⟩ = false := fun o => frozen_of_row _ _ _ _ _ hR
      have hP := B6.cell
      have hF := B6.frozen
      clear hR
      go_wp2_with fail
      refine bodyPost_ret (v := .agg #[.slice V0 n0 C0, .slice V1 n1 C1, .slice V2 n2 C2, .slice V3 n3 C3, .int .i64 y, .int .i64 p, .int .i64 t]) ?_ rfl ⟨.slice V0 n0 C0, .slice V1 n1 C1, .slice V2 n2 C2, .slice V3 n3 C3, ⟨n0, n1, n2, n3, x0, x1, x2, x3, y, p, t⟩, rfl, ?_⟩
      · simp [results, Tryz.results80, go_sem, hRc, hRP, hPR]
      · obtain ⟨r0, r1, r2, r3, r4, r5⟩ := Bld.out (B6.store apart_cur 4 (.int .i64 y)) ((((((((Keeps.refl (· = w.heap.size) _).set (p := ⟨w.heap.size, 0, none⟩) rfl (.slice V0 n0 C0)).set (p := ⟨w.heap.size, 1, none⟩) rfl (.slice V1 n1 C1)).set (p := ⟨w.heap.size, 2, none⟩) rfl (.slice V2 n2 C2)).set (p := ⟨w.heap.size, 3, none⟩) rfl (.slice V3 n3 C3)).set (p := ⟨w.heap.size, 4, none⟩) rfl (.int .i64 y)).set (p := ⟨w.heap.size, 5, none⟩) rfl (.int .i64 p)).set (p := ⟨w.heap.size, 6, none⟩) rfl (.int .i64 t))
        exact ⟨r0, r1, r2, r3, r4, r5, by dsimp only; omega, by dsimp only; omega, by dsimp only; omega, by dsimp only; omega⟩
    · go_wp2_with fail
      refine (l1From_any g _ _ _ hc5 (by omega) (by omega) (by omega) (by omega)).mono ?_
      rintro e w6 ⟨y, rfl, y0, y1, hc6, hk6⟩
      have B6 := B5.draw apart_cur hk6 hc6
      clear hc5 hk6 B5 hP5
      have hR := B6.rl
      have hlR := B6.rlt
      have hlP := B6.lt
      have hRP := B6.rp
      have hPR := hRP.symm
      have hRc : ∀ o, w6.cell? ⟨w.heap.size, o, none⟩ = (planC none none none none 0 0 0 0 0 0 0 0 0 0 0)[o]? := fun o => cell_of_row _ _ _ _ _ _ hR
      have hRf : ∀ o, w6.frozen? ⟨w.heap.size, o, none⟩ = false := fun o => frozen_of_row _ _ _ _ _ hR
      have hP := B6.cell
      have hF := B6.frozen
      clear hR
      go_wp2_with fail
      refine bodyPost_ret (v := .agg #[.slice V0 n0 C0, .slice V1 n1 C1, .slice V2 n2 C2, .slice V3 n3 C3, .int .i64 l, .int .i64 y, .int .i64 t]) ?_ rfl ⟨.slice V0 n0 C0, .slice V1 n1 C1, .slice V2 n2 C2, .slice V3 n3 C3, ⟨n0, n1, n2, n3, x0, x1, x2, x3, l, y, t⟩, rfl, ?_⟩
      · simp [results, Tryz.results80, go_sem, hRc, hRP, hPR]
      · obtain ⟨r0, r1, r2, r3, r4, r5⟩ := Bld.out (B6.store apart_cur 5 (.int .i64 y)) ((((((((Keeps.refl (· = w.heap.size) _).set (p := ⟨w.heap.size, 0, none⟩) rfl (.slice V0 n0 C0)).set (p := ⟨w.heap.size, 1, none⟩) rfl (.slice V1 n1 C1)).set (p := ⟨w.heap.size, 2, none⟩) rfl (.slice V2 n2 C2)).set (p := ⟨w.heap.size, 3, none⟩) rfl (.slice V3 n3 C3)).set (p := ⟨w.heap.size, 4, none⟩) rfl (.int .i64 l)).set (p := ⟨w.heap.size, 5, none⟩) rfl (.int .i64 y)).set (p := ⟨w.heap.size, 6, none⟩) rfl (.int .i64 t))
        exact ⟨r0, r1, r2, r3, r4, r5, by dsimp only; omega, by dsimp only; omega, by dsimp only; omega, by dsimp only; omega⟩
    · go_wp2_with fail
      refine (l1Num_any g _ _ hc5 (by omega) (by omega)).mono ?_
      rintro e w6 ⟨y, rfl, hc6, hk6⟩
      have B6 := B5.draw apart_cur hk6 hc6
      clear hc5 hk6 B5 hP5
      have hR := B6.rl
      have hlR := B6.rlt
      have hlP := B6.lt
      have hRP := B6.rp
      have hPR := hRP.symm
      have hRc : ∀ o, w6.cell? ⟨w.heap.size, o, none⟩ = (planC none none none none 0 0 0 0 0 0 0 0 0 0 0)[o]? := fun o => cell_of_row _ _ _ _ _ _ hR
      have hRf : ∀ o, w6.frozen? ⟨w.heap.size, o, none⟩ = false := fun o => frozen_of_row _ _ _ _ _ hR
      have hP := B6.cell
      have hF := B6.frozen
      clear hR
      go_wp2_with fail
      refine bodyPost_ret (v := .agg #[.slice V0 n0 C0, .slice V1 n1 C1, .slice V2 n2 C2, .slice V3 n3 C3, .int .i64 l, .int .i64 p, .int .i64 y]) ?_ rfl ⟨.slice V0 n0 C0, .slice V1 n1 C1, .slice V2 n2 C2, .slice V3 n3 C3, ⟨n0, n1, n2, n3, x0, x1, x2, x3, l, p, y⟩, rfl, ?_⟩
      · simp [results, Tryz.results80, go_sem, hRc, hRP, hPR]
      · obtain ⟨r0, r1, r2, r3, r4, r5⟩ := Bld.out (B6.store apart_cur 6 (.int .i64 y)) ((((((((Keeps.refl (· = w.heap.size) _).set (p := ⟨w.heap.size, 0, none⟩) rfl (.slice V0 n0 C0)).set (p := ⟨w.heap.size, 1, none⟩) rfl (.slice V1 n1 C1)).set (p := ⟨w.heap.size, 2, none⟩) rfl (.slice V2 n2 C2)).set (p := ⟨w.heap.size, 3, none⟩) rfl (.slice V3 n3 C3)).set (p := ⟨w.heap.size, 4, none⟩) rfl (.int .i64 l)).set (p := ⟨w.heap.size, 5, none⟩) rfl (.int .i64 p)).set (p := ⟨w.heap.size, 6, none⟩) rfl (.int .i64 y))
        exact ⟨r0, r1, r2, r3, r4, r5, by dsimp only; omega, by dsimp only; omega, by dsimp only; omega, by dsimp only; omega⟩
    · go_wp2_with fail
      have B6 := B5.drew
      have hz0 := B6.cur
      have hP6 := B6.cell
      have hF6 := B6.frozen
      have hRP := B6.rp
      have hPR := hRP.symm
      clear hc5 hP5
      go_region_law (first
        | (have hq := hz0
           clear hq
           go_simp
           go_at_call 79
           refine (l1Num_any g _ _ hz0 (by omega) (by omega)).mono ?_
           rintro e u0_ ⟨y0, rfl, hz1, hk⟩
           have B7 := B6.draw apart_cur hk hz1
           have hPB7 := B7.cell
           have hFB7 := B7.frozen
           have hlB7 := B7.lt)
        | (refine push1_step B7 apart_cur (by omega) y0 (by rfl) _ _ (by rfl) (by rfl) (by rfl) ?_
           intro gg cap wz BZ
           have hPz := BZ.cell
           have hFz := BZ.frozen
           have hRz := BZ.rl
           have hRc : ∀ o, wz.cell? ⟨w.heap.size, o, none⟩ = (planC none none none none 0 0 0 0 0 0 0 0 0 0 0)[o]? := fun o => cell_of_row _ _ _ _ _ _ hRz
           have hRf : ∀ o, wz.frozen? ⟨w.heap.size, o, none⟩ = false := fun o => frozen_of_row _ _ _ _ _ hRz
           clear hRz))
      all_goals
        go_wp2_with fail
        refine bodyPost_ret (v := .agg #[.slice V0 n0 C0, .slice (some ⟨gg, 0, none⟩) (n1 + 1) cap, .slice V2 n2 C2, .slice V3 n3 C3, .int .i64 l, .int .i64 p, .int .i64 t]) ?_ rfl ⟨.slice V0 n0 C0, .slice (some ⟨gg, 0, none⟩) (n1 + 1) cap, .slice V2 n2 C2, .slice V3 n3 C3, ⟨n0, n1 + 1, n2, n3, x0, ext n1 1 x1 [y0], x2, x3, l, p, t⟩, rfl, ?_⟩
        · simp [results, Tryz.results80, go_sem, hRc, hRP, hPR]
        · obtain ⟨r0, r1, r2, r3, r4, r5⟩ := Bld.out (BZ.store apart_cur 1 (.slice (some ⟨gg, 0, none⟩) (n1 + 1) cap)) ((((((((Keeps.refl (· = w.heap.size) _).set (p := ⟨w.heap.size, 0, none⟩) rfl (.slice V0 n0 C0)).set (p := ⟨w.heap.size, 1, none⟩) rfl (.slice (some ⟨gg, 0, none⟩) (n1 + 1) cap)).set (p := ⟨w.heap.size, 2, none⟩) rfl (.slice V2 n2 C2)).set (p := ⟨w.heap.size, 3, none⟩) rfl (.slice V3 n3 C3)).set (p := ⟨w.heap.size, 4, none⟩) rfl (.int .i64 l)).set (p := ⟨w.heap.size, 5, none⟩) rfl (.int .i64 p)).set (p := ⟨w.heap.size, 6, none⟩) rfl (.int .i64 t))
          exact ⟨r0, r1, r2, r3, r4, r5, by dsimp only; omega, by dsimp only; omega, by dsimp only; omega, by dsimp only; omega⟩
    · go_wp2_with fail
      have B6 := B5.drew
      have hz0 := B6.cur
      have hP6 := B6.cell
      have hF6 := B6.frozen
      have hRP := B6.rp
      have hPR := hRP.symm
      clear hc5 hP5
      go_region_law (first
        | (have hq := hz3
           clear hq
           go_simp
           go_at_call 79
           refine (l1Num_any g _ _ hz3 (by omega) (by omega)).mono ?_
           rintro e u3_ ⟨y3, rfl, hz4, hk⟩
           have B10 := B9.draw apart_cur hk hz4
           have hPB10 := B10.cell
           have hFB10 := B10.frozen
           have hlB10 := B10.lt)
        | (have hq := hz2
           clear hq
           go_simp
           go_at_call 79
           refine (l1Num_any g _ _ hz2 (by omega) (by omega)).mono ?_
           rintro e u2_ ⟨y2, rfl, hz3, hk⟩
           have B9 := B8.draw apart_cur hk hz3
           have hPB9 := B9.cell
           have hFB9 := B9.frozen
           have hlB9 := B9.lt)
        | (have hq := hz1
           clear hq
           go_simp
           go_at_call 79
           refine (l1Num_any g _ _ hz1 (by omega) (by omega)).mono ?_
           rintro e u1_ ⟨y1, rfl, hz2, hk⟩
           have B8 := B7.draw apart_cur hk hz2
           have hPB8 := B8.cell
           have hFB8 := B8.frozen
           have hlB8 := B8.lt)
        | (have hq := hz0
           clear hq
           go_simp
           go_at_call 61
           refine (l1From_any g _ _ _ hz0 (by omega) (by omega) (by omega) (by omega)).mono ?_
           rintro e u0_ ⟨y0, rfl, _, _, hz1, hk⟩
           have B7 := B6.draw apart_cur hk hz1
           have hPB7 := B7.cell
           have hFB7 := B7.frozen
           have hlB7 := B7.lt)
        | (refine push0_step B10 apart_cur (by omega) y0 y1 y2 y3 (by rfl) _ _ (by rfl) (by rfl) (by rfl) ?_
           intro gg cap wz BZ
           have hPz := BZ.cell
           have hFz := BZ.frozen
           have hRz := BZ.rl
           have hRc : ∀ o, wz.cell? ⟨w.heap.size, o, none⟩ = (planC none none none none 0 0 0 0 0 0 0 0 0 0 0)[o]? := fun o => cell_of_row _ _ _ _ _ _ hRz
           have hRf : ∀ o, wz.frozen? ⟨w.heap.size, o, none⟩ = false := fun o => frozen_of_row _ _ _ _ _ hRz
           clear hRz))
      all_goals
        go_wp2_with fail
        refine bodyPost_ret (v := .agg #[.slice (some ⟨gg, 0, none⟩) (n0 + 1) cap, .slice V1 n1 C1, .slice V2 n2 C2, .slice V3 n3 C3, .int .i64 l, .int .i64 p, .int .i64 t]) ?_ rfl ⟨.slice (some ⟨gg, 0, none⟩) (n0 + 1) cap, .slice V1 n1 C1, .slice V2 n2 C2, .slice V3 n3 C3, ⟨n0 + 1, n1, n2, n3, ext n0 4 x0 [y0, y1, y2, y3], x1, x2, x3, l, p, t⟩, rfl, ?_⟩
        · simp [results, Tryz.results80, go_sem, hRc, hRP, hPR]
        · obtain ⟨r0, r1, r2, r3, r4, r5⟩ := Bld.out (BZ.store apart_cur 0 (.slice (some ⟨gg, 0, none⟩) (n0 + 1) cap)) ((((((((Keeps.refl (· = w.heap.size) _).set (p := ⟨w.heap.size, 0, none⟩) rfl (.slice (some ⟨gg, 0, none⟩) (n0 + 1) cap)).set (p := ⟨w.heap.size, 1, none⟩) rfl (.slice V1 n1 C1)).set (p := ⟨w.heap.size, 2, none⟩) rfl (.slice V2 n2 C2)).set (p := ⟨w.heap.size, 3, none⟩) rfl (.slice V3 n3 C3)).set (p := ⟨w.heap.size, 4, none⟩) rfl (.int .i64 l)).set (p := ⟨w.heap.size, 5, none⟩) rfl (.int .i64 p)).set (p := ⟨w.heap.size, 6, none⟩) rfl (.int .i64 t))
          exact ⟨r0, r1, r2, r3, r4, r5, by dsimp only; omega, by dsimp only; omega, by dsimp only; omega, by dsimp only; omega⟩
    · go_wp2_with fail
      have B6 := B5.drew
      have hz0 := B6.cur
      have hP6 := B6.cell
      have hF6 := B6.frozen
      have hRP := B6.rp
      have hPR := hRP.symm
      clear hc5 hP5
      go_region_law (first
        | (have hq := hz1
           clear hq
           go_simp
           go_at_call 61
           refine (l1From_any g _ _ _ hz1 (by omega) (by omega) (by omega) (by omega)).mono ?_
           rintro e u1_ ⟨y1, rfl, _, _, hz2, hk⟩
           have B8 := B7.draw apart_cur hk hz2
           have hPB8 := B8.cell
           have hFB8 := B8.frozen
           have hlB8 := B8.lt)
        | (have hq := hz0
           clear hq
           go_simp
           go_at_call 61
           refine (l1From_any g _ _ _ hz0 (by omega) (by omega) (by omega) (by omega)).mono ?_
           rintro e u0_ ⟨y0, rfl, _, _, hz1, hk⟩
           have B7 := B6.draw apart_cur hk hz1
           have hPB7 := B7.cell
           have hFB7 := B7.frozen
           have hlB7 := B7.lt)
        | (refine push2_step B8 apart_cur (by omega) y0 y1 (by rfl) _ _ (by rfl) (by rfl) (by rfl) ?_
           intro gg cap wz BZ
           have hPz := BZ.cell
           have hFz := BZ.frozen
           have hRz := BZ.rl
           have hRc : ∀ o, wz.cell? ⟨w.heap.size, o, none⟩ = (planC none none none none 0 0 0 0 0 0 0 0 0 0 0)[o]? := fun o => cell_of_row _ _ _ _ _ _ hRz
           have hRf : ∀ o, wz.frozen? ⟨w.heap.size, o, none⟩ = false := fun o => frozen_of_row _ _ _ _ _ hRz
           clear hRz))
      all_goals
        go_wp2_with fail
        refine bodyPost_ret (v := .agg #[.slice V0 n0 C0, .slice V1 n1 C1, .slice (some ⟨gg, 0, none⟩) (n2 + 1) cap, .slice V3 n3 C3, .int .i64 l, .int .i64 p, .int .i64 t]) ?_ rfl ⟨.slice V0 n0 C0, .slice V1 n1 C1, .slice (some ⟨gg, 0, none⟩) (n2 + 1) cap, .slice V3 n3 C3, ⟨n0, n1, n2 + 1, n3, x0, x1, ext n2 2 x2 [y0, y1], x3, l, p, t⟩, rfl, ?_⟩
        · simp [results, Tryz.results80, go_sem, hRc, hRP, hPR]
        · obtain ⟨r0, r1, r2, r3, r4, r5⟩ := Bld.out (BZ.store apart_cur 2 (.slice (some ⟨gg, 0, none⟩) (n2 + 1) cap)) ((((((((Keeps.refl (· = w.heap.size) _).set (p := ⟨w.heap.size, 0, none⟩) rfl (.slice V0 n0 C0)).set (p := ⟨w.heap.size, 1, none⟩) rfl (.slice V1 n1 C1)).set (p := ⟨w.heap.size, 2, none⟩) rfl (.slice (some ⟨gg, 0, none⟩) (n2 + 1) cap)).set (p := ⟨w.heap.size, 3, none⟩) rfl (.slice V3 n3 C3)).set (p := ⟨w.heap.size, 4, none⟩) rfl (.int .i64 l)).set (p := ⟨w.heap.size, 5, none⟩) rfl (.int .i64 p)).set (p := ⟨w.heap.size, 6, none⟩) rfl (.int .i64 t))
          exact ⟨r0, r1, r2, r3, r4, r5, by dsimp only; omega, by dsimp only; omega, by dsimp only; omega, by dsimp only; omega⟩
    · go_wp2_with fail
      have B6 := B5.drew
      have hz0 := B6.cur
      have hP6 := B6.cell
      have hF6 := B6.frozen
      have hRP := B6.rp
      have hPR := hRP.symm
      clear hc5 hP5
      go_region_law (first
        | (have hq := hz0
           clear hq
           go_simp
           go_at_call 61
           refine (l1From_any g _ _ _ hz0 (by omega) (by omega) (by omega) (by omega)).mono ?_
           rintro e u0_ ⟨y0, rfl, _, _, hz1, hk⟩
           have B7 := B6.draw apart_cur hk hz1
           have hPB7 := B7.cell
           have hFB7 := B7.frozen
           have hlB7 := B7.lt)
        | (refine push3_step B7 apart_cur (by omega) y0 (by rfl) _ _ (by rfl) (by rfl) (by rfl) ?_
           intro gg cap wz BZ
           have hPz := BZ.cell
           have hFz := BZ.frozen
           have hRz := BZ.rl
           have hRc : ∀ o, wz.cell? ⟨w.heap.size, o, none⟩ = (planC none none none none 0 0 0 0 0 0 0 0 0 0 0)[o]? := fun o => cell_of_row _ _ _ _ _ _ hRz
           have hRf : ∀ o, wz.frozen? ⟨w.heap.size, o, none⟩ = false := fun o => frozen_of_row _ _ _ _ _ hRz
           clear hRz))
      all_goals
        go_wp2_with fail
        refine bodyPost_ret (v := .agg #[.slice V0 n0 C0, .slice V1 n1 C1, .slice V2 n2 C2, .slice (some ⟨gg, 0, none⟩) (n3 + 1) cap, .int .i64 l, .int .i64 p, .int .i64 t]) ?_ rfl ⟨.slice V0 n0 C0, .slice V1 n1 C1, .slice V2 n2 C2, .slice (some ⟨gg, 0, none⟩) (n3 + 1) cap, ⟨n0, n1, n2, n3 + 1, x0, x1, x2, ext n3 1 x3 [y0], l, p, t⟩, rfl, ?_⟩
        · simp [results, Tryz.results80, go_sem, hRc, hRP, hPR]
        · obtain ⟨r0, r1, r2, r3, r4, r5⟩ := Bld.out (BZ.store apart_cur 3 (.slice (some ⟨gg, 0, none⟩) (n3 + 1) cap)) ((((((((Keeps.refl (· = w.heap.size) _).set (p := ⟨w.heap.size, 0, none⟩) rfl (.slice V0 n0 C0)).set (p := ⟨w.heap.size, 1, none⟩) rfl (.slice V1 n1 C1)).set (p := ⟨w.heap.size, 2, none⟩) rfl (.slice V2 n2 C2)).set (p := ⟨w.heap.size, 3, none⟩) rfl (.slice (some ⟨gg, 0, none⟩) (n3 + 1) cap)).set (p := ⟨w.heap.size, 4, none⟩) rfl (.int .i64 l)).set (p := ⟨w.heap.size, 5, none⟩) rfl (.int .i64 p)).set (p := ⟨w.heap.size, 6, none⟩) rfl (.int .i64 t))
          exact ⟨r0, r1, r2, r3, r4, r5, by dsimp only; omega, by dsimp only; omega, by dsimp only; omega, by dsimp only; omega⟩
    · go_wp2_with fail
      refine (l1Below_any g _ _ hc5 (by omega) (by omega)).mono ?_
      rintro e w6 ⟨y, rfl, y0, y1, hc6, hk6⟩
      have B6 := B5.draw apart_cur hk6 hc6
      clear hc5 hk6 B5 hP5
      obtain ⟨i0, hi, hz0, hz1, hz2⟩ := info_parts info_pod
      obtain ⟨M, hM⟩ : ∃ M : Nat, (M : Int) = 12 + y := ⟨(12 + y).toNat, by omega⟩
      have hM1 : M ≤ 13 := by omega
      have HM := Lib.hid hM
      clear hM
      have hge6 := B6.pge
      have hlP6 := B6.lt
      go_wp2_with (at_make; refine wpList_make_full _ rfl _ _ 24 rfl w.heap.size 62 i0 (.agg #[.int .i64 0, .int .i64 0, .int .i64 0, .int .i64 0]) 4 Tryz.underlying24 hi hz0 hz1 _ _ _ _ M rfl rfl ?a1 ?a2 ?b2 ?b3 ?b4 ?_)
      case a1 => exact HM.out.symm
      case a2 => exact HM.out.symm
      case b2 => rw [hz2]; omega
      case b3 => unfold maxLen; omega
      case b4 => omega
      intro w7 hown hgrow
      have B7 := B6.push0 apart_cur (grown_any hgrow _) (OI.made hown)
      clear hown hgrow hz0 hz1 hz2 hi B6
      have hR := B7.rl
      have hlR := B7.rlt
      have hlP := B7.lt
      have hRP := B7.rp
      have hPR := hRP.symm
      have hRc : ∀ o, w7.cell? ⟨w.heap.size, o, none⟩ = (planC none none none none 0 0 0 0 0 0 0 0 0 0 0)[o]? := fun o => cell_of_row _ _ _ _ _ _ hR
      have hRf : ∀ o, w7.frozen? ⟨w.heap.size, o, none⟩ = false := fun o => frozen_of_row _ _ _ _ _ hR
      have hP := B7.cell
      have hF := B7.frozen
      clear hR
      go_wp2_with fail
      refine bodyPost_ret (v := .agg #[.slice (some ⟨w6.heap.size, 0, none⟩) M M, .slice V1 n1 C1, .slice V2 n2 C2, .slice V3 n3 C3, .int .i64 l, .int .i64 p, .int .i64 t]) ?_ rfl ⟨.slice (some ⟨w6.heap.size, 0, none⟩) M M, .slice V1 n1 C1, .slice V2 n2 C2, .slice V3 n3 C3, ⟨M, n1, n2, n3, (fun _ => 0), x1, x2, x3, l, p, t⟩, rfl, ?_⟩
      · simp [results, Tryz.results80, go_sem, hRc, hRP, hPR]
      · obtain ⟨r0, r1, r2, r3, r4, r5⟩ := Bld.out (B7.store apart_cur 0 (.slice (some ⟨w6.heap.size, 0, none⟩) M M)) ((((((((Keeps.refl (· = w.heap.size) _).set (p := ⟨w.heap.size, 0, none⟩) rfl (.slice (some ⟨w6.heap.size, 0, none⟩) M M)).set (p := ⟨w.heap.size, 1, none⟩) rfl (.slice V1 n1 C1)).set (p := ⟨w.heap.size, 2, none⟩) rfl (.slice V2 n2 C2)).set (p := ⟨w.heap.size, 3, none⟩) rfl (.slice V3 n3 C3)).set (p := ⟨w.heap.size, 4, none⟩) rfl (.int .i64 l)).set (p := ⟨w.heap.size, 5, none⟩) rfl (.int .i64 p)).set (p := ⟨w.heap.size, 6, none⟩) rfl (.int .i64 t))
        exact ⟨r0, r1, r2, r3, r4, r5, by dsimp only; omega, by dsimp only; omega, by dsimp only; omega, by dsimp only; omega⟩
end Go.Proofs.YtdkmhaghnfhajaaGreat
