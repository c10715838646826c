/-
  What FnPlanned asks, as data (stage 13).
-/
import Derived.Test.YtdkmhaghnfhajaaGreatDoorMZ16
import Derived.Test.YtdkmhaghnfhajaaGreatDoorMZ15
import Derived.Test.YtdkmhaghnfhajaaGreatDoorMZ7
import Derived.Deep.DeepCutAuto
import Derived.Test.YtdkmhaghnfhajaaGreatDoorMZ14
import Derived.Test.YtdkmhaghnfhajaaGreatDoorMZ3
import Derived.Test.YtdkmhaghnfhajaaGreatDoorMZxXj
/- Le -/
set_option linter.unusedVariables false
namespace Go.Proofs.YtdkmhaghnfhajaaGreatDoor
open Go.RowKit

set_option maxRecDepth 100000 in
set_option maxHeartbeats 4000000 in
theorem l13DrawAny_any (g : Nat) (w : World) (h : Cur 141 .i64 w g) : Calls Tryz.prog 97 #[.pointer (some ⟨g, 0, none⟩)] w (DrawnOrd g w) := by
  have hl := h.lt
  have hne : ¬ w.heap.size = g := by omega
  have X := Blk.new w #[.int .i64 0, .int .i64 0, .int .i64 0] 68
  have hc0 : Cur 141 .i64 (w.alloc (.cells #[.int .i64 0, .int .i64 0, .int .i64 0] 68)) g := h.alloc _
  have hK0 : Keeps (· = g) w (w.alloc (.cells #[.int .i64 0, .int .i64 0, .int .i64 0] 68)) := (Keeps.refl _ _).alloc _
  clear h
  go_enter Tryz.func97, Tryz.ntmps97
  go_wp2_with fail
  refine (l13Draw_any g _ hc0).mono ?_
  rintro e w1 ⟨k, a, b, rfl, hc1, hk1⟩
  have K := (hK0.trans hk1).alloc (.cells (ordC k a b) 68)
  have Y := Blk.new w1 (ordC k a b) 68
  replace X := (X.keeps hk1 hne).alloc (.cells (ordC k a b) 68)
  have CU := hc1.alloc (.cells (ordC k a b) 68)
  have hz1 := (X.keeps (Keeps.refl (fun _ => False) _) id).z
  have hR : w.heap.size < w1.heap.size := Nat.lt_of_lt_of_le (by simp) hk1.size
  have hgo : ¬ w1.heap.size = g := by omega
  clear hc0 hK0 hk1 hc1 hz1
  go_upto_region 2 with fail
  generalize w1.alloc (.cells (ordC k a b) 68) = w2 at K X Y CU ⊢
  generalize w1.heap.size = R1 at Y hR hgo ⊢
  go_wp2_with fail
  refine (l1Once_any g 5 _ CU (by omega) (by omega)).mono ?_
  rintro e w3 ⟨b_, rfl, CU3, hk⟩
  replace K := K.trans hk
  replace Y := Y.keeps hk hgo
  replace X := X.keeps hk hne
  clear hk CU
  have CU := CU3
  clear CU3
  cases b_
  · skip
    have q0 := Y.C
    have q1 := X.C
    have q2 := X.F
    go_wp2_with fail
    have r := (X.three k a b).C
    refine bodyPost_ret (v := .agg (ordC k a b)) ?_ rfl ⟨_, _, _, rfl, CU.three hl _ _ _, K.three _ _ _⟩
    simp [results, Tryz.results97, go_sem, r]
  · go_wp2_with fail
    refine (l1Below_any g 3 _ CU (by omega) (by omega)).mono ?_
    rintro e w3b ⟨x, rfl, x0, x1, CU3, hk⟩
    replace K := K.trans hk
    replace Y := Y.keeps hk hgo
    replace X := X.keeps hk hne
    clear hk CU
    have CU := CU3
    clear CU3
    rcases (by omega : x = 0 ∨ x = 1 ∨ x = 2) with rfl | rfl | rfl
    · clear x0 x1
      go_wp2_with fail
      refine (l1From_any g 0 14 _ CU (by omega) (by omega) (by omega) (by omega)).mono ?_
      rintro e w4 ⟨y, rfl, -, -, CU4, hk⟩
      replace K := K.trans hk
      replace Y := Y.keeps hk hgo
      replace X := X.keeps hk hne
      have hz4 := X.z
      clear hk CU
      have CU := CU4
      clear CU4
      have q0 := Y.C
      have q1 := Y.F
      go_upto_region 10 with fail
      replace Y := Y.set (i := 0) (by simp) (.int .i64 y)
      replace CU := CU.far (p := ⟨R1, 0, none⟩) (by show g < R1; omega) (.int .i64 y)
      replace K := K.far (p := ⟨R1, 0, none⟩) (by show w.heap.size ≤ R1; omega) (.int .i64 y)
      replace X := X.keeps (S := (· = R1)) ((Keeps.refl (· = R1) w4).set (p := ⟨R1, 0, none⟩) rfl (.int .i64 y)) (by show ¬ w.heap.size = R1; omega)
      generalize w4.setCell ⟨R1, 0, none⟩ (.int .i64 y) = w5 at Y CU K X ⊢
      replace Y : Blk w5 R1 (ordC y a b) := Y
      clear q0 q1
      have q0 := Y.C
      have q1 := X.C
      have q2 := X.F
      go_wp2_with fail
      have r := (X.three y a b).C
      refine bodyPost_ret (v := .agg (ordC y a b)) ?_ rfl ⟨_, _, _, rfl, CU.three hl _ _ _, K.three _ _ _⟩
      simp [results, Tryz.results97, go_sem, r]
    · clear x0 x1
      go_wp2_with fail
      refine (l1Num_any g 1000000 _ CU (by omega) (by omega)).mono ?_
      rintro e w4 ⟨y, rfl, CU4, hk⟩
      replace K := K.trans hk
      replace Y := Y.keeps hk hgo
      replace X := X.keeps hk hne
      have hz4 := X.z
      clear hk CU
      have CU := CU4
      clear CU4
      have q0 := Y.C
      have q1 := Y.F
      go_upto_region 10 with fail
      replace Y := Y.set (i := 1) (by simp) (.int .i64 y)
      replace CU := CU.far (p := ⟨R1, 1, none⟩) (by show g < R1; omega) (.int .i64 y)
      replace K := K.far (p := ⟨R1, 1, none⟩) (by show w.heap.size ≤ R1; omega) (.int .i64 y)
      replace X := X.keeps (S := (· = R1)) ((Keeps.refl (· = R1) w4).set (p := ⟨R1, 1, none⟩) rfl (.int .i64 y)) (by show ¬ w.heap.size = R1; omega)
      generalize w4.setCell ⟨R1, 1, none⟩ (.int .i64 y) = w5 at Y CU K X ⊢
      replace Y : Blk w5 R1 (ordC k y b) := Y
      clear q0 q1
      have q0 := Y.C
      have q1 := X.C
      have q2 := X.F
      go_wp2_with fail
      have r := (X.three k y b).C
      refine bodyPost_ret (v := .agg (ordC k y b)) ?_ rfl ⟨_, _, _, rfl, CU.three hl _ _ _, K.three _ _ _⟩
      simp [results, Tryz.results97, go_sem, r]
    · clear x0 x1
      go_wp2_with fail
      refine (l1Num_any g 1000000 _ CU (by omega) (by omega)).mono ?_
      rintro e w4 ⟨y, rfl, CU4, hk⟩
      replace K := K.trans hk
      replace Y := Y.keeps hk hgo
      replace X := X.keeps hk hne
      have hz4 := X.z
      clear hk CU
      have CU := CU4
      clear CU4
      have q0 := Y.C
      have q1 := Y.F
      go_upto_region 10 with fail
      replace Y := Y.set (i := 2) (by simp) (.int .i64 y)
      replace CU := CU.far (p := ⟨R1, 2, none⟩) (by show g < R1; omega) (.int .i64 y)
      replace K := K.far (p := ⟨R1, 2, none⟩) (by show w.heap.size ≤ R1; omega) (.int .i64 y)
      replace X := X.keeps (S := (· = R1)) ((Keeps.refl (· = R1) w4).set (p := ⟨R1, 2, none⟩) rfl (.int .i64 y)) (by show ¬ w.heap.size = R1; omega)
      generalize w4.setCell ⟨R1, 2, none⟩ (.int .i64 y) = w5 at Y CU K X ⊢
      replace Y : Blk w5 R1 (ordC k a y) := Y
      clear q0 q1
      have q0 := Y.C
      have q1 := X.C
      have q2 := X.F
      go_wp2_with fail
      have r := (X.three k a y).C
      refine bodyPost_ret (v := .agg (ordC k a y)) ?_ rfl ⟨_, _, _, rfl, CU.three hl _ _ _, K.three _ _ _⟩
      simp [results, Tryz.results97, go_sem, r]

set_option maxRecDepth 100000 in
set_option maxHeartbeats 4000000 in
theorem drawOrderOk_any (A : Option Addr) (n c : Nat) (w : World) (hB : Bytes w w.heap.size A n) (hn : n ≤ 4096) : Calls Tryz.prog 42 #[.slice A n c] w fun e w' => ∃ k a b : Int, e = .returned (.agg (ordC k a b)) ∧ Below w.heap.size w w' := by
  have X := Blk.new w #[.int .i64 0, .int .i64 0, .int .i64 0] 68
  have KB := (Below.refl w.heap.size w).alloc (Nat.le_refl _) (.cells #[.int .i64 0, .int .i64 0, .int .i64 0] 68)
  have HB := Lib.hid ((hB.below KB (Nat.le_refl _)).more KB.size)
  clear hB
  go_enter Tryz.func42, Tryz.ntmps42
  go_wp2_with fail
  refine (l1New_any A n c _ HB.out hn).mono ?_
  rintro e w1 ⟨g, rfl, hg, hc1, K1⟩
  replace X := X.below K1
  replace KB := KB.trans (K1.mono KB.size)
  have hlt : w.heap.size < g := by simp at hg; omega
  clear K1 HB hg
  go_wp2_with fail
  refine (l13DrawAny_any g _ hc1).mono ?_
  rintro e w2 ⟨k, a, b, rfl, -, hk⟩
  replace X := X.keeps hk (by show ¬ w.heap.size = g; omega)
  replace KB := KB.trans (hk.below (B := w.heap.size) KB.size (by rintro b hb rfl; omega))
  clear hk hc1
  have q1 := X.C
  have q2 := X.F
  go_wp2_with fail
  have r := (X.three k a b).C
  refine bodyPost_ret (v := .agg (ordC k a b)) ?_ rfl ⟨_, _, _, rfl, (((Keeps.of_below KB).three _ _ _).below (B := w.heap.size) (Nat.le_refl _) (by rintro b hb h; exact h))⟩
  simp [results, Tryz.results42, go_sem, r]

def GivesPSO (w : World) (e : Ending) (w' : World) : Prop :=
  ∃ v0 v1 v2 v3 d vs s k a b, e = .returned (.tuple #[.agg #[v0, v1, v2, v3, .int .i64 d.l, .int .i64 d.p, .int .i64 d.t], vs, .agg (ordC k a b)]) ∧ Lists w' w.heap.size v0 v1 v2 v3 d ∧ OwnSt w' w.heap.size vs s ∧ PlSmall d ∧ StSmall s ∧ Below w.heap.size w w'
theorem results_three_cells {P : Program} {fn : Func} {p q r : Tmp} {ty ty' ty2 : TypeId} (h : fn.results = #[.cell p ty, .cell q ty', .cell r ty2]) (tmps : Array Value) (w : World) (g g' g2 : Nat) (t t' t2 : TypeId) (cs cs' cs2 : Array Value) (fr fr' fr2 : Nat × Nat) (d d' d2 : TypeDesc)
    (hp : tmps.getD p undef = .pointer (some ⟨g, 0, none⟩)) (hq : tmps.getD q undef = .pointer (some ⟨g', 0, none⟩)) (hr : tmps.getD r undef = .pointer (some ⟨g2, 0, none⟩)) (hg : w.heap[g]? = some (.cells cs t fr)) (hg' : w.heap[g']? = some (.cells cs' t' fr')) (hg2 : w.heap[g2]? = some (.cells cs2 t2 fr2))
    (hu : P.underlying ty = some d) (hd : (match d with | .struct _ | .array _ _ => true | _ => false) = true) (hi : (P.info? ty).map (·.size) = some cs.size)
    (hu' : P.underlying ty' = some d') (hd' : (match d' with | .struct _ | .array _ _ => true | _ => false) = true) (hi' : (P.info? ty').map (·.size) = some cs'.size)
    (hu2 : P.underlying ty2 = some d2) (hd2 : (match d2 with | .struct _ | .array _ _ => true | _ => false) = true) (hi2 : (P.info? ty2).map (·.size) = some cs2.size) :
    (results fn tmps).run P w = .ok (.tuple #[.agg cs, .agg cs', .agg cs2]) w := by
  have hp' : tmps[p]?.getD undef = .pointer (some ⟨g, 0, none⟩) := by simpa using hp
  have hq' : tmps[q]?.getD undef = .pointer (some ⟨g', 0, none⟩) := by simpa using hq
  have hr' : tmps[r]?.getD undef = .pointer (some ⟨g2, 0, none⟩) := by simpa using hr
  simp [results, h, hp', hq', hr', asAddr, run_loadVar_row w g t ty cs fr d hg hu hd hi, run_loadVar_row w g' t' ty' cs' fr' d' hg' hu' hd' hi', run_loadVar_row w g2 t2 ty2 cs2 fr2 d2 hg2 hu2 hd2 hi2]

set_option maxRecDepth 100000 in
set_option maxHeartbeats 8000000 in
theorem drawPlanned_any (A : Option Addr) (n c : Nat) (w : World) (hB : Bytes w w.heap.size A n) (hn : n ≤ 4096) : Calls Tryz.prog 39 #[.slice A n c] w (GivesPSO w) := by
  have HIP : Hid ((Tryz.prog.info? 29).map (·.size) = some 7) := Lib.hid (by kernel_rfl)
  have HIS : Hid ((Tryz.prog.info? 34).map (·.size) = some 12) := Lib.hid (by kernel_rfl)
  have HIR : Hid ((Tryz.prog.info? 68).map (·.size) = some 3) := Lib.hid (by kernel_rfl)
  have b2 : (((w.alloc (.cells (planC none none none none 0 0 0 0 0 0 0 0 0 0 0) 29)).alloc (.cells (stC none none none none 0 0 0 0 0 0 0 0 0 false 0 0 0 0 0 0) 34)).alloc (.cells (#[.int .i64 0, .int .i64 0, .int .i64 0]) 68)).heap[w.heap.size]? = some (.cells (planC none none none none 0 0 0 0 0 0 0 0 0 0 0) 29) := by
    have hb := (Below.refl (w.alloc (.cells (planC none none none none 0 0 0 0 0 0 0 0 0 0 0) 29)).heap.size (w.alloc (.cells (planC none none none none 0 0 0 0 0 0 0 0 0 0 0) 29))).alloc (Nat.le_refl _) (.cells (stC none none none none 0 0 0 0 0 0 0 0 0 false 0 0 0 0 0 0) 34)
    have hb2 := hb.alloc hb.size (.cells (#[.int .i64 0, .int .i64 0, .int .i64 0]) 68)
    exact (hb2.block w.heap.size (by simp)).trans (heap_alloc_new w _)
  have b3 : (((w.alloc (.cells (planC none none none none 0 0 0 0 0 0 0 0 0 0 0) 29)).alloc (.cells (stC none none none none 0 0 0 0 0 0 0 0 0 false 0 0 0 0 0 0) 34)).alloc (.cells (#[.int .i64 0, .int .i64 0, .int .i64 0]) 68)).heap[w.heap.size + 1]? = some (.cells (stC none none none none 0 0 0 0 0 0 0 0 0 false 0 0 0 0 0 0) 34) := by
    have hb := (Below.refl ((w.alloc (.cells (planC none none none none 0 0 0 0 0 0 0 0 0 0 0) 29)).alloc (.cells (stC none none none none 0 0 0 0 0 0 0 0 0 false 0 0 0 0 0 0) 34)).heap.size ((w.alloc (.cells (planC none none none none 0 0 0 0 0 0 0 0 0 0 0) 29)).alloc (.cells (stC none none none none 0 0 0 0 0 0 0 0 0 false 0 0 0 0 0 0) 34))).alloc (Nat.le_refl _) (.cells (#[.int .i64 0, .int .i64 0, .int .i64 0]) 68)
    exact (hb.block (w.heap.size + 1) (by simp)).trans (heap_alloc2_new w _ _)
  have b4 : (((w.alloc (.cells (planC none none none none 0 0 0 0 0 0 0 0 0 0 0) 29)).alloc (.cells (stC none none none none 0 0 0 0 0 0 0 0 0 false 0 0 0 0 0 0) 34)).alloc (.cells (#[.int .i64 0, .int .i64 0, .int .i64 0]) 68)).heap[w.heap.size + 2]? = some (.cells (#[.int .i64 0, .int .i64 0, .int .i64 0]) 68) := by
    have := heap_alloc2_new (w.alloc (.cells (planC none none none none 0 0 0 0 0 0 0 0 0 0 0) 29)) (.cells (stC none none none none 0 0 0 0 0 0 0 0 0 false 0 0 0 0 0 0) 34) (.cells (#[.int .i64 0, .int .i64 0, .int .i64 0]) 68)
    rwa [heap_size_alloc_] at this
  have KB : Below w.heap.size w (((w.alloc (.cells (planC none none none none 0 0 0 0 0 0 0 0 0 0 0) 29)).alloc (.cells (stC none none none none 0 0 0 0 0 0 0 0 0 false 0 0 0 0 0 0) 34)).alloc (.cells (#[.int .i64 0, .int .i64 0, .int .i64 0]) 68)) := (((Below.refl _ _).alloc (Nat.le_refl _) _).alloc (by simp) _).alloc (by simp; omega) _
  have HB := Lib.hid ((hB.below KB (Nat.le_refl _)).more KB.size)
  clear hB
  go_enter Tryz.func39, Tryz.ntmps39
  go_wp2_with fail
  generalize (((w.alloc (.cells (planC none none none none 0 0 0 0 0 0 0 0 0 0 0) 29)).alloc (.cells (stC none none none none 0 0 0 0 0 0 0 0 0 false 0 0 0 0 0 0) 34)).alloc (.cells (#[.int .i64 0, .int .i64 0, .int .i64 0]) 68)) = w0 at b2 b3 b4 KB HB ⊢
  refine (l1New_any A n c w0 HB.out hn).mono ?_
  rintro e w1 ⟨g, rfl, hg, hc1, K1⟩
  have hz3 := (Array.getElem?_eq_some_iff.1 b4).1
  replace b2 := (K1.block _ (Array.getElem?_eq_some_iff.1 b2).1).trans b2
  replace b3 := (K1.block _ (Array.getElem?_eq_some_iff.1 b3).1).trans b3
  replace b4 := (K1.block _ (Array.getElem?_eq_some_iff.1 b4).1).trans b4
  replace KB := KB.trans (K1.mono KB.size)
  clear K1 HB
  go_wp2_with fail
  refine (l5DrawAny_any g w1 hc1).mono ?_
  rintro e w2 ⟨v0, v1, v2, v3, d, vs, s, rfl, Lp, Os, hd, hs, CU, hk⟩
  replace b2 := (hk.block _ (Array.getElem?_eq_some_iff.1 b2).1 (by show ¬ w.heap.size = g; omega)).trans b2
  replace b3 := (hk.block _ (Array.getElem?_eq_some_iff.1 b3).1 (by show ¬ w.heap.size + 1 = g; omega)).trans b3
  replace b4 := (hk.block _ (Array.getElem?_eq_some_iff.1 b4).1 (by show ¬ w.heap.size + 2 = g; omega)).trans b4
  have hl2 : g < w2.heap.size := CU.lt
  have hz4 := (Array.getElem?_eq_some_iff.1 b4).1
  replace Lp := Lp.base KB.size
  replace Os := Os.base KB.size
  replace KB := KB.trans (hk.below (B := w.heap.size) KB.size (by rintro b hb rfl; omega))
  clear hk hc1
  obtain ⟨y0, y1, y2, y3, rfl, -⟩ := Os.it
  obtain ⟨⟨Y0, f0, rfl⟩, ⟨Y1, f1, rfl⟩, ⟨Y2, f2, rfl⟩, ⟨Y3, f3, rfl⟩⟩ := Os.shapes
  obtain ⟨Q0, e0, rfl, -, -⟩ := Lp.o0.formR
  obtain ⟨Q1, e1, rfl, -, -⟩ := Lp.o1.formR
  obtain ⟨Q2, e2, rfl, -, -⟩ := Lp.o2.formR
  obtain ⟨Q3, e3, rfl, -, -⟩ := Lp.o3.formR
  have hA : Below w2.heap.size w2 ((w2.alloc (.cells (planC none none none none 0 0 0 0 0 0 0 0 0 0 0) 29)).alloc (.cells (stC none none none none 0 0 0 0 0 0 0 0 0 false 0 0 0 0 0 0) 34)) := ((Below.refl _ _).alloc (Nat.le_refl _) _).alloc (by simp) _
  have H6 : ((w2.alloc (.cells (planC none none none none 0 0 0 0 0 0 0 0 0 0 0) 29)).alloc (.cells (stC none none none none 0 0 0 0 0 0 0 0 0 false 0 0 0 0 0 0) 34)).heap[w2.heap.size]? = some (.cells (planC none none none none 0 0 0 0 0 0 0 0 0 0 0) 29) := by
    have hb := (Below.refl (w2.alloc (.cells (planC none none none none 0 0 0 0 0 0 0 0 0 0 0) 29)).heap.size (w2.alloc (.cells (planC none none none none 0 0 0 0 0 0 0 0 0 0 0) 29))).alloc (Nat.le_refl _) (.cells (stC none none none none 0 0 0 0 0 0 0 0 0 false 0 0 0 0 0 0) 34)
    exact (hb.block w2.heap.size (by simp)).trans (heap_alloc_new w2 _)
  have H7 := heap_alloc2_new w2 (.cells (planC none none none none 0 0 0 0 0 0 0 0 0 0 0) 29) (.cells (stC none none none none 0 0 0 0 0 0 0 0 0 false 0 0 0 0 0 0) 34)
  have H7' := (setRow_other ((w2.alloc (.cells (planC none none none none 0 0 0 0 0 0 0 0 0 0 0) 29)).alloc (.cells (stC none none none none 0 0 0 0 0 0 0 0 0 false 0 0 0 0 0 0) 34)) w2.heap.size _ (planC Q0 Q1 Q2 Q3 d.n0 e0 d.n1 e1 d.n2 e2 d.n3 e3 d.l d.p d.t) (Nat.succ_ne_self _)).trans H7
  go_upto_region 3 with (first
    | ((with_reducible refine store_plan (x := 6) (y := 13) (g := w2.heap.size) (cs := planC Q0 Q1 Q2 Q3 d.n0 e0 d.n1 e1 d.n2 e2 d.n3 e3 d.l d.p d.t) ?_ ?_ H6 ?_ ?_ ?_ ?_)
       · rfl
       · rfl
       · exact HIP.out
       · rfl
       · simp [Value.oneCell'])
    | ((with_reducible refine store_state (x := 7) (y := 14) (g := w2.heap.size + 1) (cs := stC Y0 Y1 Y2 Y3 s.pods.length f0 s.mnts.length f1 s.devs.length f2 s.lks.length f3 s.ph s.co s.ck s.bo s.ba s.lb s.gd s.pr) ?_ ?_ H7' ?_ ?_ ?_ ?_)
       · rfl
       · rfl
       · exact HIS.out
       · rfl
       · simp [Value.oneCell']))
  have h2w := KB.size
  have hw2 : w2.heap.size < w2.heap.size + 1 := Nat.lt_succ_self _
  have hA2 := below_setRow (below_setRow hA (Nat.le_refl _) (planC Q0 Q1 Q2 Q3 d.n0 e0 d.n1 e1 d.n2 e2 d.n3 e3 d.l d.p d.t)) (Nat.le_succ _) (stC Y0 Y1 Y2 Y3 s.pods.length f0 s.mnts.length f1 s.devs.length f2 s.lks.length f3 s.ph s.co s.ck s.bo s.ba s.lb s.gd s.pr)
  have G6 := (setRow_other (((w2.alloc (.cells (planC none none none none 0 0 0 0 0 0 0 0 0 0 0) 29)).alloc (.cells (stC none none none none 0 0 0 0 0 0 0 0 0 false 0 0 0 0 0 0) 34)).setRow w2.heap.size (planC Q0 Q1 Q2 Q3 d.n0 e0 d.n1 e1 d.n2 e2 d.n3 e3 d.l d.p d.t)) (w2.heap.size + 1) w2.heap.size (stC Y0 Y1 Y2 Y3 s.pods.length f0 s.mnts.length f1 s.devs.length f2 s.lks.length f3 s.ph s.co s.ck s.bo s.ba s.lb s.gd s.pr) (by omega)).trans (setRow_heap _ _ _ (planC Q0 Q1 Q2 Q3 d.n0 e0 d.n1 e1 d.n2 e2 d.n3 e3 d.l d.p d.t) _ _ H6)
  have G7 := setRow_heap (((w2.alloc (.cells (planC none none none none 0 0 0 0 0 0 0 0 0 0 0) 29)).alloc (.cells (stC none none none none 0 0 0 0 0 0 0 0 0 false 0 0 0 0 0 0) 34)).setRow w2.heap.size (planC Q0 Q1 Q2 Q3 d.n0 e0 d.n1 e1 d.n2 e2 d.n3 e3 d.l d.p d.t)) (w2.heap.size + 1) _ (stC Y0 Y1 Y2 Y3 s.pods.length f0 s.mnts.length f1 s.devs.length f2 s.lks.length f3 s.ph s.co s.ck s.bo s.ba s.lb s.gd s.pr) _ _ H7'
  clear H6 H7 H7' hA
  replace b2 := (hA2.block _ (Array.getElem?_eq_some_iff.1 b2).1).trans b2
  replace b3 := (hA2.block _ (Array.getElem?_eq_some_iff.1 b3).1).trans b3
  replace b4 := (hA2.block _ (Array.getElem?_eq_some_iff.1 b4).1).trans b4
  replace Lp := Lp.below hA2
  replace Os := Os.below hA2
  replace KB := KB.trans (hA2.mono KB.size)
  replace CU := CU.below hA2
  have hg2 : g < w2.heap.size := by assumption
  clear hA2 hw2
  generalize (((w2.alloc (.cells (planC none none none none 0 0 0 0 0 0 0 0 0 0 0) 29)).alloc (.cells (stC none none none none 0 0 0 0 0 0 0 0 0 false 0 0 0 0 0 0) 34)).setRow w2.heap.size (planC Q0 Q1 Q2 Q3 d.n0 e0 d.n1 e1 d.n2 e2 d.n3 e3 d.l d.p d.t)).setRow (w2.heap.size + 1) (stC Y0 Y1 Y2 Y3 s.pods.length f0 s.mnts.length f1 s.devs.length f2 s.lks.length f3 s.ph s.co s.ck s.bo s.ba s.lb s.gd s.pr) = w3 at b2 b3 b4 G6 G7 Lp Os KB CU ⊢
  obtain ⟨R7, hR7⟩ : ∃ R, w2.heap.size + 1 = R := ⟨_, rfl⟩
  rw [hR7] at G7 ⊢
  generalize w2.heap.size = R6 at G6 hR7 hz4 hl2 hg2 h2w ⊢
  have H6 := G6
  have H7 := G7
  clear G6 G7
  refine wp_region_noPanic ?_
  refine wp_region_held_drew (S := fun W => (∀ o, W.cell? ⟨R6, o, none⟩ = (planC Q0 Q1 Q2 Q3 d.n0 e0 d.n1 e1 d.n2 e2 d.n3 e3 d.l d.p d.t)[o]?) ∧ (∀ o, W.cell? ⟨R7, o, none⟩ = (stC Y0 Y1 Y2 Y3 s.pods.length f0 s.mnts.length f1 s.devs.length f2 s.lks.length f3 s.ph s.co s.ck s.bo s.ba s.lb s.gd s.pr)[o]?)) (by kernel_rfl) (by rw [← heap_drew w3] at H6 H7; exact ⟨fun o => cell_of_row _ _ o _ _ _ H6, fun o => cell_of_row _ _ o _ _ _ H7⟩) (fun _ => ?_)
  rw [← heap_drew w3] at b2 b3 b4 H6 H7
  replace Lp := Lp.below (Below.refl _ _).drew
  replace Os := Os.below (Below.refl _ _).drew
  replace KB := KB.drew
  replace CU := CU.below (Below.refl _ _).drew
  generalize w3.drew = wd at b2 b3 b4 H6 H7 Lp Os KB CU ⊢
  refine wpAnyH_take (i := 0) (v := ?_) rfl (by kernel_rfl) (by kernel_rfl) (by kernel_rfl) (fun _ _ _ h => h) (Or.inl ⟨by rfl, ?_⟩) ⟨fun o => cell_of_row _ _ o _ _ _ H6, fun o => cell_of_row _ _ o _ _ _ H7⟩ ?_
  rotate_left 1
  · intro w hSw
    obtain ⟨hs6, hs7⟩ := hSw
    go_simp
    try with_reducible rfl
  change wpAnyH _ _ _ _ _ _ _ (Act.put _ (some 15) _) _
  dsimp only [Act.put]
  refine wpAnyH_take (i := 1) (v := ?_) rfl (by kernel_rfl) (by kernel_rfl) (by kernel_rfl) (fun _ _ _ h => h) (Or.inl ⟨by rfl, ?_⟩) ⟨fun o => cell_of_row _ _ o _ _ _ H6, fun o => cell_of_row _ _ o _ _ _ H7⟩ ?_
  rotate_left 1
  · intro w hSw
    obtain ⟨hs6, hs7⟩ := hSw
    go_simp
    try with_reducible rfl
  change wpAnyH _ _ _ _ _ _ _ (Act.put _ (some 16) _) _
  dsimp only [Act.put]
  refine wpAnyH_take (i := 2) (v := ?_) rfl (by kernel_rfl) (by kernel_rfl) (by kernel_rfl) (fun _ _ _ h => h) (Or.inl ⟨by rfl, ?_⟩) ⟨fun o => cell_of_row _ _ o _ _ _ H6, fun o => cell_of_row _ _ o _ _ _ H7⟩ ?_
  rotate_left 1
  · intro w hSw
    obtain ⟨hs6, hs7⟩ := hSw
    go_simp
    try with_reducible rfl
  change wpAnyH _ _ _ _ _ _ _ (Act.put _ (some 17) _) _
  dsimp only [Act.put]
  refine wpAnyH_ready (rs := [3]) (by kernel_rfl) (by simp) ?_
  refine AllReadyH.cons rfl (fun K' hK => ?_) AllReadyH.nil
  go_simp
  go_at_call 97
  refine (l13DrawAny_any g _ CU).mono ?_
  rintro e w9 ⟨rk, ra, rb, rfl, CU9, hk⟩
  obtain ⟨gcs, hgc⟩ := CU.cells
  replace Lp := Lp.keeps hk hgc (by decide)
  replace Os := Os.keepsT hk hgc (by decide)
  replace b2 := (hk.block _ (Array.getElem?_eq_some_iff.1 b2).1 (by show ¬ w.heap.size = g; omega)).trans b2
  replace b3 := (hk.block _ (Array.getElem?_eq_some_iff.1 b3).1 (by show ¬ w.heap.size + 1 = g; omega)).trans b3
  replace b4 := (hk.block _ (Array.getElem?_eq_some_iff.1 b4).1 (by show ¬ w.heap.size + 2 = g; omega)).trans b4
  replace H6 := (hk.block _ (Array.getElem?_eq_some_iff.1 H6).1 (by show ¬ R6 = g; omega)).trans H6
  replace H7 := (hk.block _ (Array.getElem?_eq_some_iff.1 H7).1 (by show ¬ R7 = g; omega)).trans H7
  replace KB := KB.trans (hk.below (B := w.heap.size) KB.size (by rintro b hb rfl; omega))
  clear hk CU CU9 hgc
  go_wp2_with fail
  refine hK.out _ _ ⟨fun o => cell_of_row _ _ o _ _ _ H6, fun o => cell_of_row _ _ o _ _ _ H7⟩ (fun _ => ?_)
  clear hK K'
  try (change wpAnyH _ _ _ _ _ _ _ (Act.put _ (some 18) _) _; dsimp only [Act.put])
  refine wpAnyH_ready (rs := [4]) (by kernel_rfl) (by simp) ?_
  refine AllReadyH.cons rfl (fun K' hK => ?_) AllReadyH.nil
  rw [if_pos (by rfl)]
  refine wp_store_row 29 (.tmp 2) (.tmp 15) rfl (w.heap.size) (planC Q0 Q1 Q2 Q3 d.n0 e0 d.n1 e1 d.n2 e2 d.n3 e3 d.l d.p d.t) rfl rfl 29 _ b2 HIP.out rfl (by simp [Value.oneCell']) ?_
  replace Lp := Lp.keeps (keepsRow_ _ (w.heap.size) (planC Q0 Q1 Q2 Q3 d.n0 e0 d.n1 e1 d.n2 e2 d.n3 e3 d.l d.p d.t)) b2 (by decide)
  replace Os := Os.keepsT (keepsRow_ _ (w.heap.size) (planC Q0 Q1 Q2 Q3 d.n0 e0 d.n1 e1 d.n2 e2 d.n3 e3 d.l d.p d.t)) b2 (by decide)
  replace KB := belowRow_ KB (B := w.heap.size) (by omega) (planC Q0 Q1 Q2 Q3 d.n0 e0 d.n1 e1 d.n2 e2 d.n3 e3 d.l d.p d.t)
  replace b3 := (setRow_other _ (w.heap.size) (w.heap.size + 1) (planC Q0 Q1 Q2 Q3 d.n0 e0 d.n1 e1 d.n2 e2 d.n3 e3 d.l d.p d.t) (by omega)).trans b3
  replace b4 := (setRow_other _ (w.heap.size) (w.heap.size + 2) (planC Q0 Q1 Q2 Q3 d.n0 e0 d.n1 e1 d.n2 e2 d.n3 e3 d.l d.p d.t) (by omega)).trans b4
  replace H6 := (setRow_other _ (w.heap.size) (R6) (planC Q0 Q1 Q2 Q3 d.n0 e0 d.n1 e1 d.n2 e2 d.n3 e3 d.l d.p d.t) (by omega)).trans H6
  replace H7 := (setRow_other _ (w.heap.size) (R7) (planC Q0 Q1 Q2 Q3 d.n0 e0 d.n1 e1 d.n2 e2 d.n3 e3 d.l d.p d.t) (by omega)).trans H7
  replace b2 := setRow_heap _ _ _ (planC Q0 Q1 Q2 Q3 d.n0 e0 d.n1 e1 d.n2 e2 d.n3 e3 d.l d.p d.t) _ _ b2
  refine hK.out _ _ ⟨fun o => cell_of_row _ _ o _ _ _ H6, fun o => cell_of_row _ _ o _ _ _ H7⟩ (fun _ => ?_)
  clear hK K'
  try (change wpAnyH _ _ _ _ _ _ _ (Act.put _ none _) _; dsimp only [Act.put])
  refine wpAnyH_ready (rs := [5]) (by kernel_rfl) (by simp) ?_
  refine AllReadyH.cons rfl (fun K' hK => ?_) AllReadyH.nil
  rw [if_pos (by rfl)]
  refine wp_store_row 34 (.tmp 3) (.tmp 16) rfl (w.heap.size + 1) (stC Y0 Y1 Y2 Y3 s.pods.length f0 s.mnts.length f1 s.devs.length f2 s.lks.length f3 s.ph s.co s.ck s.bo s.ba s.lb s.gd s.pr) rfl rfl 34 _ b3 HIS.out rfl (by simp [Value.oneCell']) ?_
  replace Lp := Lp.keeps (keepsRow_ _ (w.heap.size + 1) (stC Y0 Y1 Y2 Y3 s.pods.length f0 s.mnts.length f1 s.devs.length f2 s.lks.length f3 s.ph s.co s.ck s.bo s.ba s.lb s.gd s.pr)) b3 (by decide)
  replace Os := Os.keepsT (keepsRow_ _ (w.heap.size + 1) (stC Y0 Y1 Y2 Y3 s.pods.length f0 s.mnts.length f1 s.devs.length f2 s.lks.length f3 s.ph s.co s.ck s.bo s.ba s.lb s.gd s.pr)) b3 (by decide)
  replace KB := belowRow_ KB (B := w.heap.size + 1) (by omega) (stC Y0 Y1 Y2 Y3 s.pods.length f0 s.mnts.length f1 s.devs.length f2 s.lks.length f3 s.ph s.co s.ck s.bo s.ba s.lb s.gd s.pr)
  replace b2 := (setRow_other _ (w.heap.size + 1) (w.heap.size) (stC Y0 Y1 Y2 Y3 s.pods.length f0 s.mnts.length f1 s.devs.length f2 s.lks.length f3 s.ph s.co s.ck s.bo s.ba s.lb s.gd s.pr) (by omega)).trans b2
  replace b4 := (setRow_other _ (w.heap.size + 1) (w.heap.size + 2) (stC Y0 Y1 Y2 Y3 s.pods.length f0 s.mnts.length f1 s.devs.length f2 s.lks.length f3 s.ph s.co s.ck s.bo s.ba s.lb s.gd s.pr) (by omega)).trans b4
  replace H6 := (setRow_other _ (w.heap.size + 1) (R6) (stC Y0 Y1 Y2 Y3 s.pods.length f0 s.mnts.length f1 s.devs.length f2 s.lks.length f3 s.ph s.co s.ck s.bo s.ba s.lb s.gd s.pr) (by omega)).trans H6
  replace H7 := (setRow_other _ (w.heap.size + 1) (R7) (stC Y0 Y1 Y2 Y3 s.pods.length f0 s.mnts.length f1 s.devs.length f2 s.lks.length f3 s.ph s.co s.ck s.bo s.ba s.lb s.gd s.pr) (by omega)).trans H7
  replace b3 := setRow_heap _ _ _ (stC Y0 Y1 Y2 Y3 s.pods.length f0 s.mnts.length f1 s.devs.length f2 s.lks.length f3 s.ph s.co s.ck s.bo s.ba s.lb s.gd s.pr) _ _ b3
  refine hK.out _ _ ⟨fun o => cell_of_row _ _ o _ _ _ H6, fun o => cell_of_row _ _ o _ _ _ H7⟩ (fun _ => ?_)
  clear hK K'
  try (change wpAnyH _ _ _ _ _ _ _ (Act.put _ none _) _; dsimp only [Act.put])
  refine wpAnyH_ready (rs := [6]) (by kernel_rfl) (by simp) ?_
  refine AllReadyH.cons rfl (fun K' hK => ?_) AllReadyH.nil
  rw [if_pos (by rfl)]
  refine wp_store_row 68 (.tmp 4) (.tmp 18) rfl (w.heap.size + 2) (#[.int .i64 rk, .int .i64 ra, .int .i64 rb]) rfl rfl 68 _ b4 HIR.out rfl (by simp [Value.oneCell']) ?_
  replace Lp := Lp.keeps (keepsRow_ _ (w.heap.size + 2) (#[.int .i64 rk, .int .i64 ra, .int .i64 rb])) b4 (by decide)
  replace Os := Os.keepsT (keepsRow_ _ (w.heap.size + 2) (#[.int .i64 rk, .int .i64 ra, .int .i64 rb])) b4 (by decide)
  replace KB := belowRow_ KB (B := w.heap.size + 2) (by omega) (#[.int .i64 rk, .int .i64 ra, .int .i64 rb])
  replace b2 := (setRow_other _ (w.heap.size + 2) (w.heap.size) (#[.int .i64 rk, .int .i64 ra, .int .i64 rb]) (by omega)).trans b2
  replace b3 := (setRow_other _ (w.heap.size + 2) (w.heap.size + 1) (#[.int .i64 rk, .int .i64 ra, .int .i64 rb]) (by omega)).trans b3
  replace H6 := (setRow_other _ (w.heap.size + 2) (R6) (#[.int .i64 rk, .int .i64 ra, .int .i64 rb]) (by omega)).trans H6
  replace H7 := (setRow_other _ (w.heap.size + 2) (R7) (#[.int .i64 rk, .int .i64 ra, .int .i64 rb]) (by omega)).trans H7
  replace b4 := setRow_heap _ _ _ (#[.int .i64 rk, .int .i64 ra, .int .i64 rb]) _ _ b4
  refine hK.out _ _ ⟨fun o => cell_of_row _ _ o _ _ _ H6, fun o => cell_of_row _ _ o _ _ _ H7⟩ (fun _ => ?_)
  clear hK K'
  try (change wpAnyH _ _ _ _ _ _ _ (Act.put _ none _) _; dsimp only [Act.put])
  refine wpAnyH_done (by kernel_rfl) ?_ _
  refine NoPanic.normal ?_
  go_wp2_with fail
  exact bodyPost_ret (v := .tuple #[.agg (planC Q0 Q1 Q2 Q3 d.n0 e0 d.n1 e1 d.n2 e2 d.n3 e3 d.l d.p d.t), .agg (stC Y0 Y1 Y2 Y3 s.pods.length f0 s.mnts.length f1 s.devs.length f2 s.lks.length f3 s.ph s.co s.ck s.bo s.ba s.lb s.gd s.pr), .agg #[.int .i64 rk, .int .i64 ra, .int .i64 rb]]) (results_three_cells Tryz.results39 _ _ _ _ _ _ _ _ _ _ _ _ _ _ _ _ _ rfl rfl rfl b2 b3 b4 Tryz.underlying29 rfl HIP.out Tryz.underlying34 rfl HIS.out Tryz.underlying68 rfl HIR.out) rfl ⟨_, _, _, _, d, _, s, rk, ra, rb, rfl, Lp, Os, hd, hs, KB⟩
end Go.Proofs.YtdkmhaghnfhajaaGreatDoor
/- Ou -/
set_option linter.unusedVariables false
namespace Go.Proofs.YtdkmhaghnfhajaaGreatDoor
open Go.RowKit

/-- Who has a code has no records. -/
def NoRecs (x : List RecD × Int) : Prop := x.2 ≠ 0 → x.1 = []
theorem noRecs_no (c : Int) : NoRecs (noR c) := fun _ => rfl
theorem noRecs_ok (l : List RecD) : NoRecs (l, 0) := fun h => absurd rfl h
theorem noRecs_one (k a b : Int) : NoRecs (oneR k a b) := fun h => absurd rfl h
theorem noRecs_phase (s : StD) (f t : Int) : NoRecs (phaseD s f t) := by
  unfold phaseD
  split
  · exact noRecs_one _ _ _
  · exact noRecs_no _
theorem noRecs_command (d : PlanD) (s : StD) (k a b : Int) : NoRecs (commandD d s k a b) := by
  have ht : ∀ f, NoRecs (toldD d s f a) := fun f => by
    unfold toldD
    (repeat' split) <;> first | exact noRecs_no _ | exact noRecs_one _ _ _
  unfold commandD
  repeat' split
  · exact noRecs_phase _ _ _
  · exact noRecs_phase _ _ _
  · unfold evictD; (repeat' split) <;> first | exact noRecs_no _ | exact noRecs_one _ _ _
  · unfold shutD; (repeat' split) <;> first | exact noRecs_no _ | exact noRecs_ok _
  · unfold cancelD; split
    · exact noRecs_one _ _ _
    · exact noRecs_phase _ _ _
  · unfold lockD; (repeat' split) <;> first | exact noRecs_no _ | exact noRecs_one _ _ _
  · unfold unlockD; (repeat' split) <;> first | exact noRecs_no _ | exact noRecs_one _ _ _
  · exact ht _
  · exact ht _
  · unfold busyD; (repeat' split) <;> first | exact noRecs_no _ | exact noRecs_one _ _ _
  · exact noRecs_no _
/-- What is refused has no records. -/
theorem no_command {d : PlanD} {s : StD} {k a b : Int} (h : (commandD d s k a b).2 ≠ 0) : (commandD d s k a b).1 = [] := noRecs_command d s k a b h
theorem no_planned {d : PlanD} {s : StD} {k a b : Int} (h : (plannedD d s k a b).2 ≠ 0) : (plannedD d s k a b).1 = [] := by
  unfold plannedD at h ⊢
  split at h
  · rename_i e
    rw [if_pos e]
    unfold planD at h ⊢
    split at h
    · rename_i e1
      rw [if_pos e1]
      unfold tickD at h ⊢
      split at h
      · rename_i e2
        rw [if_pos e2]
        rfl
      · exact absurd rfl h
    · rename_i e1
      rw [if_neg e1]
      split at h
      · rename_i e2
        rw [if_pos e2]
        unfold bootD at h ⊢
        split at h
        · rename_i e3
          rw [if_pos e3]
          split at h
          · rename_i e4
            rw [if_pos e4]
            rfl
          · exact absurd rfl h
        · rename_i e3
          rw [if_neg e3]
          rfl
      · rename_i e2
        rw [if_neg e2]
        split at h
        · rename_i e3
          rw [if_pos e3]
          unfold probeD at h ⊢
          split at h
          · exact absurd rfl h
          · rename_i e4
            rw [if_neg e4]
            rfl
        · rename_i e3
          rw [if_neg e3]
          exact no_command h
  · rename_i e
    rw [if_neg e]
    rfl
/-- What is planned is right and is done, but for a probe of one whose tries are used up already; or nothing, with a code. -/
theorem planned_good {d : PlanD} {s : StD} {k a b : Int} {l : List RecD} {cd : Int} (h : plannedD d s k a b = (l, cd)) :
    (cd = 0 ∧ orderOkB k a b = true ∧ ((k = 13 ∧ d.t ≤ s.pr) ∨ (¬ (k = 13 ∧ d.t ≤ s.pr) ∧ ∃ x, appliedL d s l = (x, true) ∧ StOk d x ∧ StFits x 1048576))) ∨ (cd ≠ 0 ∧ l = []) := by
  by_cases h0 : cd = 0
  · left
    subst h0
    have hc : (plannedD d s k a b).2 = 0 := by rw [h]
    have hl : (plannedD d s k a b).1 = l := by rw [h]
    unfold plannedD at hc hl
    by_cases e : (stOkB d s && orderOkB k a b) = true
    · rw [if_pos e] at hc hl
      have hs : stOkB d s = true := by
        rw [Bool.and_eq_true] at e
        exact e.1
      have hk : orderOkB k a b = true := by
        rw [Bool.and_eq_true] at e
        exact e.2
      have hok := stOkB_iff.1 hs
      refine ⟨rfl, hk, ?_⟩
      by_cases hp : k = 13 ∧ d.t ≤ s.pr
      · exact .inl hp
      · right
        refine ⟨hp, ?_⟩
        have fin : ∀ x, runR d s l = some x → ∃ x, appliedL d s l = (x, true) ∧ StOk d x ∧ StFits x 1048576 := fun x hx =>
          ⟨x, by rw [appliedL, if_pos hs, hx], runR_ok hok hx, fits_ok (runR_ok hok hx)⟩
        unfold planD at hc hl
        split at hc
        · rename_i e1
          rw [if_pos e1] at hl
          unfold tickD at hc hl
          split at hc
          · exact absurd hc (by decide)
          · rename_i e2
            rw [if_neg e2] at hl
            subst hl
            exact fin _ (tick_run hok (by omega))
        · rename_i e1
          rw [if_neg e1] at hl
          split at hc
          · rename_i e2
            rw [if_pos e2] at hl
            unfold bootD at hc hl
            split at hc
            · rename_i e3
              rw [if_pos e3] at hl
              split at hc
              · exact absurd hc (by decide)
              · rename_i e4
                rw [if_neg e4] at hl
                subst hl
                exact fin _ (boot_run hok (inB_true.1 e3))
            · exact absurd hc (by decide)
          · rename_i e2
            rw [if_neg e2] at hl
            split at hc
            · rename_i e3
              rw [if_pos e3] at hl
              unfold probeD at hc hl
              split at hc
              · rename_i e4
                rw [if_pos e4] at hl
                subst hl
                obtain ⟨x, hx, -⟩ := probe_run (good := a == 1) hok (by omega)
                exact fin _ hx
              · exact absurd hc (by decide)
            · rename_i e3
              rw [if_neg e3] at hl
              obtain ⟨x, hx, -⟩ := command_run hok hc
              rw [hl] at hx
              exact fin _ hx
    · rw [if_neg e] at hc
      exact absurd hc (by decide)
  · right
    refine ⟨h0, ?_⟩
    have := no_planned (d := d) (s := s) (k := k) (a := a) (b := b) (by rw [h]; exact h0)
    rw [h] at this
    exact this
end Go.Proofs.YtdkmhaghnfhajaaGreatDoor
