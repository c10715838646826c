/-
  Sizes and copies of agents in the laws.
-/
import Derived.Test.YtkefbmbjkijilaaGreatDoorRp
import Derived.Test.YtkefbmbjkijilaaGreatDoorMZ19
set_option linter.unusedVariables false
namespace Go.Proofs.YtkefbmbjkijilaaGreatDoor
open Go.RowKit

theorem NewPlan.isR {w w' : World} {d : PlanD} {g0 g1 g2 g3 : Nat} (h : NewPlan w w' d g0 g1 g2 g3) (hf : PlFits d) : IsPlR w' w'.heap.size (newPlanV d g0 g1 g2 g3) d := by
  obtain ⟨l0, l1, l2, l3, l4, R0, R1, R2, R3⟩ := h
  exact ⟨⟨_, _, _, _, _, _, _, _, rfl, ⟨R0.sl (Nat.le_refl _) (by omega), R1.sl (by omega) (by omega), R2.sl (Nat.le_refl _) (by omega), R3.sl (by omega) (by omega)⟩, (fun e => by cases e), (fun e => by cases e), (fun e => by cases e), (fun e => by cases e)⟩, hf⟩
theorem NewPlan.blk {w w' : World} {d : PlanD} {g0 g1 g2 g3 b : Nat} (h : NewPlan w w' d g0 g1 g2 g3) (hb : PBlk (.slice (some ⟨g0, 0, none⟩) d.n0 d.n0) (.slice (some ⟨g1, 0, none⟩) d.n1 d.n1) (.slice (some ⟨g2, 0, none⟩) d.n2 d.n2) (.slice (some ⟨g3, 0, none⟩) d.n3 d.n3) d b) : w.heap.size ≤ b ∧ b < w'.heap.size := by
  obtain ⟨l0, l1, l2, l3, l4, -, -, -, -⟩ := h
  rcases hb with hb | hb | hb | hb
  all_goals
    have := blk_one hb
    omega
theorem RowsIn.r {w : World} {v : Value} {s : StD} {B E : Nat} (h : RowsIn w v s B E) : RowsR w v s (fun b => B ≤ b ∧ b < E) := by
  obtain ⟨g0, g1, g2, g3, R, ⟨b0, b1, b2, b3⟩, e0, e1, e2, e3⟩ := h.it
  exact ⟨g0, g1, g2, g3, R, fun hn => ⟨b0, e0 hn⟩, fun hn => ⟨b1, e1 hn⟩, fun hn => ⟨b2, e2 hn⟩, fun hn => ⟨b3, e3 hn⟩⟩
theorem RowU.urow {w : World} {g n : Nat} {x : Nat → Int} (R : RowU w g n x) (hg : g < w.heap.size) : URow w (.slice (some ⟨g, 0, none⟩) n n) n x := ⟨_, n, g, rfl, Nat.le_refl _, fun _ => rfl, fun _ => hg, R⟩
/-- A load of an agent, guarded or not. -/
theorem load_agentG {ops : Array Oper} {rest : List Oper} {dst : Option Tmp} {ty : TypeId} {pos : String} {after : Array Edge} {gd : Option (Nat × Bool)} {a : Act} {w : World} {Q : Exit → Act → World → Prop} {g x : Nat} {cs : Array Value}
    (hgd : Region.wanted (Oper.mk dst (.load 48 (.tmp x)) ty pos after gd) (yielded ops a.tmps) = true) (hx : a.eval (.tmp x) = .pointer (some ⟨g, 0, none⟩)) (hg : w.heap[g]? = some (.cells cs 48)) (hi : (Tryz.prog.info? 48).map (·.size) = some cs.size)
    (h : wpList Tryz.prog ops Q rest (a.put dst (.agg cs)) w) : wpList Tryz.prog ops Q (Oper.mk dst (.load 48 (.tmp x)) ty pos after gd :: rest) a w :=
  wpList_load_rowG hgd 48 (.tmp x) rfl g hx _ cs _ _ hg Tryz.underlying48 rfl hi h
section
variable (W : World) (g : Nat) (y0 y1 y2 y3 y4 y5 y6 : Value)
/-- The world with an agent's plan set. -/
abbrev put0 : World := ((((((W.setCell ⟨g, 0, none⟩ y0).setCell ⟨g, 1, none⟩ y1).setCell ⟨g, 2, none⟩ y2).setCell ⟨g, 3, none⟩ y3).setCell ⟨g, 4, none⟩ y4).setCell ⟨g, 5, none⟩ y5).setCell ⟨g, 6, none⟩ y6
theorem keeps_put0 : Keeps (· = g) W (put0 W g y0 y1 y2 y3 y4 y5 y6) := by
  unfold put0
  iterate 7 (refine Keeps.set (S := (· = g)) ?_ rfl _)
  exact Keeps.refl _ _
end
theorem heap_put0 {W : World} {g T : Nat} {x0 x1 x2 x3 x4 x5 x6 x7 x8 x9 x10 x11 x12 x13 x14 x15 x16 x17 x18 x19 y0 y1 y2 y3 y4 y5 y6 : Value} (h : W.heap[g]? = some (.cells #[x0, x1, x2, x3, x4, x5, x6, x7, x8, x9, x10, x11, x12, x13, x14, x15, x16, x17, x18, x19] T (0, 0))) : (put0 W g y0 y1 y2 y3 y4 y5 y6).heap[g]? = some (.cells #[y0, y1, y2, y3, y4, y5, y6, x7, x8, x9, x10, x11, x12, x13, x14, x15, x16, x17, x18, x19] T (0, 0)) := by
  unfold put0
  have h0 := heap_setCell_same (W) g 0 _ _ y0 h
  have h1 := heap_setCell_same ((W).setCell ⟨g, 0, none⟩ y0) g 1 _ _ y1 h0
  have h2 := heap_setCell_same (((W).setCell ⟨g, 0, none⟩ y0).setCell ⟨g, 1, none⟩ y1) g 2 _ _ y2 h1
  have h3 := heap_setCell_same ((((W).setCell ⟨g, 0, none⟩ y0).setCell ⟨g, 1, none⟩ y1).setCell ⟨g, 2, none⟩ y2) g 3 _ _ y3 h2
  have h4 := heap_setCell_same (((((W).setCell ⟨g, 0, none⟩ y0).setCell ⟨g, 1, none⟩ y1).setCell ⟨g, 2, none⟩ y2).setCell ⟨g, 3, none⟩ y3) g 4 _ _ y4 h3
  have h5 := heap_setCell_same ((((((W).setCell ⟨g, 0, none⟩ y0).setCell ⟨g, 1, none⟩ y1).setCell ⟨g, 2, none⟩ y2).setCell ⟨g, 3, none⟩ y3).setCell ⟨g, 4, none⟩ y4) g 5 _ _ y5 h4
  have h6 := heap_setCell_same (((((((W).setCell ⟨g, 0, none⟩ y0).setCell ⟨g, 1, none⟩ y1).setCell ⟨g, 2, none⟩ y2).setCell ⟨g, 3, none⟩ y3).setCell ⟨g, 4, none⟩ y4).setCell ⟨g, 5, none⟩ y5) g 6 _ _ y6 h5
  simpa using h6
/-- How much room the laws leave for an agent. -/
def szOk (d : PlanD) (s : StD) (n : Nat) : Prop := d.n0 + d.n1 + d.n2 + d.n3 + (s.pods.length + s.mnts.length + s.devs.length + s.lks.length) + n ≤ 1048576
set_option maxHeartbeats 1000000 in
theorem szByteS_any (A : Option Addr) (n c : Nat) (left : Int) (w : World) (hn : n ≤ maxLen) (h0 : 0 ≤ left) (h1 : left ≤ 1048576) :
    Calls Tryz.prog 25 #[.slice A n c, .int .i64 left] w fun e w' => e = .returned (.int .i64 (szI left n)) ∧ w = w' := by
  unfold maxLen at hn
  go_enter Tryz.func25, Tryz.ntmps25
  go_wp2
  · go_ret
    exact ⟨by rw [szI_neg (by omega)]; rfl, rfl⟩
  · go_ret
    exact ⟨by rw [szI_pos (by omega)]; rfl, rfl⟩
set_option maxRecDepth 100000 in
set_option maxHeartbeats 4000000 in
theorem szAgent_any (v : Value) (d : PlanD) (s : StD) (st : List Nat) (w : World) (h : IsAgW w w.heap.size v d s st) :
    Calls Tryz.prog 6 #[v, .int .i64 1048576] w fun e w' => ∃ q : Int, e = .returned (.int .i64 q) ∧ (0 ≤ q → szOk d s st.length) ∧ Below w.heap.size w w' := by
  obtain ⟨p0, p1, p2, p3, s0, s1, s2, s3, u, rfl, hp, hs, hb⟩ := h.it
  obtain ⟨A, c, rfl, hl⟩ : ∃ A c, u = .slice A st.length c ∧ st.length ≤ maxLen := by
    obtain ⟨⟨A, c, e, -⟩, hl, -⟩ := hb
    exact ⟨A, c, e, hl⟩
  have HP := Lib.hid hp
  have HS := Lib.hid hs
  have HL := Lib.hid hl
  clear h hp hs hb hl
  have X := Own.box w (agC p0 p1 p2 p3 d.l d.p d.t s.ph s.co s.ck s.bo s.ba s.lb s0 s1 s2 s3 s.gd s.pr (.slice A st.length c)) 35
  go_enter Tryz.func6, Tryz.ntmps6
  go_wp2_with fail
  generalize w.alloc (.cells (agC p0 p1 p2 p3 d.l d.p d.t s.ph s.co s.ck s.bo s.ba s.lb s0 s1 s2 s3 s.gd s.pr (.slice A st.length c)) 35) = w1 at X ⊢
  refine (szPlan_any _ d w1 ((HP.out.below X.K (Nat.le_refl _)).more X.K.size)).mono ?_
  rintro e w2 ⟨rfl, hb⟩
  replace X := X.step hb
  have hC := X.C
  clear hb
  by_cases h1 : d.n0 + d.n1 + d.n2 + d.n3 ≤ 1048576
  · have e0 : szP d = 1048576 - d.n0 - d.n1 - d.n2 - d.n3 := if_pos h1
    have l0 : 0 ≤ szP d := by omega
    have l1 : szP d ≤ 1048576 := by omega
    have E0 := Lib.hid e0
    clear e0 h1
    generalize szP d = left at *
    go_wp2_with fail
    refine (szState_any _ s left w2 ((HS.out.below X.K (Nat.le_refl _)).more X.K.size) l0 l1).mono ?_
    rintro e w3 ⟨rfl, hb⟩
    replace X := X.step hb
    clear hb hC
    have hC := X.C
    by_cases h2 : (s.pods.length + s.mnts.length + s.devs.length + s.lks.length : Nat) ≤ left
    · have e1 : szS left s = left - (s.pods.length + s.mnts.length + s.devs.length + s.lks.length : Nat) := if_pos h2
      have m0 : 0 ≤ szS left s := by omega
      have m1 : szS left s ≤ 1048576 := by omega
      have E1 := Lib.hid e1
      clear e1 h2
      generalize szS left s = more at *
      go_wp2_with fail
      refine (szByteS_any A st.length c more w3 HL.out m0 m1).mono ?_
      rintro e w4 ⟨rfl, rfl⟩
      by_cases h3 : (st.length : Int) ≤ more
      · rw [szI_pos h3]
        have HO : Hid (szOk d s st.length) := Lib.hid (by
          have := E0.out
          have := E1.out
          unfold szOk
          omega)
        have i1 : ¬ (more - (st.length : Int) < 0) := by omega
        clear E0 E1
        go_wp2_with fail
        go_ret
        exact ⟨_, rfl, fun _ => HO.out, X.K⟩
      · rw [szI_neg h3]
        go_wp2_with fail
        go_ret
        exact ⟨-1, rfl, fun h => absurd h (by decide), X.K⟩
    · have e1 : szS left s = -1 := if_neg h2
      rw [e1]
      clear e1
      go_wp2_with fail
      go_ret
      exact ⟨-1, rfl, fun h => absurd h (by decide), X.K⟩
  · have e0 : szP d = -1 := if_neg h1
    rw [e0]
    clear e0
    go_wp2_with fail
    go_ret
    exact ⟨-1, rfl, fun h => absurd h (by decide), X.K⟩
theorem szOk.pl {d : PlanD} {s : StD} {n : Nat} (h : szOk d s n) : PlFits d := by unfold szOk at h; exact ⟨by omega, by omega, by omega, by omega⟩
theorem szOk.st {d : PlanD} {s : StD} {n : Nat} (h : szOk d s n) : StFits s 1048576 := by unfold szOk at h; exact ⟨by omega, by omega, by omega, by omega⟩
theorem szOk.le {d : PlanD} {s : StD} {n : Nat} (h : szOk d s n) : n ≤ 1048576 := by unfold szOk at h; omega
theorem szOk.tot {d : PlanD} {s : StD} {n : Nat} (h : szOk d s n) : (totA d s n : Int) ≤ 4194304 := by unfold szOk at h; unfold totA totP totS; omega
set_option maxRecDepth 100000 in
set_option maxHeartbeats 8000000 in
theorem toAgent_any (v : Value) (d : PlanD) (s : StD) (st : List Nat) (w : World) (h : IsAgW w w.heap.size v d s st) (hz : szOk d s st.length) :
    Calls Tryz.prog 8 #[v] w fun e w' => ∃ cs, e = .returned (.agg cs) ∧ cs.size = 20 ∧ cs.all (·.oneCell') = true ∧ AgIn w' (.agg cs) d s st.length (fun j => (st.getD j 0 : Nat)) w.heap.size w'.heap.size ∧ IsAg w' w'.heap.size (.agg cs) d s st ∧ Below w.heap.size w w' := by
  obtain ⟨p0, p1, p2, p3, s0, s1, s2, s3, u, rfl, hp, hs, hb⟩ := h.it
  have HP := Lib.hid hp
  have HS := Lib.hid hs
  have HB := Lib.hid hb
  have HPF := Lib.hid hz.pl
  have HSF := Lib.hid hz.st
  have HLE := Lib.hid hz.le
  have HSM := Lib.hid hb.small
  have HLN := Lib.hid hb.len
  have HJ : Hid ((Tryz.prog.info? 48).map (·.size) = some 20) := Lib.hid (by kernel_rfl)
  clear h hp hs hb hz
  have T := TP.start w (agC p0 p1 p2 p3 d.l d.p d.t s.ph s.co s.ck s.bo s.ba s.lb s0 s1 s2 s3 s.gd s.pr u) (agC (.slice none 0 0) (.slice none 0 0) (.slice none 0 0) (.slice none 0 0) 0 0 0 0 false 0 0 0 0 (.slice none 0 0) (.slice none 0 0) (.slice none 0 0) (.slice none 0 0) 0 0 (.slice none 0 0)) (agC (.slice none 0 0) (.slice none 0 0) (.slice none 0 0) (.slice none 0 0) 0 0 0 0 false 0 0 0 0 (.slice none 0 0) (.slice none 0 0) (.slice none 0 0) (.slice none 0 0) 0 0 (.slice none 0 0)) 35 48 48
  have HO := heap_alloc_new ((w.alloc (.cells (agC p0 p1 p2 p3 d.l d.p d.t s.ph s.co s.ck s.bo s.ba s.lb s0 s1 s2 s3 s.gd s.pr u) 35)).alloc (.cells (agC (.slice none 0 0) (.slice none 0 0) (.slice none 0 0) (.slice none 0 0) 0 0 0 0 false 0 0 0 0 (.slice none 0 0) (.slice none 0 0) (.slice none 0 0) (.slice none 0 0) 0 0 (.slice none 0 0)) 48)) (.cells (agC (.slice none 0 0) (.slice none 0 0) (.slice none 0 0) (.slice none 0 0) 0 0 0 0 false 0 0 0 0 (.slice none 0 0) (.slice none 0 0) (.slice none 0 0) (.slice none 0 0) 0 0 (.slice none 0 0)) 48)
  have HZ := (((Below.refl _ _).alloc (Nat.le_refl _) (.cells (agC (.slice none 0 0) (.slice none 0 0) (.slice none 0 0) (.slice none 0 0) 0 0 0 0 false 0 0 0 0 (.slice none 0 0) (.slice none 0 0) (.slice none 0 0) (.slice none 0 0) 0 0 (.slice none 0 0)) 48) : Below ((w.alloc (.cells (agC p0 p1 p2 p3 d.l d.p d.t s.ph s.co s.ck s.bo s.ba s.lb s0 s1 s2 s3 s.gd s.pr u) 35)).alloc (.cells (agC (.slice none 0 0) (.slice none 0 0) (.slice none 0 0) (.slice none 0 0) 0 0 0 0 false 0 0 0 0 (.slice none 0 0) (.slice none 0 0) (.slice none 0 0) (.slice none 0 0) 0 0 (.slice none 0 0)) 48)).heap.size _ _).block (w.heap.size + 1) (by simp)).trans (heap_alloc2_new w (.cells (agC p0 p1 p2 p3 d.l d.p d.t s.ph s.co s.ck s.bo s.ba s.lb s0 s1 s2 s3 s.gd s.pr u) 35) (.cells (agC (.slice none 0 0) (.slice none 0 0) (.slice none 0 0) (.slice none 0 0) 0 0 0 0 false 0 0 0 0 (.slice none 0 0) (.slice none 0 0) (.slice none 0 0) (.slice none 0 0) 0 0 (.slice none 0 0)) 48))
  simp only [heap_size_alloc_] at HO
  go_enter Tryz.func8, Tryz.ntmps8
  go_upto_region 2 with fail
  generalize ((w.alloc (.cells (agC p0 p1 p2 p3 d.l d.p d.t s.ph s.co s.ck s.bo s.ba s.lb s0 s1 s2 s3 s.gd s.pr u) 35)).alloc (.cells (agC (.slice none 0 0) (.slice none 0 0) (.slice none 0 0) (.slice none 0 0) 0 0 0 0 false 0 0 0 0 (.slice none 0 0) (.slice none 0 0) (.slice none 0 0) (.slice none 0 0) 0 0 (.slice none 0 0)) 48)).alloc (.cells (agC (.slice none 0 0) (.slice none 0 0) (.slice none 0 0) (.slice none 0 0) 0 0 0 0 false 0 0 0 0 (.slice none 0 0) (.slice none 0 0) (.slice none 0 0) (.slice none 0 0) 0 0 (.slice none 0 0)) 48) = w0 at T HO HZ ⊢
  have hC := T.A.C
  have hw0 : w.heap.size + 1 + 1 < w0.heap.size := T.O.z
  have KX := T.A
  clear T
  -- the plan
  go_wp2_with fail
  refine (toPlan_any _ d w0 ((HP.out.below KX.K (Nat.le_refl _)).more KX.K.size) HPF.out.f0 HPF.out.f1 HPF.out.f2 HPF.out.f3).mono ?_
  rintro e w1 ⟨g0, g1, g2, g3, rfl, N1, hb⟩
  have PL := N1.plr
  have PR := N1.isR HPF.out
  have PB : Hid (∀ b, PBlk (.slice (some ⟨g0, 0, none⟩) d.n0 d.n0) (.slice (some ⟨g1, 0, none⟩) d.n1 d.n1) (.slice (some ⟨g2, 0, none⟩) d.n2 d.n2) (.slice (some ⟨g3, 0, none⟩) d.n3 d.n3) d b → w0.heap.size ≤ b ∧ b < w1.heap.size) := Lib.hid fun b hb => N1.blk hb
  have hs1 : w0.heap.size ≤ w1.heap.size := hb.size
  replace KX := KX.step hb
  replace HO := (hb.block _ (Array.getElem?_eq_some_iff.1 HO).1).trans HO
  replace HZ := (hb.block _ (Array.getElem?_eq_some_iff.1 HZ).1).trans HZ
  have HO0 : w1.heap[w.heap.size + 1 + 1]? = some (.cells (agC (.slice none 0 0) (.slice none 0 0) (.slice none 0 0) (.slice none 0 0) 0 0 0 0 false 0 0 0 0 (.slice none 0 0) (.slice none 0 0) (.slice none 0 0) (.slice none 0 0) 0 0 (.slice none 0 0)) 48) := HO
  clear hb hC N1
  have hD := fun o => cell_of_row w1 (w.heap.size + 1 + 1) o _ _ _ HO
  have hG : ∀ o, w1.frozen? ⟨w.heap.size + 1 + 1, o, none⟩ = false := fun o => frozen_of_row _ _ _ _ _ HO
  go_upto_region 3 with fail
  clear hD hG
  have HO1 := heap_put0 HO (y0 := (.slice (some ⟨g0, 0, none⟩) d.n0 d.n0)) (y1 := (.slice (some ⟨g1, 0, none⟩) d.n1 d.n1)) (y2 := (.slice (some ⟨g2, 0, none⟩) d.n2 d.n2)) (y3 := (.slice (some ⟨g3, 0, none⟩) d.n3 d.n3)) (y4 := (.int .i64 d.l)) (y5 := (.int .i64 d.p)) (y6 := (.int .i64 d.t))
  have kk := keeps_put0 w1 (w.heap.size + 1 + 1) (.slice (some ⟨g0, 0, none⟩) d.n0 d.n0) (.slice (some ⟨g1, 0, none⟩) d.n1 d.n1) (.slice (some ⟨g2, 0, none⟩) d.n2 d.n2) (.slice (some ⟨g3, 0, none⟩) d.n3 d.n3) (.int .i64 d.l) (.int .i64 d.p) (.int .i64 d.t)
  obtain ⟨w2, hw2⟩ : ∃ W, put0 w1 (w.heap.size + 1 + 1) (.slice (some ⟨g0, 0, none⟩) d.n0 d.n0) (.slice (some ⟨g1, 0, none⟩) d.n1 d.n1) (.slice (some ⟨g2, 0, none⟩) d.n2 d.n2) (.slice (some ⟨g3, 0, none⟩) d.n3 d.n3) (.int .i64 d.l) (.int .i64 d.p) (.int .i64 d.t) = W := ⟨_, rfl⟩
  rw [hw2] at HO1 kk
  dsimp only [put0] at hw2
  rw [hw2]
  clear hw2 HO
  have HO := HO1
  clear HO1
  have hz2 : w1.heap.size ≤ w2.heap.size := kk.size
  replace KX := KX.keeps kk (by rintro b rfl; omega) (by show ¬ w.heap.size = w.heap.size + 1 + 1; omega)
  replace HZ := (kk.block (w.heap.size + 1) (Array.getElem?_eq_some_iff.1 HZ).1 (by show ¬ w.heap.size + 1 = w.heap.size + 1 + 1; omega)).trans HZ
  replace PL := PL.keeps kk (fun b hb e => by have := (PB.out b hb).1; have h9 : b = w.heap.size + 1 + 1 := e; omega)
  clear kk PR HO0
  have hC := KX.C
  -- the state
  go_wp2_with fail
  refine (toState_any _ s w2 ((HS.out.below KX.K (Nat.le_refl _)).more KX.K.size) HSF.out).mono ?_
  rintro e w3 ⟨h0, h1, h2, h3, rfl, N2, hb⟩
  have SR := N2.rowsIn.r
  have hs3 : w2.heap.size ≤ w3.heap.size := hb.size
  replace KX := KX.step hb
  replace PL := PL.go hb
  replace HO := (hb.block _ (Array.getElem?_eq_some_iff.1 HO).1).trans HO
  replace HZ := (hb.block _ (Array.getElem?_eq_some_iff.1 HZ).1).trans HZ
  clear hb hC N2
  have hD := fun o => cell_of_row w3 (w.heap.size + 1 + 1) o _ _ _ HO
  have hG : ∀ o, w3.frozen? ⟨w.heap.size + 1 + 1, o, none⟩ = false := fun o => frozen_of_row _ _ _ _ _ HO
  go_upto_region 4 with fail
  clear hD hG
  have HO1 := heap_put7 HO (y0 := (.int .i64 s.ph)) (y1 := (.bool s.co)) (y2 := (.int .i64 s.ck)) (y3 := (.int .i64 s.bo)) (y4 := (.int .i64 s.ba)) (y5 := (.int .i64 s.lb)) (y6 := (.slice (some ⟨h0, 0, none⟩) s.pods.length s.pods.length)) (y7 := (.slice (some ⟨h1, 0, none⟩) s.mnts.length s.mnts.length)) (y8 := (.slice (some ⟨h2, 0, none⟩) s.devs.length s.devs.length)) (y9 := (.slice (some ⟨h3, 0, none⟩) s.lks.length s.lks.length)) (y10 := (.int .i64 s.gd)) (y11 := (.int .i64 s.pr))
  have kk := keeps_put7 w3 (w.heap.size + 1 + 1) (.int .i64 s.ph) (.bool s.co) (.int .i64 s.ck) (.int .i64 s.bo) (.int .i64 s.ba) (.int .i64 s.lb) (.slice (some ⟨h0, 0, none⟩) s.pods.length s.pods.length) (.slice (some ⟨h1, 0, none⟩) s.mnts.length s.mnts.length) (.slice (some ⟨h2, 0, none⟩) s.devs.length s.devs.length) (.slice (some ⟨h3, 0, none⟩) s.lks.length s.lks.length) (.int .i64 s.gd) (.int .i64 s.pr)
  obtain ⟨w4, hw4⟩ : ∃ W, put7 w3 (w.heap.size + 1 + 1) (.int .i64 s.ph) (.bool s.co) (.int .i64 s.ck) (.int .i64 s.bo) (.int .i64 s.ba) (.int .i64 s.lb) (.slice (some ⟨h0, 0, none⟩) s.pods.length s.pods.length) (.slice (some ⟨h1, 0, none⟩) s.mnts.length s.mnts.length) (.slice (some ⟨h2, 0, none⟩) s.devs.length s.devs.length) (.slice (some ⟨h3, 0, none⟩) s.lks.length s.lks.length) (.int .i64 s.gd) (.int .i64 s.pr) = W := ⟨_, rfl⟩
  rw [hw4] at HO1 kk
  dsimp only [put7] at hw4
  rw [hw4]
  clear hw4 HO
  have HO := HO1
  clear HO1
  have hz4 : w3.heap.size ≤ w4.heap.size := kk.size
  replace KX := KX.keeps kk (by rintro b rfl; omega) (by show ¬ w.heap.size = w.heap.size + 1 + 1; omega)
  replace HZ := (kk.block (w.heap.size + 1) (Array.getElem?_eq_some_iff.1 HZ).1 (by show ¬ w.heap.size + 1 = w.heap.size + 1 + 1; omega)).trans HZ
  replace PL := PL.keeps kk (fun b hb e => by have := (PB.out b hb).1; have h9 : b = w.heap.size + 1 + 1 := e; omega)
  replace SR := SR.keeps kk (fun b hb e => by have := hb.1; have h9 : b = w.heap.size + 1 + 1 := e; omega)
  clear kk
  have hC := KX.C
  -- the bytes
  go_wp2_with fail
  refine (toByteS_any _ st w4 ((HB.out.below KX.K (Nat.le_refl _)).more KX.K.size) HLE.out).mono ?_
  rintro e w5 ⟨j, rfl, hj0, hj1, RU, -, hb⟩
  have UR := RowU.urow RU hj1
  have hs5 : w4.heap.size ≤ w5.heap.size := hb.size
  replace KX := KX.step hb
  replace PL := PL.go hb
  replace SR := SR.go hb
  replace HO := (hb.block _ (Array.getElem?_eq_some_iff.1 HO).1).trans HO
  replace HZ := (hb.block _ (Array.getElem?_eq_some_iff.1 HZ).1).trans HZ
  clear hb hC RU
  have hD := fun o => cell_of_row w5 (w.heap.size + 1 + 1) o _ _ _ HO
  have hG : ∀ o, w5.frozen? ⟨w.heap.size + 1 + 1, o, none⟩ = false := fun o => frozen_of_row _ _ _ _ _ HO
  go_upto_region 5 with fail
  clear hD hG
  have HO1 := heap_setCell_same w5 (w.heap.size + 1 + 1) 19 _ _ (.slice (some ⟨j, 0, none⟩) st.length st.length) HO
  have kk : Keeps (· = w.heap.size + 1 + 1) w5 (w5.setCell ⟨w.heap.size + 1 + 1, 19, none⟩ (.slice (some ⟨j, 0, none⟩) st.length st.length)) := Keeps.set (S := (· = w.heap.size + 1 + 1)) (Keeps.refl _ _) rfl _
  generalize w5.setCell ⟨w.heap.size + 1 + 1, 19, none⟩ (.slice (some ⟨j, 0, none⟩) st.length st.length) = w6 at HO1 kk ⊢
  replace HO1 : w6.heap[w.heap.size + 1 + 1]? = some (.cells (agC (.slice (some ⟨g0, 0, none⟩) d.n0 d.n0) (.slice (some ⟨g1, 0, none⟩) d.n1 d.n1) (.slice (some ⟨g2, 0, none⟩) d.n2 d.n2) (.slice (some ⟨g3, 0, none⟩) d.n3 d.n3) d.l d.p d.t s.ph s.co s.ck s.bo s.ba s.lb (.slice (some ⟨h0, 0, none⟩) s.pods.length s.pods.length) (.slice (some ⟨h1, 0, none⟩) s.mnts.length s.mnts.length) (.slice (some ⟨h2, 0, none⟩) s.devs.length s.devs.length) (.slice (some ⟨h3, 0, none⟩) s.lks.length s.lks.length) s.gd s.pr (.slice (some ⟨j, 0, none⟩) st.length st.length)) 48) := by simpa using HO1
  have hz6 : w5.heap.size ≤ w6.heap.size := kk.size
  replace KX := KX.keeps kk (by rintro b rfl; omega) (by show ¬ w.heap.size = w.heap.size + 1 + 1; omega)
  replace HZ := (kk.block (w.heap.size + 1) (Array.getElem?_eq_some_iff.1 HZ).1 (by show ¬ w.heap.size + 1 = w.heap.size + 1 + 1; omega)).trans HZ
  replace PL := PL.keeps kk (fun b hb e => by have := (PB.out b hb).1; have h9 : b = w.heap.size + 1 + 1 := e; omega)
  replace SR := SR.keeps kk (fun b hb e => by have := hb.1; have h9 : b = w.heap.size + 1 + 1 := e; omega)
  replace UR := UR.keeps kk (fun b hb e => by have := blk_one hb; have h9 : b = w.heap.size + 1 + 1 := e; omega)
  clear kk HO
  go_wp2_with (first
    | ((with_reducible refine store_agent (x := 2) (y := 16) (g := w.heap.size + 1) (cs := agC (.slice (some ⟨g0, 0, none⟩) d.n0 d.n0) (.slice (some ⟨g1, 0, none⟩) d.n1 d.n1) (.slice (some ⟨g2, 0, none⟩) d.n2 d.n2) (.slice (some ⟨g3, 0, none⟩) d.n3 d.n3) d.l d.p d.t s.ph s.co s.ck s.bo s.ba s.lb (.slice (some ⟨h0, 0, none⟩) s.pods.length s.pods.length) (.slice (some ⟨h1, 0, none⟩) s.mnts.length s.mnts.length) (.slice (some ⟨h2, 0, none⟩) s.devs.length s.devs.length) (.slice (some ⟨h3, 0, none⟩) s.lks.length s.lks.length) s.gd s.pr (.slice (some ⟨j, 0, none⟩) st.length st.length)) ?_ ?_ HZ ?_ ?_ ?_ ?_)
       · rfl
       · rfl
       · exact HJ.out
       · rfl
       · simp [Value.oneCell'])
    | ((with_reducible refine load_agent (x := 3) (g := w.heap.size + 1 + 1) (cs := agC (.slice (some ⟨g0, 0, none⟩) d.n0 d.n0) (.slice (some ⟨g1, 0, none⟩) d.n1 d.n1) (.slice (some ⟨g2, 0, none⟩) d.n2 d.n2) (.slice (some ⟨g3, 0, none⟩) d.n3 d.n3) d.l d.p d.t s.ph s.co s.ck s.bo s.ba s.lb (.slice (some ⟨h0, 0, none⟩) s.pods.length s.pods.length) (.slice (some ⟨h1, 0, none⟩) s.mnts.length s.mnts.length) (.slice (some ⟨h2, 0, none⟩) s.devs.length s.devs.length) (.slice (some ⟨h3, 0, none⟩) s.lks.length s.lks.length) s.gd s.pr (.slice (some ⟨j, 0, none⟩) st.length st.length)) ?_ HO1 ?_ ?_)
       · rfl
       · exact HJ.out))
  have kk := keepsRow_ w6 (w.heap.size + 1) (agC (.slice (some ⟨g0, 0, none⟩) d.n0 d.n0) (.slice (some ⟨g1, 0, none⟩) d.n1 d.n1) (.slice (some ⟨g2, 0, none⟩) d.n2 d.n2) (.slice (some ⟨g3, 0, none⟩) d.n3 d.n3) d.l d.p d.t s.ph s.co s.ck s.bo s.ba s.lb (.slice (some ⟨h0, 0, none⟩) s.pods.length s.pods.length) (.slice (some ⟨h1, 0, none⟩) s.mnts.length s.mnts.length) (.slice (some ⟨h2, 0, none⟩) s.devs.length s.devs.length) (.slice (some ⟨h3, 0, none⟩) s.lks.length s.lks.length) s.gd s.pr (.slice (some ⟨j, 0, none⟩) st.length st.length))
  replace PL := PL.keeps kk (fun b hb e => by have := (PB.out b hb).1; have h9 : b = w.heap.size + 1 := e; omega)
  replace SR := SR.keeps kk (fun b hb e => by have := hb.1; have h9 : b = w.heap.size + 1 := e; omega)
  replace UR := UR.keeps kk (fun b hb e => by have := blk_one hb; have h9 : b = w.heap.size + 1 := e; omega)
  have hz7 := kk.size
  have HI : AgIn (w6.setRow (w.heap.size + 1) (agC (.slice (some ⟨g0, 0, none⟩) d.n0 d.n0) (.slice (some ⟨g1, 0, none⟩) d.n1 d.n1) (.slice (some ⟨g2, 0, none⟩) d.n2 d.n2) (.slice (some ⟨g3, 0, none⟩) d.n3 d.n3) d.l d.p d.t s.ph s.co s.ck s.bo s.ba s.lb (.slice (some ⟨h0, 0, none⟩) s.pods.length s.pods.length) (.slice (some ⟨h1, 0, none⟩) s.mnts.length s.mnts.length) (.slice (some ⟨h2, 0, none⟩) s.devs.length s.devs.length) (.slice (some ⟨h3, 0, none⟩) s.lks.length s.lks.length) s.gd s.pr (.slice (some ⟨j, 0, none⟩) st.length st.length))) (.agg (agC (.slice (some ⟨g0, 0, none⟩) d.n0 d.n0) (.slice (some ⟨g1, 0, none⟩) d.n1 d.n1) (.slice (some ⟨g2, 0, none⟩) d.n2 d.n2) (.slice (some ⟨g3, 0, none⟩) d.n3 d.n3) d.l d.p d.t s.ph s.co s.ck s.bo s.ba s.lb (.slice (some ⟨h0, 0, none⟩) s.pods.length s.pods.length) (.slice (some ⟨h1, 0, none⟩) s.mnts.length s.mnts.length) (.slice (some ⟨h2, 0, none⟩) s.devs.length s.devs.length) (.slice (some ⟨h3, 0, none⟩) s.lks.length s.lks.length) s.gd s.pr (.slice (some ⟨j, 0, none⟩) st.length st.length))) d s st.length (fun j => (st.getD j 0 : Nat)) w.heap.size (w6.setRow (w.heap.size + 1) (agC (.slice (some ⟨g0, 0, none⟩) d.n0 d.n0) (.slice (some ⟨g1, 0, none⟩) d.n1 d.n1) (.slice (some ⟨g2, 0, none⟩) d.n2 d.n2) (.slice (some ⟨g3, 0, none⟩) d.n3 d.n3) d.l d.p d.t s.ph s.co s.ck s.bo s.ba s.lb (.slice (some ⟨h0, 0, none⟩) s.pods.length s.pods.length) (.slice (some ⟨h1, 0, none⟩) s.mnts.length s.mnts.length) (.slice (some ⟨h2, 0, none⟩) s.devs.length s.devs.length) (.slice (some ⟨h3, 0, none⟩) s.lks.length s.lks.length) s.gd s.pr (.slice (some ⟨j, 0, none⟩) st.length st.length))).heap.size :=
    ⟨⟨_, _, _, _, _, _, _, _, _, (fun b => w2.heap.size ≤ b ∧ b < w3.heap.size), rfl, PL, SR, UR, fun b hb => by have := PB.out b hb; omega, fun b hb => by omega, fun b hb => by have := blk_one hb; omega, fun b hb hs => by have := PB.out b hb; omega, fun b hb hs => by have := blk_one hb; omega, fun b hb hs => by have := blk_one hb; have := PB.out b hs; omega⟩, Nat.le_refl _⟩
  have HW := HI.is HPF.out HSF.out HLN.out HSM.out
  refine bodyPost_ret (v := .agg (agC (.slice (some ⟨g0, 0, none⟩) d.n0 d.n0) (.slice (some ⟨g1, 0, none⟩) d.n1 d.n1) (.slice (some ⟨g2, 0, none⟩) d.n2 d.n2) (.slice (some ⟨g3, 0, none⟩) d.n3 d.n3) d.l d.p d.t s.ph s.co s.ck s.bo s.ba s.lb (.slice (some ⟨h0, 0, none⟩) s.pods.length s.pods.length) (.slice (some ⟨h1, 0, none⟩) s.mnts.length s.mnts.length) (.slice (some ⟨h2, 0, none⟩) s.devs.length s.devs.length) (.slice (some ⟨h3, 0, none⟩) s.lks.length s.lks.length) s.gd s.pr (.slice (some ⟨j, 0, none⟩) st.length st.length))) (results_cell_row Tryz.results8 _ _ _ _ _ _ _ rfl (setRow_heap w6 _ _ _ _ _ HZ) Tryz.underlying48 rfl HJ.out) rfl ⟨_, rfl, rfl, by simp [Value.oneCell'], HI, ?_, below_setRow KX.K (by omega) _⟩
  obtain ⟨q0, q1, q2, q3, t0, t1, t2, t3, uu, hv, hp', hs', hb'⟩ := HW.it
  injection hv with hv
  injection hv with hv
  simp only [List.cons.injEq, and_true, true_and] at hv
  obtain ⟨rfl, rfl, rfl, rfl, rfl, rfl, rfl, rfl, rfl⟩ := hv
  obtain ⟨⟨A0, A1, A2, A3, c0, c1, c2, c3, hv, k0, k1, k2, k3⟩, -, -, -, -⟩ := hp'
  injection hv with hv
  injection hv with hv
  simp only [List.cons.injEq, and_true, Value.slice.injEq] at hv
  obtain ⟨⟨rfl, -, rfl⟩, ⟨rfl, -, rfl⟩, ⟨rfl, -, rfl⟩, ⟨rfl, -, rfl⟩⟩ := hv
  obtain ⟨⟨E0, E1, E2, E3, m0, m1, m2, m3, hv, n0, n1, n2, n3⟩, -, -, -, -⟩ := hs'
  injection hv with hv
  injection hv with hv
  simp only [List.cons.injEq, and_true, true_and, Value.slice.injEq] at hv
  obtain ⟨⟨rfl, rfl⟩, ⟨rfl, rfl⟩, ⟨rfl, rfl⟩, ⟨rfl, rfl⟩⟩ := hv
  exact ⟨_, _, _, _, _, _, _, _, _, rfl, ⟨⟨_, _, _, _, _, _, _, _, rfl, ⟨k0, k1, k2, k3⟩, fun e => (by cases e), fun e => (by cases e), fun e => (by cases e), fun e => (by cases e)⟩, HPF.out⟩, ⟨⟨_, _, _, _, _, _, _, _, rfl, ⟨n0, n1, n2, n3⟩, (fun e => by cases e), (fun e => by cases e), (fun e => by cases e), (fun e => by cases e)⟩, HSF.out⟩, hb', .inr ⟨_, _, _, rfl⟩⟩
end Go.Proofs.YtkefbmbjkijilaaGreatDoor
