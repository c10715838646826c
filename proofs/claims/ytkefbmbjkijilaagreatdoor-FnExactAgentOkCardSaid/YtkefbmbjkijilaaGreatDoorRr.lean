/-
  FnExactAgentOk: the law's walk.
-/
import Derived.Test.YtkefbmbjkijilaaGreatDoorRq
import Derived.Test.YtkefbmbjkijilaaGreatDoorRo
set_option linter.unusedVariables false
namespace Go.Proofs.YtkefbmbjkijilaaGreatDoor
open Go.RowKit

theorem IsAg.w {w : World} {B : Nat} {v : Value} {d : PlanD} {s : StD} {st : List Nat} (h : IsAg w B v d s st) : IsAgW w B v d s st := by
  obtain ⟨p0, p1, p2, p3, s0, s1, s2, s3, b, hv, h0, h1, h2, h3⟩ := h.it
  exact ⟨p0, p1, p2, p3, s0, s1, s2, s3, b, hv, h0.is, h1.is, h2⟩
theorem IsAgW.small {w : World} {B : Nat} {v : Value} {d : PlanD} {s : StD} {st : List Nat} (h : IsAgW w B v d s st) : st.length ≤ maxLen ∧ SmallB st := by
  obtain ⟨p0, p1, p2, p3, s0, s1, s2, s3, b, hv, h0, h1, h2⟩ := h.it
  exact ⟨h2.len, h2.small⟩
theorem load_agentL {ops : Array Oper} {rest : List Oper} {dst : Option Tmp} {ty : TypeId} {pos : String} {after : Array Edge} {a : Act} {w : World} {Q : Exit → Act → World → Prop} {g x : Nat} {cs : Array Value}
    (hx : a.eval (.tmp x) = .pointer (some ⟨g, 0, none⟩)) (hg : w.heap[g]? = some (.cells cs 35)) (hi : (Tryz.prog.info? 35).map (·.size) = some cs.size)
    (h : wpList Tryz.prog ops Q rest (a.put dst (.agg cs)) w) : wpList Tryz.prog ops Q (Oper.mk dst (.load 35 (.tmp x)) ty pos after none :: rest) a w :=
  wpList_load_row rfl 35 (.tmp x) rfl g hx _ cs _ _ hg Tryz.underlying35 rfl hi h
set_option maxRecDepth 100000 in
set_option maxHeartbeats 8000000 in
theorem lawAgentOk (v : Value) (d : PlanD) (s : StD) (st : List Nat) (w : World) (h : IsAgW w w.heap.size v d s st) (N : Names w) :
    Calls Tryz.prog 3 #[v] w fun e w' => e = .returned (.bool true) ∧ Below w.heap.size w w' := by
  have H := Lib.hid h
  have HN := Lib.hid N
  have HLN := Lib.hid h.small.1
  have HSM := Lib.hid h.small.2
  have HJ : Hid ((Tryz.prog.info? 48).map (·.size) = some 20) := Lib.hid (by kernel_rfl)
  have HL : Hid ((Tryz.prog.info? 35).map (·.size) = some 20) := Lib.hid (by kernel_rfl)
  obtain ⟨p0, p1, p2, p3, s0, s1, s2, s3, u, rfl, -, -, -⟩ := h.it
  clear h N
  have K := (Own.box w (agC p0 p1 p2 p3 d.l d.p d.t s.ph s.co s.ck s.bo s.ba s.lb s0 s1 s2 s3 s.gd s.pr u) 35).K
  have HX := heap_alloc_new w (.cells (agC p0 p1 p2 p3 d.l d.p d.t s.ph s.co s.ck s.bo s.ba s.lb s0 s1 s2 s3 s.gd s.pr u) 35)
  go_enter Tryz.func3, Tryz.ntmps3
  go_upto_region 2 with fail
  generalize w.alloc (.cells (agC p0 p1 p2 p3 d.l d.p d.t s.ph s.co s.ck s.bo s.ba s.lb s0 s1 s2 s3 s.gd s.pr u) 35) = w1 at K HX ⊢
  go_wp2_with
    ((with_reducible refine load_agentL (x := 1) (g := w.heap.size) (cs := agC p0 p1 p2 p3 d.l d.p d.t s.ph s.co s.ck s.bo s.ba s.lb s0 s1 s2 s3 s.gd s.pr u) ?_ HX ?_ ?_)
     · rfl
     · exact HL.out)
  refine (szAgent_any _ d s st w1 ((H.out.below K (Nat.le_refl _)).more K.size)).mono ?_
  rintro e w2 ⟨q, rfl, hq, hb⟩
  replace HX := (hb.block _ (Array.getElem?_eq_some_iff.1 HX).1).trans HX
  replace K := K.trans (hb.mono K.size)
  clear hb
  by_cases h0 : q < 0
  · go_wp2_with fail
    go_ret
    exact ⟨rfl, K⟩
  · have HZ := Lib.hid (hq (by omega))
    clear hq
    go_wp2_with
      ((with_reducible refine load_agentL (x := 1) (g := w.heap.size) (cs := agC p0 p1 p2 p3 d.l d.p d.t s.ph s.co s.ck s.bo s.ba s.lb s0 s1 s2 s3 s.gd s.pr u) ?_ HX ?_ ?_)
       · rfl
       · exact HL.out)
    refine (toAgent_any _ d s st w2 ((H.out.below K (Nat.le_refl _)).more K.size) HZ.out).mono ?_
    rintro e w3 ⟨cs1, rfl, -, -, -, A1, hb⟩
    replace HX := (hb.block _ (Array.getElem?_eq_some_iff.1 HX).1).trans HX
    replace K := K.trans (hb.mono K.size)
    clear hb
    go_wp2_with fail
    refine (specAgentOkX_any _ d s st w3 A1 HZ.out.le).mono ?_
    rintro e w4 ⟨rfl, hb⟩
    replace HX := (hb.block _ (Array.getElem?_eq_some_iff.1 HX).1).trans HX
    replace K := K.trans (hb.mono K.size)
    clear hb A1
    obtain ⟨B, hB⟩ : ∃ B, agB d s st = B := ⟨_, rfl⟩
    have HB := Lib.hid hB
    rw [hB]
    clear hB
    go_wp2_with
      ((with_reducible refine load_agentL (x := 1) (g := w.heap.size) (cs := agC p0 p1 p2 p3 d.l d.p d.t s.ph s.co s.ck s.bo s.ba s.lb s0 s1 s2 s3 s.gd s.pr u) ?_ HX ?_ ?_)
       · rfl
       · exact HL.out)
    refine (toAgent_any _ d s st w4 ((H.out.below K (Nat.le_refl _)).more K.size) HZ.out).mono ?_
    rintro e w5 ⟨cs2, rfl, sz2, one2, -, A2, hb⟩
    replace HX := (hb.block _ (Array.getElem?_eq_some_iff.1 HX).1).trans HX
    replace K := K.trans (hb.mono K.size)
    clear hb
    have HB8 := heap_alloc_new w5 (.cells (agC (.slice none 0 0) (.slice none 0 0) (.slice none 0 0) (.slice none 0 0) 0 0 0 0 false 0 0 0 0 (.slice none 0 0) (.slice none 0 0) (.slice none 0 0) (.slice none 0 0) 0 0 (.slice none 0 0)) 48)
    have hA : Below w5.heap.size w5 (w5.alloc (.cells (agC (.slice none 0 0) (.slice none 0 0) (.slice none 0 0) (.slice none 0 0) 0 0 0 0 false 0 0 0 0 (.slice none 0 0) (.slice none 0 0) (.slice none 0 0) (.slice none 0 0) 0 0 (.slice none 0 0)) 48)) := (Below.refl _ _).alloc (Nat.le_refl _) _
    have hb := below_setRow hA (Nat.le_refl _) cs2
    have HG := setRow_heap _ _ _ cs2 _ _ HB8
    have SZ := Lib.hid sz2
    have ONE := Lib.hid one2
    clear sz2 one2
    go_upto_region 7 with (
      (with_reducible refine store_agent (x := 5) (y := 16) (g := w5.heap.size) (cs := cs2) ?_ ?_ HB8 ?_ ?_ ?_ ?_)
      · rfl
      · rfl
      · rw [SZ.out]; exact HJ.out
      · rw [SZ.out]; rfl
      · exact ONE.out)
    replace HX := (hb.block _ (Array.getElem?_eq_some_iff.1 HX).1).trans HX
    replace K := K.trans (hb.mono K.size)
    replace A2 := A2.go hb
    clear hb hA HB8
    generalize (w5.alloc (.cells (agC (.slice none 0 0) (.slice none 0 0) (.slice none 0 0) (.slice none 0 0) 0 0 0 0 false 0 0 0 0 (.slice none 0 0) (.slice none 0 0) (.slice none 0 0) (.slice none 0 0) 0 0 (.slice none 0 0)) 48)).setRow w5.heap.size cs2 = w6 at K HX HG A2 ⊢
    generalize w5.heap.size = g at HG ⊢
    go_wp2_with (
      (with_reducible refine load_agent (x := 5) (g := g) (cs := cs2) ?_ HG ?_ ?_)
      · rfl
      · rw [SZ.out]; exact HJ.out)
    refine (implAgentOk_any _ d s st w6 A2 HZ.out.le (HN.out.go K)).mono ?_
    rintro e w7 ⟨rfl, hb⟩
    rw [HB.out]
    replace HX := (hb.block _ (Array.getElem?_eq_some_iff.1 HX).1).trans HX
    replace K := K.trans (hb.mono K.size)
    replace HG := (hb.block _ (Array.getElem?_eq_some_iff.1 HG).1).trans HG
    replace A2 := A2.go hb
    clear hb HB
    have sz2 := SZ.out
    have hbb : (B != B) = false := by cases B <;> rfl
    go_upto_region 10 with fail
    clear hbb
    refine wp_region_noPanic ?_
    refine wp_region_held_drew (S := (fun _ => True)) (by kernel_rfl) (trivial) (fun _ => ?_)
    rw [← heap_drew w7] at HX HG
    replace K := K.drew
    replace A2 := A2.go (Below.refl _ _).drew
    generalize w7.drew = v0 at K HX HG A2 ⊢
    refine wpAnyH_ready (rs := [0, 1]) (by kernel_rfl) (by simp) ?_
    refine AllReadyH.cons rfl (fun K' hK => ?_) ?_
    · skip
      rw [if_pos (by rfl)]
      refine wp_load_row 48 (.tmp 5) rfl (g) rfl _ (cs2) _ _ HG Tryz.underlying48 rfl (by rw [sz2]; exact HJ.out) ?_
      refine hK.out _ _ trivial (fun _ => ?_)
      clear hK K'
      try (change wpAnyH _ _ _ _ _ _ _ (Act.put _ (some 22) _) _; simp only [Act.put, List.setIfInBounds_toArray, List.set_cons_zero, List.set_cons_succ])
      refine wpAnyH_ready (rs := [1]) (by kernel_rfl) (by simp) ?_
      refine AllReadyH.cons rfl (fun K' hK => ?_) AllReadyH.nil
      rw [if_pos (by rfl)]
      refine wp_load_row 35 (.tmp 1) rfl (w.heap.size) rfl _ (agC p0 p1 p2 p3 d.l d.p d.t s.ph s.co s.ck s.bo s.ba s.lb s0 s1 s2 s3 s.gd s.pr u) _ _ HX Tryz.underlying35 rfl HL.out ?_
      refine hK.out _ _ trivial (fun _ => ?_)
      clear hK K'
      try (change wpAnyH _ _ _ _ _ _ _ (Act.put _ (some 23) _) _; simp only [Act.put, List.setIfInBounds_toArray, List.set_cons_zero, List.set_cons_succ])
      refine wpAnyH_ready (rs := [2]) (by kernel_rfl) (by simp) ?_
      refine AllReadyH.cons rfl (fun K' hK => ?_) AllReadyH.nil
      go_simp
      go_at_call 8
      refine (toAgent_any _ d s st v0 ((H.out.below K (Nat.le_refl _)).more K.size) HZ.out).mono ?_
      rintro e v1 ⟨cs3, rfl, -, -, I3, -, hb⟩
      have W3 := I3.is HZ.out.pl HZ.out.st HLN.out HSM.out
      clear I3
      replace K := K.trans (hb.mono K.size)
      replace HX := (hb.block _ (Array.getElem?_eq_some_iff.1 HX).1).trans HX
      replace HG := (hb.block _ (Array.getElem?_eq_some_iff.1 HG).1).trans HG
      replace A2 := A2.go hb
      clear hb
      go_wp2_with fail
      refine hK.out _ _ trivial (fun _ => ?_)
      clear hK K'
      try (change wpAnyH _ _ _ _ _ _ _ (Act.put _ (some 24) _) _; simp only [Act.put, List.setIfInBounds_toArray, List.set_cons_zero, List.set_cons_succ])
      refine wpAnyH_ready (rs := [3]) (by kernel_rfl) (by simp) ?_
      refine AllReadyH.cons rfl (fun K' hK => ?_) AllReadyH.nil
      go_simp
      go_at_call 10
      refine (eqAg_same _ _ d s st v1 (IsAg.w A2) W3).mono ?_
      rintro e v2 ⟨rfl, hb⟩
      replace K := K.trans (hb.mono K.size)
      replace HX := (hb.block _ (Array.getElem?_eq_some_iff.1 HX).1).trans HX
      replace HG := (hb.block _ (Array.getElem?_eq_some_iff.1 HG).1).trans HG
      replace A2 := A2.go hb
      clear hb W3
      go_wp2_with fail
      refine hK.out _ _ trivial (fun _ => ?_)
      clear hK K'
      try (change wpAnyH _ _ _ _ _ _ _ (Act.put _ (some 25) _) _; simp only [Act.put, List.setIfInBounds_toArray, List.set_cons_zero, List.set_cons_succ])
      refine wpAnyH_take (i := 4) (v := ?_) rfl (by kernel_rfl) (by kernel_rfl) (by kernel_rfl) (fun _ _ _ h => h) (Or.inl ⟨by rfl, ?_⟩) trivial ?_
      rotate_left 1
      · intro w hSw
        skip
        go_simp
        try with_reducible rfl
      change wpAnyH _ _ _ _ _ _ _ (Act.put _ (some 26) _) _
      simp only [Act.put, List.setIfInBounds_toArray, List.set_cons_zero, List.set_cons_succ]
      refine wpAnyH_done (by kernel_rfl) ?_ _
      refine NoPanic.normal ?_
      go_wp2_with fail
      go_ret
      exact ⟨rfl, K⟩
    refine AllReadyH.cons rfl (fun K' hK => ?_) AllReadyH.nil
    rw [if_pos (by rfl)]
    refine wp_load_row 35 (.tmp 1) rfl (w.heap.size) rfl _ (agC p0 p1 p2 p3 d.l d.p d.t s.ph s.co s.ck s.bo s.ba s.lb s0 s1 s2 s3 s.gd s.pr u) _ _ HX Tryz.underlying35 rfl HL.out ?_
    refine hK.out _ _ trivial (fun _ => ?_)
    clear hK K'
    try (change wpAnyH _ _ _ _ _ _ _ (Act.put _ (some 23) _) _; simp only [Act.put, List.setIfInBounds_toArray, List.set_cons_zero, List.set_cons_succ])
    refine wpAnyH_ready (rs := [0, 2]) (by kernel_rfl) (by simp) ?_
    refine AllReadyH.cons rfl (fun K' hK => ?_) ?_
    · skip
      rw [if_pos (by rfl)]
      refine wp_load_row 48 (.tmp 5) rfl (g) rfl _ (cs2) _ _ HG Tryz.underlying48 rfl (by rw [sz2]; exact HJ.out) ?_
      refine hK.out _ _ trivial (fun _ => ?_)
      clear hK K'
      try (change wpAnyH _ _ _ _ _ _ _ (Act.put _ (some 22) _) _; simp only [Act.put, List.setIfInBounds_toArray, List.set_cons_zero, List.set_cons_succ])
      refine wpAnyH_ready (rs := [2]) (by kernel_rfl) (by simp) ?_
      refine AllReadyH.cons rfl (fun K' hK => ?_) AllReadyH.nil
      go_simp
      go_at_call 8
      refine (toAgent_any _ d s st v0 ((H.out.below K (Nat.le_refl _)).more K.size) HZ.out).mono ?_
      rintro e v1 ⟨cs3, rfl, -, -, I3, -, hb⟩
      have W3 := I3.is HZ.out.pl HZ.out.st HLN.out HSM.out
      clear I3
      replace K := K.trans (hb.mono K.size)
      replace HX := (hb.block _ (Array.getElem?_eq_some_iff.1 HX).1).trans HX
      replace HG := (hb.block _ (Array.getElem?_eq_some_iff.1 HG).1).trans HG
      replace A2 := A2.go hb
      clear hb
      go_wp2_with fail
      refine hK.out _ _ trivial (fun _ => ?_)
      clear hK K'
      try (change wpAnyH _ _ _ _ _ _ _ (Act.put _ (some 24) _) _; simp only [Act.put, List.setIfInBounds_toArray, List.set_cons_zero, List.set_cons_succ])
      refine wpAnyH_ready (rs := [3]) (by kernel_rfl) (by simp) ?_
      refine AllReadyH.cons rfl (fun K' hK => ?_) AllReadyH.nil
      go_simp
      go_at_call 10
      refine (eqAg_same _ _ d s st v1 (IsAg.w A2) W3).mono ?_
      rintro e v2 ⟨rfl, hb⟩
      replace K := K.trans (hb.mono K.size)
      replace HX := (hb.block _ (Array.getElem?_eq_some_iff.1 HX).1).trans HX
      replace HG := (hb.block _ (Array.getElem?_eq_some_iff.1 HG).1).trans HG
      replace A2 := A2.go hb
      clear hb W3
      go_wp2_with fail
      refine hK.out _ _ trivial (fun _ => ?_)
      clear hK K'
      try (change wpAnyH _ _ _ _ _ _ _ (Act.put _ (some 25) _) _; simp only [Act.put, List.setIfInBounds_toArray, List.set_cons_zero, List.set_cons_succ])
      refine wpAnyH_take (i := 4) (v := ?_) rfl (by kernel_rfl) (by kernel_rfl) (by kernel_rfl) (fun _ _ _ h => h) (Or.inl ⟨by rfl, ?_⟩) trivial ?_
      rotate_left 1
      · intro w hSw
        skip
        go_simp
        try with_reducible rfl
      change wpAnyH _ _ _ _ _ _ _ (Act.put _ (some 26) _) _
      simp only [Act.put, List.setIfInBounds_toArray, List.set_cons_zero, List.set_cons_succ]
      refine wpAnyH_done (by kernel_rfl) ?_ _
      refine NoPanic.normal ?_
      go_wp2_with fail
      go_ret
      exact ⟨rfl, K⟩
    refine AllReadyH.cons rfl (fun K' hK => ?_) AllReadyH.nil
    go_simp
    go_at_call 8
    refine (toAgent_any _ d s st v0 ((H.out.below K (Nat.le_refl _)).more K.size) HZ.out).mono ?_
    rintro e v1 ⟨cs3, rfl, -, -, I3, -, hb⟩
    have W3 := I3.is HZ.out.pl HZ.out.st HLN.out HSM.out
    clear I3
    replace K := K.trans (hb.mono K.size)
    replace HX := (hb.block _ (Array.getElem?_eq_some_iff.1 HX).1).trans HX
    replace HG := (hb.block _ (Array.getElem?_eq_some_iff.1 HG).1).trans HG
    replace A2 := A2.go hb
    clear hb
    go_wp2_with fail
    refine hK.out _ _ trivial (fun _ => ?_)
    clear hK K'
    try (change wpAnyH _ _ _ _ _ _ _ (Act.put _ (some 24) _) _; simp only [Act.put, List.setIfInBounds_toArray, List.set_cons_zero, List.set_cons_succ])
    refine wpAnyH_ready (rs := [0]) (by kernel_rfl) (by simp) ?_
    refine AllReadyH.cons rfl (fun K' hK => ?_) AllReadyH.nil
    rw [if_pos (by rfl)]
    refine wp_load_row 48 (.tmp 5) rfl (g) rfl _ (cs2) _ _ HG Tryz.underlying48 rfl (by rw [sz2]; exact HJ.out) ?_
    refine hK.out _ _ trivial (fun _ => ?_)
    clear hK K'
    try (change wpAnyH _ _ _ _ _ _ _ (Act.put _ (some 22) _) _; simp only [Act.put, List.setIfInBounds_toArray, List.set_cons_zero, List.set_cons_succ])
    refine wpAnyH_ready (rs := [3]) (by kernel_rfl) (by simp) ?_
    refine AllReadyH.cons rfl (fun K' hK => ?_) AllReadyH.nil
    go_simp
    go_at_call 10
    refine (eqAg_same _ _ d s st v1 (IsAg.w A2) W3).mono ?_
    rintro e v2 ⟨rfl, hb⟩
    replace K := K.trans (hb.mono K.size)
    replace HX := (hb.block _ (Array.getElem?_eq_some_iff.1 HX).1).trans HX
    replace HG := (hb.block _ (Array.getElem?_eq_some_iff.1 HG).1).trans HG
    replace A2 := A2.go hb
    clear hb W3
    go_wp2_with fail
    refine hK.out _ _ trivial (fun _ => ?_)
    clear hK K'
    try (change wpAnyH _ _ _ _ _ _ _ (Act.put _ (some 25) _) _; simp only [Act.put, List.setIfInBounds_toArray, List.set_cons_zero, List.set_cons_succ])
    refine wpAnyH_take (i := 4) (v := ?_) rfl (by kernel_rfl) (by kernel_rfl) (by kernel_rfl) (fun _ _ _ h => h) (Or.inl ⟨by rfl, ?_⟩) trivial ?_
    rotate_left 1
    · intro w hSw
      skip
      go_simp
      try with_reducible rfl
    change wpAnyH _ _ _ _ _ _ _ (Act.put _ (some 26) _) _
    simp only [Act.put, List.setIfInBounds_toArray, List.set_cons_zero, List.set_cons_succ]
    refine wpAnyH_done (by kernel_rfl) ?_ _
    refine NoPanic.normal ?_
    go_wp2_with fail
    go_ret
    exact ⟨rfl, K⟩
end Go.Proofs.YtkefbmbjkijilaaGreatDoor
