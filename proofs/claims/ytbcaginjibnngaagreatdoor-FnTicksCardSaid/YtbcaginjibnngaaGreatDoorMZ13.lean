/-
  Agents as data (chapter 15): what an agent obeys keeps it right, and its store within its bound; also where the store begins anew with a snapshot.
-/
import Derived.Test.YtbcaginjibnngaaGreatDoorMZ10
import Derived.Test.YtbcaginjibnngaaGreatDoorMZxWo
import Derived.Test.YtbcaginjibnngaaGreatDoorMZxZf
import Derived.Test.YtbcaginjibnngaaGreatDoorMZ2
/- Zg -/
set_option linter.unusedVariables false
namespace Go.Proofs.YtbcaginjibnngaaGreatDoor
open Go.RowKit

/-- What an agent's store is then, and where the last frame begins. -/
def writeD (s : StD) (st : List Nat) (l : List RecD) : Option (List Nat × Nat) :=
  if writeB l then
    (if st.length + (framedD l).length ≤ 1200 then some (st ++ framedD l, st.length)
     else if (framedD (snapL s)).length + (framedD l).length ≤ 1200 then some (framedD (snapL s) ++ framedD l, (framedD (snapL s)).length) else none)
  else none
theorem writeD_len {s : StD} {st : List Nat} {l : List RecD} {x : List Nat × Nat} (h : writeD s st l = some x) : x.1.length ≤ 1200 := by
  unfold writeD at h
  split at h
  · split at h
    · cases h
      simp only [List.length_append]
      omega
    · split at h
      · cases h
        simp only [List.length_append]
        omega
      · cases h
  · cases h
/-- Behind l15Write. -/
def Written (w : World) (a : Option (List Nat × Nat)) (e : Ending) (w' : World) : Prop :=
  Below w.heap.size w w' ∧ match a with
    | some (x, k) => ∃ v, e = .returned (.tuple #[v, .int .i64 k, .bool true]) ∧ OB w' w.heap.size v x
    | none => ∃ v, e = .returned (.tuple #[v, .int .i64 0, .bool false])
theorem Written.yes {w w' : World} {x : List Nat} {k : Nat} {v : Value} (hb : Below w.heap.size w w') (h : OB w' w.heap.size v x) : Written w (some (x, k)) (.returned (.tuple #[v, .int .i64 k, .bool true])) w' := ⟨hb, v, rfl, h⟩
theorem Written.no {w w' : World} {v : Value} (hb : Below w.heap.size w w') : Written w none (.returned (.tuple #[v, .int .i64 0, .bool false])) w' := ⟨hb, v, rfl⟩
end Go.Proofs.YtbcaginjibnngaaGreatDoor
/- Zh -/
set_option linter.unusedVariables false
namespace Go.Proofs.YtbcaginjibnngaaGreatDoor
open Go.RowKit

theorem framedD_le2 (l : List RecD) : (framedD l).length ≤ 727 := by
  unfold framedD
  split
  · rw [frameN_length]
    have := wroteN_len l
    omega
  · simp

set_option maxRecDepth 100000 in
set_option maxHeartbeats 8000000 in
theorem l15Write_any (v rv : Value) (d : PlanD) (s : StD) (st : List Nat) (l : List RecD) (w : World) (h : IsAg w w.heap.size v d s st) (hr : Rt w w.heap.size rv l) (hsz : s.pods.length ≤ 12 ∧ s.mnts.length ≤ 12 ∧ s.devs.length ≤ 12 ∧ s.lks.length ≤ 12) (hst : st.length ≤ 1200) :
    Calls Tryz.prog 107 #[v, rv] w (Written w (writeD s st l)) := by
  obtain ⟨p0, p1, p2, p3, s0, s1, s2, s3, b, rfl, hp, hs, hb, hre⟩ := h.it
  obtain ⟨Ab, cb, rfl, hcap⟩ : ∃ A c, b = .slice A st.length c ∧ st.length ≤ c := by
    obtain ⟨⟨A, c, e, hc, -⟩, -, -⟩ := hb
    exact ⟨A, c, e, hc⟩
  have HS := Lib.hid hs
  have HB := Lib.hid hb
  have HR := Lib.hid hre
  have HL := Lib.hid hr
  have HSZ := Lib.hid hsz
  have hf1 := framedD_le2 l
  have hf2 := framedD_le2 (snapL s)
  obtain ⟨ans, hans⟩ : ∃ ans, writeD s st l = ans := ⟨_, rfl⟩
  rw [hans]
  have HA0 := Lib.hid hans
  have X0 := Own.box w (agC p0 p1 p2 p3 d.l d.p d.t s.ph s.co s.ck s.bo s.ba s.lb s0 s1 s2 s3 s.gd s.pr (.slice Ab st.length cb)) 69
  clear h hp hs hb hre hr hsz hans
  go_enter Tryz.func107, Tryz.ntmps107
  go_wp2_with fail
  generalize w.alloc (.cells (agC p0 p1 p2 p3 d.l d.p d.t s.ph s.co s.ck s.bo s.ba s.lb s0 s1 s2 s3 s.gd s.pr (.slice Ab st.length cb)) 69) = w0 at X0 ⊢
  refine (specFramed_any rv l w0 ((HL.out.below X0.K (Nat.le_refl _)).more X0.K.size)).mono ?_
  rintro e w1 ⟨v1, rfl, O1, hb⟩
  have X1 := X0.step hb
  have HBf := Lib.hid O1.bt
  have Rf := Lib.hid O1.real
  obtain ⟨A1, c1, -, rfl, hc1, -⟩ := O1.open_
  clear X0 hb O1
  cases hw : writeB l
  · have HA : Hid (ans = none) := Lib.hid (by rw [← HA0.out]; unfold writeD; rw [hw]; rfl)
    clear hw
    go_wp2_with fail
    go_ret3
    rw [HA.out]
    exact Written.no (X1.K.alloc X1.K.size _)
  · have HW := Lib.hid hw
    clear hw
    have hC := X1.C
    have i0 : (st.length : Int) ≤ 1200 := by omega
    have i1 : ((framedD l).length : Int) ≤ 727 := by omega
    by_cases h1 : st.length + (framedD l).length ≤ 1200
    · have HA : Hid (ans = some (st ++ framedD l, st.length)) := Lib.hid (by rw [← HA0.out]; unfold writeD; rw [HW.out, if_pos h1]; rfl)
      have i2 : (st.length : Int) + ((framedD l).length : Int) ≤ 1200 := by omega
      have HK_w1 := Lib.hid (Below.refl w1.heap.size w1)
      go_wp2_with (first
        | (at_builtin
           have hq := O8
           clear hq
           refine wpList_append_bt rfl _ _ rfl w.heap.size _ (st) rfl O8 (.slice A1 (framedD l).length c1) (framedD l) rfl (HBf.out.below K8 (Nat.le_refl _)) Rf.out (by omega) (Nat.le_trans T8.K.size (Nat.le_refl _)) ?_
           intro v9 w9 O9 hg9)
        | (at_builtin
           refine wpList_append_bt rfl _ _ rfl w.heap.size _ [] rfl (OB.empty X1.K.size) (.slice Ab st.length cb) (st) rfl ((HB.out.below (X1.K.alloc X1.K.size _) (Nat.le_refl _))) HR.out (by simp; omega) (X1.K.alloc X1.K.size _).size ?_
           intro v8 w8 O8 hg8
           replace O8 : OB w8 w.heap.size v8 (st) := by simpa using O8
           have hb8 : Below w1.heap.size w1 w8 := ((Below.refl _ _).alloc (Nat.le_refl _) _).grown hg8 (by simp) (fun r hr => Nat.le_of_eq (Option.some.inj hr))
           have K8 := HK_w1.out.trans (hb8.mono HK_w1.out.size)
           have T8 := X1.step hb8
           clear hg8 hb8))
      have KW : Below w.heap.size w w9 := T8.K.grown hg9 T8.K.size (fun r hr => (OB.lt O8 hr).1)
      go_ret3
      rw [HA.out]
      exact Written.yes KW O9
    · have h1' : (1200 : Int) < (st.length : Int) + ((framedD l).length : Int) := by omega
      have H1 := Lib.hid h1
      clear h1
      go_wp2_with fail
      refine (l14Snap_any _ s w1 ((HS.out.below X1.K (Nat.le_refl _)).more X1.K.size).is HSZ.out).mono ?_
      rintro e w2 ⟨v2, rfl, O2, hb⟩
      have X2 := X1.step hb
      have HK_w2 := Lib.hid hb
      have RS := Lib.hid O2.rt
      clear hb O2 X1 hC
      go_wp2_with fail
      refine (specFramed_any v2 (snapL s) w2 RS.out).mono ?_
      rintro e w3 ⟨v3, rfl, O3, hb⟩
      have X3 := X2.step hb
      have HK_w3 := Lib.hid (HK_w2.out.trans (hb.mono HK_w2.out.size))
      have HBo := Lib.hid O3.bt
      have Ro := Lib.hid O3.real
      obtain ⟨A3, c3, -, rfl, hc3, -⟩ := O3.open_
      clear X2 hb O3
      have i3 : ((framedD (snapL s)).length : Int) ≤ 727 := by omega
      by_cases h2 : (framedD (snapL s)).length + (framedD l).length ≤ 1200
      · have HA : Hid (ans = some (framedD (snapL s) ++ framedD l, (framedD (snapL s)).length)) := Lib.hid (by rw [← HA0.out]; unfold writeD; rw [HW.out, if_neg H1.out, if_pos h2]; rfl)
        have i4 : ((framedD (snapL s)).length : Int) + ((framedD l).length : Int) ≤ 1200 := by omega
        go_wp2_with (first
          | (at_builtin
             have hq := O8
             clear hq
             refine wpList_append_bt rfl _ _ rfl w.heap.size _ (framedD (snapL s)) rfl O8 (.slice A1 (framedD l).length c1) (framedD l) rfl (HBf.out.below K8 (Nat.le_refl _)) Rf.out (by omega) (Nat.le_trans T8.K.size (Nat.le_refl _)) ?_
             intro v9 w9 O9 hg9)
          | (at_builtin
             refine wpList_append_bt rfl _ _ rfl w.heap.size _ [] rfl (OB.empty X3.K.size) (.slice A3 (framedD (snapL s)).length c3) (framedD (snapL s)) rfl ((HBo.out.below ((Below.refl _ _).alloc (Nat.le_refl _) _) (Nat.le_refl _))) Ro.out (by simp; omega) (X3.K.alloc X3.K.size _).size ?_
             intro v8 w8 O8 hg8
             replace O8 : OB w8 w.heap.size v8 (framedD (snapL s)) := by simpa using O8
             have hb8 : Below w3.heap.size w3 w8 := ((Below.refl _ _).alloc (Nat.le_refl _) _).grown hg8 (by simp) (fun r hr => Nat.le_of_eq (Option.some.inj hr))
             have K8 := HK_w3.out.trans (hb8.mono HK_w3.out.size)
             have T8 := X3.step hb8
             clear hg8 hb8))
        have KW : Below w.heap.size w w9 := T8.K.grown hg9 T8.K.size (fun r hr => (OB.lt O8 hr).1)
        go_ret3
        rw [HA.out]
        exact Written.yes KW O9
      · have HA : Hid (ans = none) := Lib.hid (by rw [← HA0.out]; unfold writeD; rw [HW.out, if_neg H1.out, if_neg h2]; rfl)
        have i4 : (1200 : Int) < ((framedD (snapL s)).length : Int) + ((framedD l).length : Int) := by omega
        go_wp2_with fail
        go_ret3
        rw [HA.out]
        exact Written.no (X3.K.alloc X3.K.size _)
end Go.Proofs.YtbcaginjibnngaaGreatDoor
/- Zi -/
set_option linter.unusedVariables false
namespace Go.Proofs.YtbcaginjibnngaaGreatDoor
open Go.RowKit

/-- Chapter 15: what an agent makes of an order, of a right state. -/
def obeyD (d : PlanD) (s : StD) (st : List Nat) (k a b : Int) : (StD × List Nat) × Int :=
  if (plannedD d s k a b).2 = 0 then
    (match writeD s st (plannedD d s k a b).1 with
     | some x => (((allS d s (plannedD d s k a b).1).1, x.1), 0)
     | none => ((s, st), 8))
  else ((s, st), (plannedD d s k a b).2)
theorem all_ok {d : PlanD} {s : StD} {l : List RecD} (h : StOk d s) : StOk d (allS d s l).1 := by
  unfold allS
  split
  · rename_i x hx
    exact runR_ok h hx
  · exact h
theorem obey_ok {d : PlanD} {s : StD} {st : List Nat} {k a b : Int} (h : StOk d s) (hst : st.length ≤ 1200) : StOk d (obeyD d s st k a b).1.1 ∧ (obeyD d s st k a b).1.2.length ≤ 1200 := by
  unfold obeyD
  split
  · split
    · rename_i x hx
      exact ⟨all_ok h, writeD_len hx⟩
    · exact ⟨h, hst⟩
  · exact ⟨h, hst⟩
theorem st_small {d : PlanD} {t : StD} (h : StOk d t) : t.pods.length ≤ 12 ∧ t.mnts.length ≤ 12 ∧ t.devs.length ≤ 12 ∧ t.lks.length ≤ 12 := by
  have hp := h.plan
  have h1 := h.np
  have h2 := h.nm
  have h3 := h.nd
  simp only [planOkB, sizesB, Bool.and_eq_true, decide_eq_true_eq] at hp
  have h4 : t.lks.length ≤ 8 := by
    have hr := h.rise
    have hl := h.lks
    have := rise_len (a := 0) hr hl (by omega)
    omega
  omega
theorem load_agent {ops : Array Oper} {rest : List Oper} {dst : Option Tmp} {ty : TypeId} {pos : String} {after : Array Edge} {a : Act} {w : World} {Q : Exit → Act → World → Prop} {g x : Nat} {cs : Array Value}
    (hx : a.eval (.tmp x) = .pointer (some ⟨g, 0, none⟩)) (hg : w.heap[g]? = some (.cells cs 69)) (hi : (Tryz.prog.info? 69).map (·.size) = some cs.size)
    (h : wpList Tryz.prog ops Q rest (a.put dst (.agg cs)) w) : wpList Tryz.prog ops Q (Oper.mk dst (.load 69 (.tmp x)) ty pos after none :: rest) a w :=
  wpList_load_row rfl 69 (.tmp x) rfl g hx _ cs _ _ hg Tryz.underlying69 rfl hi h
theorem store_agent {ops : Array Oper} {rest : List Oper} {dst : Option Tmp} {ty : TypeId} {pos : String} {after : Array Edge} {a : Act} {w : World} {Q : Exit → Act → World → Prop} {g x y : Nat} {cs old : Array Value}
    (hx : a.eval (.tmp x) = .pointer (some ⟨g, 0, none⟩)) (hy : a.eval (.tmp y) = .agg cs) (hg : w.heap[g]? = some (.cells old 69)) (hi : (Tryz.prog.info? 69).map (·.size) = some cs.size) (hold : old.size = cs.size) (h1 : cs.all (·.oneCell') = true)
    (h : wpList Tryz.prog ops Q rest (a.put dst undef) (w.setRow g cs)) : wpList Tryz.prog ops Q (Oper.mk dst (.store 69 (.tmp x) (.tmp y)) ty pos after none :: rest) a w :=
  wpList_store_row rfl 69 (.tmp x) (.tmp y) rfl g cs hx hy 69 old hg hi hold h1 h
theorem Own.setRow {w W : World} {g T : Nat} {cs old : Array Value} (h : Own w W g old) (hh : W.heap[g]? = some (.cells old T (0, 0))) (hg : w.heap.size ≤ g) : Own w (W.setRow g cs) g cs :=
  ⟨below_setRow h.K hg _, by rw [size_setRow]; exact h.z, fun o => cell_of_row _ _ _ _ _ _ (setRow_heap W g _ cs _ _ hh), fun o => frozen_of_row _ _ _ _ _ (setRow_heap W g _ cs _ _ hh)⟩
theorem Own.farKeeps {w w1 w2 : World} {g h : Nat} {cs : Array Value} (H : Own w w1 g cs) (k : Keeps (· = h) w1 w2) (h0 : w.heap.size ≤ h) (hn : g ≠ h) : Own w w2 g cs := H.keeps k (fun b hb => by omega) (fun e => hn e)
section
variable (W : World) (g : Nat) (y0 y1 y2 y3 y4 y5 y6 y7 y8 y9 y10 y11 : Value)
/-- The world with an agent's state set. -/
abbrev put7 : World := (((((((((((W.setCell ⟨g, 7, none⟩ y0).setCell ⟨g, 8, none⟩ y1).setCell ⟨g, 9, none⟩ y2).setCell ⟨g, 10, none⟩ y3).setCell ⟨g, 11, none⟩ y4).setCell ⟨g, 12, none⟩ y5).setCell ⟨g, 13, none⟩ y6).setCell ⟨g, 14, none⟩ y7).setCell ⟨g, 15, none⟩ y8).setCell ⟨g, 16, none⟩ y9).setCell ⟨g, 17, none⟩ y10).setCell ⟨g, 18, none⟩ y11
theorem keeps_put7 : Keeps (· = g) W (put7 W g y0 y1 y2 y3 y4 y5 y6 y7 y8 y9 y10 y11) := by
  unfold put7
  iterate 12 (refine Keeps.set (S := (· = g)) ?_ rfl _)
  exact Keeps.refl _ _
end
theorem heap_put7 {W : World} {g T : Nat} {x0 x1 x2 x3 x4 x5 x6 x7 x8 x9 x10 x11 x12 x13 x14 x15 x16 x17 x18 x19 y0 y1 y2 y3 y4 y5 y6 y7 y8 y9 y10 y11 : Value} (h : W.heap[g]? = some (.cells #[x0, x1, x2, x3, x4, x5, x6, x7, x8, x9, x10, x11, x12, x13, x14, x15, x16, x17, x18, x19] T (0, 0))) : (put7 W g y0 y1 y2 y3 y4 y5 y6 y7 y8 y9 y10 y11).heap[g]? = some (.cells #[x0, x1, x2, x3, x4, x5, x6, y0, y1, y2, y3, y4, y5, y6, y7, y8, y9, y10, y11, x19] T (0, 0)) := by
  unfold put7
  have h0 := heap_setCell_same W g 7 _ _ y0 h
  have h1 := heap_setCell_same (W.setCell ⟨g, 7, none⟩ y0) g 8 _ _ y1 h0
  have h2 := heap_setCell_same ((W.setCell ⟨g, 7, none⟩ y0).setCell ⟨g, 8, none⟩ y1) g 9 _ _ y2 h1
  have h3 := heap_setCell_same (((W.setCell ⟨g, 7, none⟩ y0).setCell ⟨g, 8, none⟩ y1).setCell ⟨g, 9, none⟩ y2) g 10 _ _ y3 h2
  have h4 := heap_setCell_same ((((W.setCell ⟨g, 7, none⟩ y0).setCell ⟨g, 8, none⟩ y1).setCell ⟨g, 9, none⟩ y2).setCell ⟨g, 10, none⟩ y3) g 11 _ _ y4 h3
  have h5 := heap_setCell_same (((((W.setCell ⟨g, 7, none⟩ y0).setCell ⟨g, 8, none⟩ y1).setCell ⟨g, 9, none⟩ y2).setCell ⟨g, 10, none⟩ y3).setCell ⟨g, 11, none⟩ y4) g 12 _ _ y5 h4
  have h6 := heap_setCell_same ((((((W.setCell ⟨g, 7, none⟩ y0).setCell ⟨g, 8, none⟩ y1).setCell ⟨g, 9, none⟩ y2).setCell ⟨g, 10, none⟩ y3).setCell ⟨g, 11, none⟩ y4).setCell ⟨g, 12, none⟩ y5) g 13 _ _ y6 h5
  have h7 := heap_setCell_same (((((((W.setCell ⟨g, 7, none⟩ y0).setCell ⟨g, 8, none⟩ y1).setCell ⟨g, 9, none⟩ y2).setCell ⟨g, 10, none⟩ y3).setCell ⟨g, 11, none⟩ y4).setCell ⟨g, 12, none⟩ y5).setCell ⟨g, 13, none⟩ y6) g 14 _ _ y7 h6
  have h8 := heap_setCell_same ((((((((W.setCell ⟨g, 7, none⟩ y0).setCell ⟨g, 8, none⟩ y1).setCell ⟨g, 9, none⟩ y2).setCell ⟨g, 10, none⟩ y3).setCell ⟨g, 11, none⟩ y4).setCell ⟨g, 12, none⟩ y5).setCell ⟨g, 13, none⟩ y6).setCell ⟨g, 14, none⟩ y7) g 15 _ _ y8 h7
  have h9 := heap_setCell_same (((((((((W.setCell ⟨g, 7, none⟩ y0).setCell ⟨g, 8, none⟩ y1).setCell ⟨g, 9, none⟩ y2).setCell ⟨g, 10, none⟩ y3).setCell ⟨g, 11, none⟩ y4).setCell ⟨g, 12, none⟩ y5).setCell ⟨g, 13, none⟩ y6).setCell ⟨g, 14, none⟩ y7).setCell ⟨g, 15, none⟩ y8) g 16 _ _ y9 h8
  have h10 := heap_setCell_same ((((((((((W.setCell ⟨g, 7, none⟩ y0).setCell ⟨g, 8, none⟩ y1).setCell ⟨g, 9, none⟩ y2).setCell ⟨g, 10, none⟩ y3).setCell ⟨g, 11, none⟩ y4).setCell ⟨g, 12, none⟩ y5).setCell ⟨g, 13, none⟩ y6).setCell ⟨g, 14, none⟩ y7).setCell ⟨g, 15, none⟩ y8).setCell ⟨g, 16, none⟩ y9) g 17 _ _ y10 h9
  have h11 := heap_setCell_same (((((((((((W.setCell ⟨g, 7, none⟩ y0).setCell ⟨g, 8, none⟩ y1).setCell ⟨g, 9, none⟩ y2).setCell ⟨g, 10, none⟩ y3).setCell ⟨g, 11, none⟩ y4).setCell ⟨g, 12, none⟩ y5).setCell ⟨g, 13, none⟩ y6).setCell ⟨g, 14, none⟩ y7).setCell ⟨g, 15, none⟩ y8).setCell ⟨g, 16, none⟩ y9).setCell ⟨g, 17, none⟩ y10) g 18 _ _ y11 h10
  simp only [List.setIfInBounds_toArray, List.set_cons_zero, List.set_cons_succ] at h11
  exact h11
end Go.Proofs.YtbcaginjibnngaaGreatDoor
/- Zj -/
set_option linter.unusedVariables false
namespace Go.Proofs.YtbcaginjibnngaaGreatDoor
open Go.RowKit

theorem OwnSt.shapes {w : World} {B : Nat} {s : StD} {s0 s1 s2 s3 : Value} (h : OwnSt w B (.agg #[.int .i64 s.ph, .bool s.co, .int .i64 s.ck, .int .i64 s.bo, .int .i64 s.ba, .int .i64 s.lb, s0, s1, s2, s3, .int .i64 s.gd, .int .i64 s.pr]) s) :
    (∃ Y f, s0 = .slice Y s.pods.length f) ∧ (∃ Y f, s1 = .slice Y s.mnts.length f) ∧ (∃ Y f, s2 = .slice Y s.devs.length f) ∧ (∃ Y f, s3 = .slice Y s.lks.length f) := by
  obtain ⟨y0, y1, y2, y3, hy, z0, z1, z2, z3⟩ := h.it
  injection hy with hy
  injection hy with hy
  injection hy with _ hy
  injection hy with _ hy
  injection hy with _ hy
  injection hy with _ hy
  injection hy with _ hy
  injection hy with _ hy
  injection hy with i0 hy
  injection hy with i1 hy
  injection hy with i2 hy
  injection hy with i3 hy
  subst i0 i1 i2 i3
  obtain ⟨Y0, f0, e0, -⟩ := open_rowR z0
  obtain ⟨Y1, f1, e1, -⟩ := open_rowR z1
  obtain ⟨Y2, f2, e2, -⟩ := open_rowR z2
  obtain ⟨Y3, f3, e3, -⟩ := open_rowR z3
  exact ⟨⟨Y0, f0, e0⟩, ⟨Y1, f1, e1⟩, ⟨Y2, f2, e2⟩, ⟨Y3, f3, e3⟩⟩
/-- Behind an order obeyed. -/
def ObeyedA (w : World) (d : PlanD) (a : (StD × List Nat) × Int) (e : Ending) (w' : World) : Prop := ∃ v', e = .returned (.tuple #[v', .int .i64 a.2]) ∧ OwnAg w' w.heap.size v' d a.1.1 a.1.2 ∧ Below w.heap.size w w'

set_option maxRecDepth 100000 in
set_option maxHeartbeats 8000000 in
theorem l15Obey_any (v : Value) (d : PlanD) (s : StD) (st : List Nat) (k a b0 : Int) (w : World) (h : IsAg w w.heap.size v d s st) (hok : StOk d s) (hst : st.length ≤ 1200) :
    Calls Tryz.prog 64 #[v, .agg (ordC k a b0)] w (ObeyedA w d (obeyD d s st k a b0)) := by
  have HAG := Lib.hid h
  obtain ⟨p0, p1, p2, p3, s0, s1, s2, s3, b, rfl, hp, hs, -, -⟩ := h.it
  have HP := Lib.hid hp
  have HS := Lib.hid hs
  have HOK := Lib.hid hok
  have HSM := Lib.hid (st_small hok)
  have HI : Hid ((Tryz.prog.info? 69).map (·.size) = some 20) := Lib.hid (by kernel_rfl)
  obtain ⟨L, c, hlc⟩ : ∃ L c, plannedD d s k a b0 = (L, c) := by
    generalize plannedD d s k a b0 = q
    exact ⟨q.1, q.2, rfl⟩
  have HLC := Lib.hid hlc
  obtain ⟨ans, hans⟩ : ∃ ans, obeyD d s st k a b0 = ans := ⟨_, rfl⟩
  rw [hans]
  have HA0 := Lib.hid hans
  have T0 := TP.start w (agC p0 p1 p2 p3 d.l d.p d.t s.ph s.co s.ck s.bo s.ba s.lb s0 s1 s2 s3 s.gd s.pr b) (ordC k a b0) (agC (.slice none 0 0) (.slice none 0 0) (.slice none 0 0) (.slice none 0 0) 0 0 0 0 false 0 0 0 0 (.slice none 0 0) (.slice none 0 0) (.slice none 0 0) (.slice none 0 0) 0 0 (.slice none 0 0)) 69 99 69
  have Ha : (((w.alloc (.cells (agC p0 p1 p2 p3 d.l d.p d.t s.ph s.co s.ck s.bo s.ba s.lb s0 s1 s2 s3 s.gd s.pr b) 69)).alloc (.cells (ordC k a b0) 99)).alloc (.cells (agC (.slice none 0 0) (.slice none 0 0) (.slice none 0 0) (.slice none 0 0) 0 0 0 0 false 0 0 0 0 (.slice none 0 0) (.slice none 0 0) (.slice none 0 0) (.slice none 0 0) 0 0 (.slice none 0 0)) 69)).heap[w.heap.size]? = some (.cells (agC p0 p1 p2 p3 d.l d.p d.t s.ph s.co s.ck s.bo s.ba s.lb s0 s1 s2 s3 s.gd s.pr b) 69) := by
    have hb := ((Below.refl (w.alloc (.cells (agC p0 p1 p2 p3 d.l d.p d.t s.ph s.co s.ck s.bo s.ba s.lb s0 s1 s2 s3 s.gd s.pr b) 69)).heap.size (w.alloc (.cells (agC p0 p1 p2 p3 d.l d.p d.t s.ph s.co s.ck s.bo s.ba s.lb s0 s1 s2 s3 s.gd s.pr b) 69))).alloc (Nat.le_refl _) (.cells (ordC k a b0) 99)).alloc (by simp) (.cells (agC (.slice none 0 0) (.slice none 0 0) (.slice none 0 0) (.slice none 0 0) 0 0 0 0 false 0 0 0 0 (.slice none 0 0) (.slice none 0 0) (.slice none 0 0) (.slice none 0 0) 0 0 (.slice none 0 0)) 69)
    exact (hb.block w.heap.size (by simp)).trans (heap_alloc_new w _)
  have H4 : (((w.alloc (.cells (agC p0 p1 p2 p3 d.l d.p d.t s.ph s.co s.ck s.bo s.ba s.lb s0 s1 s2 s3 s.gd s.pr b) 69)).alloc (.cells (ordC k a b0) 99)).alloc (.cells (agC (.slice none 0 0) (.slice none 0 0) (.slice none 0 0) (.slice none 0 0) 0 0 0 0 false 0 0 0 0 (.slice none 0 0) (.slice none 0 0) (.slice none 0 0) (.slice none 0 0) 0 0 (.slice none 0 0)) 69)).heap[w.heap.size + 1 + 1]? = some (.cells (agC (.slice none 0 0) (.slice none 0 0) (.slice none 0 0) (.slice none 0 0) 0 0 0 0 false 0 0 0 0 (.slice none 0 0) (.slice none 0 0) (.slice none 0 0) (.slice none 0 0) 0 0 (.slice none 0 0)) 69) := by
    have := heap_alloc_new ((w.alloc (.cells (agC p0 p1 p2 p3 d.l d.p d.t s.ph s.co s.ck s.bo s.ba s.lb s0 s1 s2 s3 s.gd s.pr b) 69)).alloc (.cells (ordC k a b0) 99)) (.cells (agC (.slice none 0 0) (.slice none 0 0) (.slice none 0 0) (.slice none 0 0) 0 0 0 0 false 0 0 0 0 (.slice none 0 0) (.slice none 0 0) (.slice none 0 0) (.slice none 0 0) 0 0 (.slice none 0 0)) 69)
    simpa only [heap_size_alloc_] using this
  clear h hp hs hok hlc hans
  go_enter Tryz.func64, Tryz.ntmps64
  go_wp2_with fail
  generalize ((w.alloc (.cells (agC p0 p1 p2 p3 d.l d.p d.t s.ph s.co s.ck s.bo s.ba s.lb s0 s1 s2 s3 s.gd s.pr b) 69)).alloc (.cells (ordC k a b0) 99)).alloc (.cells (agC (.slice none 0 0) (.slice none 0 0) (.slice none 0 0) (.slice none 0 0) 0 0 0 0 false 0 0 0 0 (.slice none 0 0) (.slice none 0 0) (.slice none 0 0) (.slice none 0 0) 0 0 (.slice none 0 0)) 69) = w0 at T0 Ha H4 ⊢
  have hpl := planned_any _ _ d s k a b0 w0 ((HP.out.below T0.A.K (Nat.le_refl _)).more T0.A.K.size).is ((HS.out.below T0.A.K (Nat.le_refl _)).more T0.A.K.size).is
  rw [HLC.out] at hpl
  refine hpl.mono ?_
  clear hpl
  rintro e w1 ⟨v1, h1, O1, hb⟩
  dsimp only at h1 O1
  subst h1
  have RT := Lib.hid O1.rt
  obtain ⟨A1, c1, rfl, -, -⟩ := O1.slv
  have T1 := T0.step hb
  replace Ha := (hb.block _ T0.A.z).trans Ha
  replace H4 := (hb.block _ T0.O.z).trans H4
  clear hb T0 O1
  by_cases hc : c = 0
  · subst hc
    cases hwd : writeD s st L with
    | none =>
      have HANS : Hid (ans = ((s, st), 8)) := Lib.hid (by rw [← HA0.out]; unfold obeyD; rw [HLC.out]; dsimp only; rw [if_pos rfl, hwd])
      have HW := Lib.hid hwd
      clear hwd
      go_upto_region 6 with (first
        | (go_at_call 107
           have hwr := l15Write_any _ _ d s st L _ ((HAG.out.below T1.A.K (Nat.le_refl _)).more T1.A.K.size) RT.out HSM.out hst
           rw [HW.out] at hwr
           refine hwr.mono ?_
           clear hwr
           rintro e w2 ⟨hb2, v2, rfl⟩)
        | ((with_reducible refine load_agent (x := 2) (g := w.heap.size) (cs := agC p0 p1 p2 p3 d.l d.p d.t s.ph s.co s.ck s.bo s.ba s.lb s0 s1 s2 s3 s.gd s.pr b) ?_ Ha ?_ ?_)
           · rfl
           · exact HI.out))
      have T2 := T1.step hb2
      replace Ha := (hb2.block _ T1.A.z).trans Ha
      replace H4 := (hb2.block _ T1.O.z).trans H4
      clear hb2 T1
      go_wp2_with (first
        | (have hq := H49
           clear hq
           (with_reducible refine store_agent (x := 4) (y := 38) (g := w.heap.size + 1 + 1) (cs := agC (.slice Q0 d.n0 e0) (.slice Q1 d.n1 e1) (.slice Q2 d.n2 e2) (.slice Q3 d.n3 e3) d.l d.p d.t s.ph s.co s.ck s.bo s.ba s.lb (.slice Y0 s.pods.length f0) (.slice Y1 s.mnts.length f1) (.slice Y2 s.devs.length f2) (.slice Y3 s.lks.length f3) s.gd s.pr (.slice Ab st.length cb)) ?_ ?_ H49 ?_ ?_ ?_ ?_)
           · rfl
           · rfl
           · exact HI.out
           · rfl
           · simp [Value.oneCell'])
        | (go_at_call 106
           refine (l15Copy_any _ d s st _ ((HAG.out.below T2.A.K (Nat.le_refl _)).more T2.A.K.size) (by omega)).mono ?_
           rintro e w9 ⟨v9, rfl, Oa, hb9⟩
           replace Oa := Oa.base T2.A.K.size
           have T9 := T2.step hb9
           have Ha9 := (hb9.block _ T2.A.z).trans Ha
           have H49 := (hb9.block _ T2.O.z).trans H4
           obtain ⟨p0_, p1_, p2_, p3_, s0_, s1_, s2_, s3_, b_, rfl, Lp, Os, Ob, AP⟩ := Oa.it
           obtain ⟨⟨Y0, f0, rfl⟩, ⟨Y1, f1, rfl⟩, ⟨Y2, f2, rfl⟩, ⟨Y3, f3, rfl⟩⟩ := Os.shapes
           obtain ⟨Q0, e0, rfl, -, -⟩ := Lp.o0.formR
           obtain ⟨Q1, e1, rfl, -, -⟩ := Lp.o1.formR
           obtain ⟨Q2, e2, rfl, -, -⟩ := Lp.o2.formR
           obtain ⟨Q3, e3, rfl, -, -⟩ := Lp.o3.formR
           obtain ⟨Ab, cb, -, rfl, -⟩ := Ob.open_
           clear Oa)
        | ((with_reducible refine load_agent (x := 2) (g := w.heap.size) (cs := agC p0 p1 p2 p3 d.l d.p d.t s.ph s.co s.ck s.bo s.ba s.lb s0 s1 s2 s3 s.gd s.pr b) ?_ Ha ?_ ?_)
           · rfl
           · exact HI.out))
      have KS : Keeps (· = w.heap.size + 1 + 1) w9 (w9.setRow (w.heap.size + 1 + 1) (agC (.slice Q0 d.n0 e0) (.slice Q1 d.n1 e1) (.slice Q2 d.n2 e2) (.slice Q3 d.n3 e3) d.l d.p d.t s.ph s.co s.ck s.bo s.ba s.lb (.slice Y0 s.pods.length f0) (.slice Y1 s.mnts.length f1) (.slice Y2 s.devs.length f2) (.slice Y3 s.lks.length f3) s.gd s.pr (.slice Ab st.length cb))) := keeps_setRow ..
      rw [HANS.out]
      exact bodyPost_ret (v := .tuple #[.agg (agC (.slice Q0 d.n0 e0) (.slice Q1 d.n1 e1) (.slice Q2 d.n2 e2) (.slice Q3 d.n3 e3) d.l d.p d.t s.ph s.co s.ck s.bo s.ba s.lb (.slice Y0 s.pods.length f0) (.slice Y1 s.mnts.length f1) (.slice Y2 s.devs.length f2) (.slice Y3 s.lks.length f3) s.gd s.pr (.slice Ab st.length cb)), .int .i64 8]) (results_two_row Tryz.results64 _ _ _ _ _ _ _ _ rfl rfl (setRow_heap w9 _ _ _ _ _ H49) Tryz.underlying69 rfl HI.out) rfl ⟨_, rfl, ⟨_, _, _, _, _, _, _, _, _, rfl, Lp.keeps KS H49 (by decide), Os.keepsT KS H49 (by decide), Ob.keepsT KS H49 (by decide), AP⟩, below_setRow T9.O.K (by omega) _⟩
    | some xk =>
      obtain ⟨xb, n⟩ := xk
      obtain ⟨x, bb, hall⟩ : ∃ x bb, allS d s L = (x, bb) := by
        generalize allS d s L = q
        exact ⟨q.1, q.2, rfl⟩
      have HANS : Hid (ans = ((x, xb), 0)) := Lib.hid (by rw [← HA0.out]; unfold obeyD; rw [HLC.out]; dsimp only; rw [if_pos rfl, hwd, hall])
      have HW := Lib.hid hwd
      have HALL := Lib.hid hall
      clear hwd hall
      go_upto_region 7 with (first
        | (go_at_call 107
           have hwr := l15Write_any _ _ d s st L _ ((HAG.out.below T1.A.K (Nat.le_refl _)).more T1.A.K.size) RT.out HSM.out hst
           rw [HW.out] at hwr
           refine hwr.mono ?_
           clear hwr
           rintro e w2 ⟨hb2, v2, rfl, O2⟩)
        | ((with_reducible refine load_agent (x := 2) (g := w.heap.size) (cs := agC p0 p1 p2 p3 d.l d.p d.t s.ph s.co s.ck s.bo s.ba s.lb s0 s1 s2 s3 s.gd s.pr b) ?_ Ha ?_ ?_)
           · rfl
           · exact HI.out))
      have T2 := T1.step hb2
      replace Ha := (hb2.block _ T1.A.z).trans Ha
      replace H4 := (hb2.block _ T1.O.z).trans H4
      replace O2 := O2.base T1.A.K.size
      obtain ⟨Bb, ce, -, rfl, -⟩ := O2.open_
      go_upto_region 8 with (first
        | (have hq := H49
           clear hq
           (with_reducible refine store_agent (x := 11) (y := 40) (g := w9.heap.size) (cs := agC (.slice Q0 d.n0 e0) (.slice Q1 d.n1 e1) (.slice Q2 d.n2 e2) (.slice Q3 d.n3 e3) d.l d.p d.t s.ph s.co s.ck s.bo s.ba s.lb (.slice Y0 s.pods.length f0) (.slice Y1 s.mnts.length f1) (.slice Y2 s.devs.length f2) (.slice Y3 s.lks.length f3) s.gd s.pr (.slice Ab st.length cb)) ?_ ?_ (heap_alloc_new w9 _) ?_ ?_ ?_ ?_)
           · rfl
           · rfl
           · exact HI.out
           · rfl
           · simp [Value.oneCell'])
        | (go_at_call 106
           refine (l15Copy_any _ d s st _ ((HAG.out.below T2.A.K (Nat.le_refl _)).more T2.A.K.size) (by omega)).mono ?_
           rintro e w9 ⟨v9, rfl, Oa, hb9⟩
           replace Oa := Oa.base T2.A.K.size
           have T9 := T2.step hb9
           have Ha9 := (hb9.block _ T2.A.z).trans Ha
           have H49 := (hb9.block _ T2.O.z).trans H4
           obtain ⟨p0_, p1_, p2_, p3_, s0_, s1_, s2_, s3_, b_, rfl, Lp, Os, Ob, AP⟩ := Oa.it
           obtain ⟨⟨Y0, f0, rfl⟩, ⟨Y1, f1, rfl⟩, ⟨Y2, f2, rfl⟩, ⟨Y3, f3, rfl⟩⟩ := Os.shapes
           obtain ⟨Q0, e0, rfl, -, -⟩ := Lp.o0.formR
           obtain ⟨Q1, e1, rfl, -, -⟩ := Lp.o1.formR
           obtain ⟨Q2, e2, rfl, -, -⟩ := Lp.o2.formR
           obtain ⟨Q3, e3, rfl, -, -⟩ := Lp.o3.formR
           obtain ⟨Ab, cb, -, rfl, -⟩ := Ob.open_
           clear Oa)
        | ((with_reducible refine load_agent (x := 2) (g := w.heap.size) (cs := agC p0 p1 p2 p3 d.l d.p d.t s.ph s.co s.ck s.bo s.ba s.lb s0 s1 s2 s3 s.gd s.pr b) ?_ Ha ?_ ?_)
           · rfl
           · exact HI.out))
      have hb3 : Below w9.heap.size w9 ((w9.alloc (.cells (agC (.slice none 0 0) (.slice none 0 0) (.slice none 0 0) (.slice none 0 0) 0 0 0 0 false 0 0 0 0 (.slice none 0 0) (.slice none 0 0) (.slice none 0 0) (.slice none 0 0) 0 0 (.slice none 0 0)) 69)).setRow w9.heap.size (agC (.slice Q0 d.n0 e0) (.slice Q1 d.n1 e1) (.slice Q2 d.n2 e2) (.slice Q3 d.n3 e3) d.l d.p d.t s.ph s.co s.ck s.bo s.ba s.lb (.slice Y0 s.pods.length f0) (.slice Y1 s.mnts.length f1) (.slice Y2 s.devs.length f2) (.slice Y3 s.lks.length f3) s.gd s.pr (.slice Ab st.length cb))) := below_setRow ((Below.refl _ _).alloc (Nat.le_refl _) _) (Nat.le_refl _) _
      have H11 : ((w9.alloc (.cells (agC (.slice none 0 0) (.slice none 0 0) (.slice none 0 0) (.slice none 0 0) 0 0 0 0 false 0 0 0 0 (.slice none 0 0) (.slice none 0 0) (.slice none 0 0) (.slice none 0 0) 0 0 (.slice none 0 0)) 69)).setRow w9.heap.size (agC (.slice Q0 d.n0 e0) (.slice Q1 d.n1 e1) (.slice Q2 d.n2 e2) (.slice Q3 d.n3 e3) d.l d.p d.t s.ph s.co s.ck s.bo s.ba s.lb (.slice Y0 s.pods.length f0) (.slice Y1 s.mnts.length f1) (.slice Y2 s.devs.length f2) (.slice Y3 s.lks.length f3) s.gd s.pr (.slice Ab st.length cb))).heap[w9.heap.size]? = some (.cells (agC (.slice Q0 d.n0 e0) (.slice Q1 d.n1 e1) (.slice Q2 d.n2 e2) (.slice Q3 d.n3 e3) d.l d.p d.t s.ph s.co s.ck s.bo s.ba s.lb (.slice Y0 s.pods.length f0) (.slice Y1 s.mnts.length f1) (.slice Y2 s.devs.length f2) (.slice Y3 s.lks.length f3) s.gd s.pr (.slice Ab st.length cb)) 69) := setRow_heap _ _ _ _ _ _ (heap_alloc_new w9 _)
      have hg11 := T9.O.z
      have hz11 : w9.heap.size < ((w9.alloc (.cells (agC (.slice none 0 0) (.slice none 0 0) (.slice none 0 0) (.slice none 0 0) 0 0 0 0 false 0 0 0 0 (.slice none 0 0) (.slice none 0 0) (.slice none 0 0) (.slice none 0 0) 0 0 (.slice none 0 0)) 69)).setRow w9.heap.size (agC (.slice Q0 d.n0 e0) (.slice Q1 d.n1 e1) (.slice Q2 d.n2 e2) (.slice Q3 d.n3 e3) d.l d.p d.t s.ph s.co s.ck s.bo s.ba s.lb (.slice Y0 s.pods.length f0) (.slice Y1 s.mnts.length f1) (.slice Y2 s.devs.length f2) (.slice Y3 s.lks.length f3) s.gd s.pr (.slice Ab st.length cb))).heap.size := (Array.getElem?_eq_some_iff.1 H11).1
      have T3 := T9.step hb3
      have Ha3 := (hb3.block _ T9.A.z).trans Ha9
      have H43 := (hb3.block _ T9.O.z).trans H49
      replace Lp := Lp.below hb3
      replace O2 := (O2.below hb9).below hb3
      have K13 := (hb2.trans (hb9.mono hb2.size)).trans (hb3.mono (hb2.trans (hb9.mono hb2.size)).size)
      have hle1 := (hb2.trans (hb9.mono hb2.size)).size
      have X11 : Own w _ w9.heap.size (agC (.slice Q0 d.n0 e0) (.slice Q1 d.n1 e1) (.slice Q2 d.n2 e2) (.slice Q3 d.n3 e3) d.l d.p d.t s.ph s.co s.ck s.bo s.ba s.lb (.slice Y0 s.pods.length f0) (.slice Y1 s.mnts.length f1) (.slice Y2 s.devs.length f2) (.slice Y3 s.lks.length f3) s.gd s.pr (.slice Ab st.length cb)) := ⟨T3.A.K, hz11, fun o => cell_of_row _ _ _ _ _ _ H11, fun o => frozen_of_row _ _ _ _ _ H11⟩
      clear hb2 hb9 hb3 T2 T9 Ha9 H49 Ha H4 Os Ob
      generalize (w9.alloc (.cells (agC (.slice none 0 0) (.slice none 0 0) (.slice none 0 0) (.slice none 0 0) 0 0 0 0 false 0 0 0 0 (.slice none 0 0) (.slice none 0 0) (.slice none 0 0) (.slice none 0 0) 0 0 (.slice none 0 0)) 69)).setRow w9.heap.size (agC (.slice Q0 d.n0 e0) (.slice Q1 d.n1 e1) (.slice Q2 d.n2 e2) (.slice Q3 d.n3 e3) d.l d.p d.t s.ph s.co s.ck s.bo s.ba s.lb (.slice Y0 s.pods.length f0) (.slice Y1 s.mnts.length f1) (.slice Y2 s.devs.length f2) (.slice Y3 s.lks.length f3) s.gd s.pr (.slice Ab st.length cb)) = w3 at H11 hz11 T3 Ha3 H43 Lp O2 K13 X11 ⊢
      generalize w9.heap.size = g11 at H11 hz11 hg11 hle1 X11 ⊢
      have hC11 := X11.C
      have hF11 := X11.F
      go_upto_region 9 with fail
      have kk : Keeps (· = g11) w3 (w3.setCell ⟨g11, 19, none⟩ (.slice Bb xb.length ce)) := (Keeps.refl (· = g11) w3).set (p := ⟨g11, 19, none⟩) rfl _
      have H114 := heap_setCell_same w3 g11 19 _ _ (.slice Bb xb.length ce) H11
      simp only [List.setIfInBounds_toArray, List.set_cons_zero, List.set_cons_succ] at H114
      have TA4 := T3.A.farKeeps kk (by omega) (by omega)
      have TO4 := T3.O.farKeeps kk (by omega) (by omega)
      have Ha4 := (kk.block _ T3.A.z (by show ¬ w.heap.size = g11; omega)).trans Ha3
      have H44 := (kk.block _ T3.O.z (by show ¬ w.heap.size + 1 + 1 = g11; omega)).trans H43
      have Lp4 := Lp.keeps kk H11 (by decide)
      have O24 := O2.keepsT kk H11 (by decide)
      have K14 : Below w1.heap.size w1 (w3.setCell ⟨g11, 19, none⟩ (.slice Bb xb.length ce)) := K13.setCell hle1 _
      have hz14 : g11 < (w3.setCell ⟨g11, 19, none⟩ (.slice Bb xb.length ce)).heap.size := by simpa [World.setCell] using hz11
      clear T3 Ha3 H43 Lp O2 K13 X11 hC11 hF11 kk H11 hz11
      generalize w3.setCell ⟨g11, 19, none⟩ (.slice Bb xb.length ce) = w4 at H114 TA4 TO4 Ha4 H44 Lp4 O24 K14 hz14 ⊢
      have hC4 := TA4.C
      go_wp2_with fail
      have hl6 := l6All_any _ _ _ d s L w4 ((HP.out.below TA4.K (Nat.le_refl _)).more TA4.K.size).is ((HS.out.below TA4.K (Nat.le_refl _)).more TA4.K.size) ((RT.out.below K14 (Nat.le_refl _)).more K14.size) HOK.out
      rw [HALL.out] at hl6
      refine hl6.mono ?_
      clear hl6
      rintro e w5 ⟨v5, h5, O5, hb5⟩
      dsimp only at h5 O5
      subst h5
      have O5b := O5.base TA4.K.size
      obtain ⟨u0, u1, u2, u3, rfl, z0, z1, z2, z3⟩ := O5.it
      have AP5 := apart_of Lp4.o1 z3
      clear O5
      have O5 := O5b
      clear O5b
      obtain ⟨Z0, h0, rfl, -⟩ := open_rowR z0
      obtain ⟨Z1, h1, rfl, -⟩ := open_rowR z1
      obtain ⟨Z2, h2, rfl, -⟩ := open_rowR z2
      obtain ⟨Z3, h3, rfl, -⟩ := open_rowR z3
      clear z0 z1 z2 z3 hC4
      have H115 := (hb5.block _ hz14).trans H114
      have hC11 : ∀ o, w5.cell? ⟨g11, o, none⟩ = (agC (.slice Q0 d.n0 e0) (.slice Q1 d.n1 e1) (.slice Q2 d.n2 e2) (.slice Q3 d.n3 e3) d.l d.p d.t s.ph s.co s.ck s.bo s.ba s.lb (.slice Y0 s.pods.length f0) (.slice Y1 s.mnts.length f1) (.slice Y2 s.devs.length f2) (.slice Y3 s.lks.length f3) s.gd s.pr (.slice Bb xb.length ce))[o]? := fun o => cell_of_row _ _ _ _ _ _ H115
      have hF11 : ∀ o, w5.frozen? ⟨g11, o, none⟩ = false := fun o => frozen_of_row _ _ _ _ _ H115
      have hz15 : g11 < w5.heap.size := Nat.lt_of_lt_of_le hz14 hb5.size
      go_upto_region 11 with fail
      have kk := keeps_put7 w5 g11 (.int .i64 x.ph) (.bool x.co) (.int .i64 x.ck) (.int .i64 x.bo) (.int .i64 x.ba) (.int .i64 x.lb) (.slice Z0 x.pods.length h0) (.slice Z1 x.mnts.length h1) (.slice Z2 x.devs.length h2) (.slice Z3 x.lks.length h3) (.int .i64 x.gd) (.int .i64 x.pr)
      have H117_ := heap_put7 (y0 := .int .i64 x.ph) (y1 := .bool x.co) (y2 := .int .i64 x.ck) (y3 := .int .i64 x.bo) (y4 := .int .i64 x.ba) (y5 := .int .i64 x.lb) (y6 := .slice Z0 x.pods.length h0) (y7 := .slice Z1 x.mnts.length h1) (y8 := .slice Z2 x.devs.length h2) (y9 := .slice Z3 x.lks.length h3) (y10 := .int .i64 x.gd) (y11 := .int .i64 x.pr) H115
      have hz17 := (Array.getElem?_eq_some_iff.1 H117_).1
      have TO6_ := (TO4.step hb5).farKeeps kk (by omega) (by omega)
      have H46_ := (kk.block _ (TO4.step hb5).z (by show ¬ w.heap.size + 1 + 1 = g11; omega)).trans ((hb5.block _ TO4.z).trans H44)
      have Lp6_ := (Lp4.below hb5).keeps kk H115 (by decide)
      have O26_ := (O24.below hb5).keepsT kk H115 (by decide)
      have O56_ := O5.keepsT kk H115 (by decide)
      have hb6 : Below (put7 w5 g11 (.int .i64 x.ph) (.bool x.co) (.int .i64 x.ck) (.int .i64 x.bo) (.int .i64 x.ba) (.int .i64 x.lb) (.slice Z0 x.pods.length h0) (.slice Z1 x.mnts.length h1) (.slice Z2 x.devs.length h2) (.slice Z3 x.lks.length h3) (.int .i64 x.gd) (.int .i64 x.pr)).heap.size (put7 w5 g11 (.int .i64 x.ph) (.bool x.co) (.int .i64 x.ck) (.int .i64 x.bo) (.int .i64 x.ba) (.int .i64 x.lb) (.slice Z0 x.pods.length h0) (.slice Z1 x.mnts.length h1) (.slice Z2 x.devs.length h2) (.slice Z3 x.lks.length h3) (.int .i64 x.gd) (.int .i64 x.pr)) ((put7 w5 g11 (.int .i64 x.ph) (.bool x.co) (.int .i64 x.ck) (.int .i64 x.bo) (.int .i64 x.ba) (.int .i64 x.lb) (.slice Z0 x.pods.length h0) (.slice Z1 x.mnts.length h1) (.slice Z2 x.devs.length h2) (.slice Z3 x.lks.length h3) (.int .i64 x.gd) (.int .i64 x.pr)).alloc (.cells (stC Z0 Z1 Z2 Z3 x.pods.length h0 x.mnts.length h1 x.devs.length h2 x.lks.length h3 x.ph x.co x.ck x.bo x.ba x.lb x.gd x.pr) 34)) := (Below.refl _ _).alloc (Nat.le_refl _) _
      have H117 := (hb6.block _ hz17).trans H117_
      have TO6 := TO6_.step hb6
      have H46 := (hb6.block _ TO6_.z).trans H46_
      have Lp6 := Lp6_.below hb6
      have O26 := O26_.below hb6
      have O56 := O56_.below hb6
      clear hb6 TA4 TO4 Ha4 H44 Lp4 O24 K14 hz14 H114 H115 hC11 hF11 hz15 O5 hb5 kk H117_ hz17 TO6_ H46_ Lp6_ O26_ O56_
      obtain ⟨w6, hw6⟩ : ∃ W, (put7 w5 g11 (.int .i64 x.ph) (.bool x.co) (.int .i64 x.ck) (.int .i64 x.bo) (.int .i64 x.ba) (.int .i64 x.lb) (.slice Z0 x.pods.length h0) (.slice Z1 x.mnts.length h1) (.slice Z2 x.devs.length h2) (.slice Z3 x.lks.length h3) (.int .i64 x.gd) (.int .i64 x.pr)).alloc (.cells (stC Z0 Z1 Z2 Z3 x.pods.length h0 x.mnts.length h1 x.devs.length h2 x.lks.length h3 x.ph x.co x.ck x.bo x.ba x.lb x.gd x.pr) 34) = W := ⟨_, rfl⟩
      rw [hw6] at H117 TO6 H46 Lp6 O26 O56
      dsimp only [put7] at hw6
      rw [hw6]
      clear hw6
      go_wp2_with (first
        | ((with_reducible refine store_agent (x := 4) (y := 54) (g := w.heap.size + 1 + 1) (cs := agC (.slice Q0 d.n0 e0) (.slice Q1 d.n1 e1) (.slice Q2 d.n2 e2) (.slice Q3 d.n3 e3) d.l d.p d.t x.ph x.co x.ck x.bo x.ba x.lb (.slice Z0 x.pods.length h0) (.slice Z1 x.mnts.length h1) (.slice Z2 x.devs.length h2) (.slice Z3 x.lks.length h3) x.gd x.pr (.slice Bb xb.length ce)) ?_ ?_ H46 ?_ ?_ ?_ ?_)
           · rfl
           · rfl
           · exact HI.out
           · rfl
           · simp [Value.oneCell'])
        | ((with_reducible refine load_agent (x := 11) (g := g11) (cs := agC (.slice Q0 d.n0 e0) (.slice Q1 d.n1 e1) (.slice Q2 d.n2 e2) (.slice Q3 d.n3 e3) d.l d.p d.t x.ph x.co x.ck x.bo x.ba x.lb (.slice Z0 x.pods.length h0) (.slice Z1 x.mnts.length h1) (.slice Z2 x.devs.length h2) (.slice Z3 x.lks.length h3) x.gd x.pr (.slice Bb xb.length ce)) ?_ H117 ?_ ?_)
           · rfl
           · exact HI.out))
      have KS : Keeps (· = w.heap.size + 1 + 1) w6 (w6.setRow (w.heap.size + 1 + 1) (agC (.slice Q0 d.n0 e0) (.slice Q1 d.n1 e1) (.slice Q2 d.n2 e2) (.slice Q3 d.n3 e3) d.l d.p d.t x.ph x.co x.ck x.bo x.ba x.lb (.slice Z0 x.pods.length h0) (.slice Z1 x.mnts.length h1) (.slice Z2 x.devs.length h2) (.slice Z3 x.lks.length h3) x.gd x.pr (.slice Bb xb.length ce))) := keeps_setRow ..
      rw [HANS.out]
      exact bodyPost_ret (v := .tuple #[.agg (agC (.slice Q0 d.n0 e0) (.slice Q1 d.n1 e1) (.slice Q2 d.n2 e2) (.slice Q3 d.n3 e3) d.l d.p d.t x.ph x.co x.ck x.bo x.ba x.lb (.slice Z0 x.pods.length h0) (.slice Z1 x.mnts.length h1) (.slice Z2 x.devs.length h2) (.slice Z3 x.lks.length h3) x.gd x.pr (.slice Bb xb.length ce)), .int .i64 0]) (results_two_row Tryz.results64 _ _ _ _ _ _ _ _ rfl rfl (setRow_heap w6 _ _ _ _ _ H46) Tryz.underlying69 rfl HI.out) rfl ⟨_, rfl, ⟨_, _, _, _, _, _, _, _, _, rfl, Lp6.keeps KS H46 (by decide), O56.keepsT KS H46 (by decide), O26.keepsT KS H46 (by decide), AP5⟩, below_setRow TO6.K (by omega) _⟩
  · have hcb : (c != 0) = true := by simp [hc]
    have HANS : Hid (ans = ((s, st), c)) := Lib.hid (by rw [← HA0.out]; unfold obeyD; rw [HLC.out]; exact if_neg hc)
    clear hc
    go_upto_region 3 with fail
    go_wp2_with (first
      | (have hq := H49
         clear hq
         (with_reducible refine store_agent (x := 4) (y := 26) (g := w.heap.size + 1 + 1) (cs := agC (.slice Q0 d.n0 e0) (.slice Q1 d.n1 e1) (.slice Q2 d.n2 e2) (.slice Q3 d.n3 e3) d.l d.p d.t s.ph s.co s.ck s.bo s.ba s.lb (.slice Y0 s.pods.length f0) (.slice Y1 s.mnts.length f1) (.slice Y2 s.devs.length f2) (.slice Y3 s.lks.length f3) s.gd s.pr (.slice Ab st.length cb)) ?_ ?_ H49 ?_ ?_ ?_ ?_)
         · rfl
         · rfl
         · exact HI.out
         · rfl
         · simp [Value.oneCell'])
      | (go_at_call 106
         refine (l15Copy_any _ d s st _ ((HAG.out.below T1.A.K (Nat.le_refl _)).more T1.A.K.size) (by omega)).mono ?_
         rintro e w9 ⟨v9, rfl, Oa, hb9⟩
         replace Oa := Oa.base T1.A.K.size
         have T9 := T1.step hb9
         have Ha9 := (hb9.block _ T1.A.z).trans Ha
         have H49 := (hb9.block _ T1.O.z).trans H4
         obtain ⟨p0_, p1_, p2_, p3_, s0_, s1_, s2_, s3_, b_, rfl, Lp, Os, Ob, AP⟩ := Oa.it
         obtain ⟨⟨Y0, f0, rfl⟩, ⟨Y1, f1, rfl⟩, ⟨Y2, f2, rfl⟩, ⟨Y3, f3, rfl⟩⟩ := Os.shapes
         obtain ⟨Q0, e0, rfl, -, -⟩ := Lp.o0.formR
         obtain ⟨Q1, e1, rfl, -, -⟩ := Lp.o1.formR
         obtain ⟨Q2, e2, rfl, -, -⟩ := Lp.o2.formR
         obtain ⟨Q3, e3, rfl, -, -⟩ := Lp.o3.formR
         obtain ⟨Ab, cb, -, rfl, -⟩ := Ob.open_
         clear Oa)
      | ((with_reducible refine load_agent (x := 2) (g := w.heap.size) (cs := agC p0 p1 p2 p3 d.l d.p d.t s.ph s.co s.ck s.bo s.ba s.lb s0 s1 s2 s3 s.gd s.pr b) ?_ Ha ?_ ?_)
         · rfl
         · exact HI.out))
    have KS : Keeps (· = w.heap.size + 1 + 1) w9 (w9.setRow (w.heap.size + 1 + 1) (agC (.slice Q0 d.n0 e0) (.slice Q1 d.n1 e1) (.slice Q2 d.n2 e2) (.slice Q3 d.n3 e3) d.l d.p d.t s.ph s.co s.ck s.bo s.ba s.lb (.slice Y0 s.pods.length f0) (.slice Y1 s.mnts.length f1) (.slice Y2 s.devs.length f2) (.slice Y3 s.lks.length f3) s.gd s.pr (.slice Ab st.length cb))) := keeps_setRow ..
    rw [HANS.out]
    exact bodyPost_ret (v := .tuple #[.agg (agC (.slice Q0 d.n0 e0) (.slice Q1 d.n1 e1) (.slice Q2 d.n2 e2) (.slice Q3 d.n3 e3) d.l d.p d.t s.ph s.co s.ck s.bo s.ba s.lb (.slice Y0 s.pods.length f0) (.slice Y1 s.mnts.length f1) (.slice Y2 s.devs.length f2) (.slice Y3 s.lks.length f3) s.gd s.pr (.slice Ab st.length cb)), .int .i64 c]) (results_two_row Tryz.results64 _ _ _ _ _ _ _ _ rfl rfl (setRow_heap w9 _ _ _ _ _ H49) Tryz.underlying69 rfl HI.out) rfl ⟨_, rfl, ⟨_, _, _, _, _, _, _, _, _, rfl, Lp.keeps KS H49 (by decide), Os.keepsT KS H49 (by decide), Ob.keepsT KS H49 (by decide), AP⟩, below_setRow T9.O.K (by omega) _⟩

end Go.Proofs.YtbcaginjibnngaaGreatDoor
/- Tj -/
set_option linter.unusedVariables false
namespace Go.Proofs.YtbcaginjibnngaaGreatDoor
open Go.RowKit

end Go.Proofs.YtbcaginjibnngaaGreatDoor
/- Tk -/
set_option linter.unusedVariables false
namespace Go.Proofs.YtbcaginjibnngaaGreatDoor
open Go.RowKit

/-- A machine that is coming back has probes left. -/
def Prb (d : PlanD) (s : StD) : Prop := (s.ph = 6 ∨ s.ph = 7) → s.pr < d.t
theorem run_fold {d : PlanD} : ∀ {l : List RecD} {s x : StD}, runR d s l = some x → x = l.foldl applyR s
  | [], s, x, hx => by cases hx; rfl
  | r :: l, s, x, hx => by
    simp only [runR] at hx
    split at hx
    · exact (run_fold hx : x = l.foldl applyR (applyR s r))
    · cases hx
/-- Lists of records, one list after the other. -/
def runLs (d : PlanD) : StD → List (List RecD) → Option StD
  | s, [] => some s
  | s, l :: ls => (runR d s l).bind fun x => runLs d x ls
theorem runLs_ok {d : PlanD} : ∀ {ls : List (List RecD)} {s x : StD}, StOk d s → runLs d s ls = some x → StOk d x
  | [], s, x, h, hx => by cases hx; exact h
  | l :: ls, s, x, h, hx => by
    simp only [runLs] at hx
    cases hr : runR d s l with
    | none => rw [hr] at hx; cases hx
    | some y => rw [hr] at hx; exact runLs_ok (runR_ok h hr) hx
/-- An agent: its store is whole frames, and makes its state. -/
structure AgD (d : PlanD) (s : StD) (st : List Nat) : Prop where
  plan : planOkB d = true
  len : st.length ≤ 1200
  it : ∃ ls, framesN st = (ls, st.length) ∧ runLs d (newS d) ls = some s
  prb : Prb d s
theorem AgD.ok {d : PlanD} {s : StD} {st : List Nat} (h : AgD d s st) : StOk d s := by
  obtain ⟨ls, -, hr⟩ := h.it
  exact runLs_ok (newS_ok h.plan) hr
end Go.Proofs.YtbcaginjibnngaaGreatDoor
