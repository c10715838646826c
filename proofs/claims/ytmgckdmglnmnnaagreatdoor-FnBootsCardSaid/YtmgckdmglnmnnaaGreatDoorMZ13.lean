/-
  A machine's whole life as data (FnLifted): whatever is said, also another boot and probes; the cordon is lifted by a cancel or by the last of so many good probes.
-/
import Derived.Test.YtmgckdmglnmnnaaGreatDoorMZ11
import Derived.Test.YtmgckdmglnmnnaaGreatDoorMZxWo
import Derived.Test.YtmgckdmglnmnnaaGreatDoorMZxZf
import Derived.Test.YtmgckdmglnmnnaaGreatDoorMZ3
import Derived.Test.YtmgckdmglnmnnaaGreatDoorMZxTr
/- Zg -/
set_option linter.unusedVariables false
namespace Go.Proofs.YtmgckdmglnmnnaaGreatDoor
open Go.RowKit

/-- What an agent's store is then, and where the last frame begins. -/
def writeD (s : StD) (st : List Nat) (l : List RecD) : Option (List Nat × Nat) :=
  if writeB l then
    (if st.length + (framedD l).length ≤ 1200 then some (st ++ framedD l, st.length)
     else if (framedD (snapL s)).length + (framedD l).length ≤ 1200 then some (framedD (snapL s) ++ framedD l, (framedD (snapL s)).length) else none)
  else none
theorem writeD_len {s : StD} {st : List Nat} {l : List RecD} {x : List Nat × Nat} (h : writeD s st l = some x) : x.1.length ≤ 1200 := by
  unfold writeD at h
  split at h
  · split at h
    · cases h
      simp only [List.length_append]
      omega
    · split at h
      · cases h
        simp only [List.length_append]
        omega
      · cases h
  · cases h
/-- Behind l15Write. -/
def Written (w : World) (a : Option (List Nat × Nat)) (e : Ending) (w' : World) : Prop :=
  Below w.heap.size w w' ∧ match a with
    | some (x, k) => ∃ v, e = .returned (.tuple #[v, .int .i64 k, .bool true]) ∧ OB w' w.heap.size v x
    | none => ∃ v, e = .returned (.tuple #[v, .int .i64 0, .bool false])
theorem Written.yes {w w' : World} {x : List Nat} {k : Nat} {v : Value} (hb : Below w.heap.size w w') (h : OB w' w.heap.size v x) : Written w (some (x, k)) (.returned (.tuple #[v, .int .i64 k, .bool true])) w' := ⟨hb, v, rfl, h⟩
theorem Written.no {w w' : World} {v : Value} (hb : Below w.heap.size w w') : Written w none (.returned (.tuple #[v, .int .i64 0, .bool false])) w' := ⟨hb, v, rfl⟩
end Go.Proofs.YtmgckdmglnmnnaaGreatDoor
/- Zh -/
set_option linter.unusedVariables false
namespace Go.Proofs.YtmgckdmglnmnnaaGreatDoor
open Go.RowKit

theorem framedD_le2 (l : List RecD) : (framedD l).length ≤ 727 := by
  unfold framedD
  split
  · rw [frameN_length]
    have := wroteN_len l
    omega
  · simp

set_option maxRecDepth 100000 in
set_option maxHeartbeats 8000000 in
theorem l15Write_any (v rv : Value) (d : PlanD) (s : StD) (st : List Nat) (l : List RecD) (w : World) (h : IsAg w w.heap.size v d s st) (hr : Rt w w.heap.size rv l) (hsz : s.pods.length ≤ 12 ∧ s.mnts.length ≤ 12 ∧ s.devs.length ≤ 12 ∧ s.lks.length ≤ 12) (hst : st.length ≤ 1200) :
    Calls Tryz.prog 84 #[v, rv] w (Written w (writeD s st l)) := by
  obtain ⟨p0, p1, p2, p3, s0, s1, s2, s3, b, rfl, hp, hs, hb, hre⟩ := h.it
  obtain ⟨Ab, cb, rfl, hcap⟩ : ∃ A c, b = .slice A st.length c ∧ st.length ≤ c := by
    obtain ⟨⟨A, c, e, hc, -⟩, -, -⟩ := hb
    exact ⟨A, c, e, hc⟩
  have HS := Lib.hid hs
  have HB := Lib.hid hb
  have HR := Lib.hid hre
  have HL := Lib.hid hr
  have HSZ := Lib.hid hsz
  have hf1 := framedD_le2 l
  have hf2 := framedD_le2 (snapL s)
  obtain ⟨ans, hans⟩ : ∃ ans, writeD s st l = ans := ⟨_, rfl⟩
  rw [hans]
  have HA0 := Lib.hid hans
  have X0 := Own.box w (agC p0 p1 p2 p3 d.l d.p d.t s.ph s.co s.ck s.bo s.ba s.lb s0 s1 s2 s3 s.gd s.pr (.slice Ab st.length cb)) 73
  clear h hp hs hb hre hr hsz hans
  go_enter Tryz.func84, Tryz.ntmps84
  go_wp2_with fail
  generalize w.alloc (.cells (agC p0 p1 p2 p3 d.l d.p d.t s.ph s.co s.ck s.bo s.ba s.lb s0 s1 s2 s3 s.gd s.pr (.slice Ab st.length cb)) 73) = w0 at X0 ⊢
  refine (specFramed_any rv l w0 ((HL.out.below X0.K (Nat.le_refl _)).more X0.K.size)).mono ?_
  rintro e w1 ⟨v1, rfl, O1, hb⟩
  have X1 := X0.step hb
  have HBf := Lib.hid O1.bt
  have Rf := Lib.hid O1.real
  obtain ⟨A1, c1, -, rfl, hc1, -⟩ := O1.open_
  clear X0 hb O1
  cases hw : writeB l
  · have HA : Hid (ans = none) := Lib.hid (by rw [← HA0.out]; unfold writeD; rw [hw]; rfl)
    clear hw
    go_wp2_with fail
    go_ret3
    rw [HA.out]
    exact Written.no (X1.K.alloc X1.K.size _)
  · have HW := Lib.hid hw
    clear hw
    have hC := X1.C
    have i0 : (st.length : Int) ≤ 1200 := by omega
    have i1 : ((framedD l).length : Int) ≤ 727 := by omega
    by_cases h1 : st.length + (framedD l).length ≤ 1200
    · have HA : Hid (ans = some (st ++ framedD l, st.length)) := Lib.hid (by rw [← HA0.out]; unfold writeD; rw [HW.out, if_pos h1]; rfl)
      have i2 : (st.length : Int) + ((framedD l).length : Int) ≤ 1200 := by omega
      have HK_w1 := Lib.hid (Below.refl w1.heap.size w1)
      go_wp2_with (first
        | (at_builtin
           have hq := O8
           clear hq
           refine wpList_append_bt rfl _ _ rfl w.heap.size _ (st) rfl O8 (.slice A1 (framedD l).length c1) (framedD l) rfl (HBf.out.below K8 (Nat.le_refl _)) Rf.out (by omega) (Nat.le_trans T8.K.size (Nat.le_refl _)) ?_
           intro v9 w9 O9 hg9)
        | (at_builtin
           refine wpList_append_bt rfl _ _ rfl w.heap.size _ [] rfl (OB.empty X1.K.size) (.slice Ab st.length cb) (st) rfl ((HB.out.below (X1.K.alloc X1.K.size _) (Nat.le_refl _))) HR.out (by simp; omega) (X1.K.alloc X1.K.size _).size ?_
           intro v8 w8 O8 hg8
           replace O8 : OB w8 w.heap.size v8 (st) := by simpa using O8
           have hb8 : Below w1.heap.size w1 w8 := ((Below.refl _ _).alloc (Nat.le_refl _) _).grown hg8 (by simp) (fun r hr => Nat.le_of_eq (Option.some.inj hr))
           have K8 := HK_w1.out.trans (hb8.mono HK_w1.out.size)
           have T8 := X1.step hb8
           clear hg8 hb8))
      have KW : Below w.heap.size w w9 := T8.K.grown hg9 T8.K.size (fun r hr => (OB.lt O8 hr).1)
      go_ret3
      rw [HA.out]
      exact Written.yes KW O9
    · have h1' : (1200 : Int) < (st.length : Int) + ((framedD l).length : Int) := by omega
      have H1 := Lib.hid h1
      clear h1
      go_wp2_with fail
      refine (l14Snap_any _ s w1 ((HS.out.below X1.K (Nat.le_refl _)).more X1.K.size).is HSZ.out).mono ?_
      rintro e w2 ⟨v2, rfl, O2, hb⟩
      have X2 := X1.step hb
      have HK_w2 := Lib.hid hb
      have RS := Lib.hid O2.rt
      clear hb O2 X1 hC
      go_wp2_with fail
      refine (specFramed_any v2 (snapL s) w2 RS.out).mono ?_
      rintro e w3 ⟨v3, rfl, O3, hb⟩
      have X3 := X2.step hb
      have HK_w3 := Lib.hid (HK_w2.out.trans (hb.mono HK_w2.out.size))
      have HBo := Lib.hid O3.bt
      have Ro := Lib.hid O3.real
      obtain ⟨A3, c3, -, rfl, hc3, -⟩ := O3.open_
      clear X2 hb O3
      have i3 : ((framedD (snapL s)).length : Int) ≤ 727 := by omega
      by_cases h2 : (framedD (snapL s)).length + (framedD l).length ≤ 1200
      · have HA : Hid (ans = some (framedD (snapL s) ++ framedD l, (framedD (snapL s)).length)) := Lib.hid (by rw [← HA0.out]; unfold writeD; rw [HW.out, if_neg H1.out, if_pos h2]; rfl)
        have i4 : ((framedD (snapL s)).length : Int) + ((framedD l).length : Int) ≤ 1200 := by omega
        go_wp2_with (first
          | (at_builtin
             have hq := O8
             clear hq
             refine wpList_append_bt rfl _ _ rfl w.heap.size _ (framedD (snapL s)) rfl O8 (.slice A1 (framedD l).length c1) (framedD l) rfl (HBf.out.below K8 (Nat.le_refl _)) Rf.out (by omega) (Nat.le_trans T8.K.size (Nat.le_refl _)) ?_
             intro v9 w9 O9 hg9)
          | (at_builtin
             refine wpList_append_bt rfl _ _ rfl w.heap.size _ [] rfl (OB.empty X3.K.size) (.slice A3 (framedD (snapL s)).length c3) (framedD (snapL s)) rfl ((HBo.out.below ((Below.refl _ _).alloc (Nat.le_refl _) _) (Nat.le_refl _))) Ro.out (by simp; omega) (X3.K.alloc X3.K.size _).size ?_
             intro v8 w8 O8 hg8
             replace O8 : OB w8 w.heap.size v8 (framedD (snapL s)) := by simpa using O8
             have hb8 : Below w3.heap.size w3 w8 := ((Below.refl _ _).alloc (Nat.le_refl _) _).grown hg8 (by simp) (fun r hr => Nat.le_of_eq (Option.some.inj hr))
             have K8 := HK_w3.out.trans (hb8.mono HK_w3.out.size)
             have T8 := X3.step hb8
             clear hg8 hb8))
        have KW : Below w.heap.size w w9 := T8.K.grown hg9 T8.K.size (fun r hr => (OB.lt O8 hr).1)
        go_ret3
        rw [HA.out]
        exact Written.yes KW O9
      · have HA : Hid (ans = none) := Lib.hid (by rw [← HA0.out]; unfold writeD; rw [HW.out, if_neg H1.out, if_neg h2]; rfl)
        have i4 : (1200 : Int) < ((framedD (snapL s)).length : Int) + ((framedD l).length : Int) := by omega
        go_wp2_with fail
        go_ret3
        rw [HA.out]
        exact Written.no (X3.K.alloc X3.K.size _)
end Go.Proofs.YtmgckdmglnmnnaaGreatDoor
/- Zi -/
set_option linter.unusedVariables false
namespace Go.Proofs.YtmgckdmglnmnnaaGreatDoor
open Go.RowKit

/-- Chapter 15: what an agent makes of an order, of a right state. -/
def obeyD (d : PlanD) (s : StD) (st : List Nat) (k a b : Int) : (StD × List Nat) × Int :=
  if (plannedD d s k a b).2 = 0 then
    (match writeD s st (plannedD d s k a b).1 with
     | some x => (((allS d s (plannedD d s k a b).1).1, x.1), 0)
     | none => ((s, st), 8))
  else ((s, st), (plannedD d s k a b).2)
theorem all_ok {d : PlanD} {s : StD} {l : List RecD} (h : StOk d s) : StOk d (allS d s l).1 := by
  unfold allS
  split
  · rename_i x hx
    exact runR_ok h hx
  · exact h
theorem obey_ok {d : PlanD} {s : StD} {st : List Nat} {k a b : Int} (h : StOk d s) (hst : st.length ≤ 1200) : StOk d (obeyD d s st k a b).1.1 ∧ (obeyD d s st k a b).1.2.length ≤ 1200 := by
  unfold obeyD
  split
  · split
    · rename_i x hx
      exact ⟨all_ok h, writeD_len hx⟩
    · exact ⟨h, hst⟩
  · exact ⟨h, hst⟩
theorem st_small {d : PlanD} {t : StD} (h : StOk d t) : t.pods.length ≤ 12 ∧ t.mnts.length ≤ 12 ∧ t.devs.length ≤ 12 ∧ t.lks.length ≤ 12 := by
  have hp := h.plan
  have h1 := h.np
  have h2 := h.nm
  have h3 := h.nd
  simp only [planOkB, sizesB, Bool.and_eq_true, decide_eq_true_eq] at hp
  have h4 : t.lks.length ≤ 8 := by
    have hr := h.rise
    have hl := h.lks
    have := rise_len (a := 0) hr hl (by omega)
    omega
  omega
theorem load_agent {ops : Array Oper} {rest : List Oper} {dst : Option Tmp} {ty : TypeId} {pos : String} {after : Array Edge} {a : Act} {w : World} {Q : Exit → Act → World → Prop} {g x : Nat} {cs : Array Value}
    (hx : a.eval (.tmp x) = .pointer (some ⟨g, 0, none⟩)) (hg : w.heap[g]? = some (.cells cs 73)) (hi : (Tryz.prog.info? 73).map (·.size) = some cs.size)
    (h : wpList Tryz.prog ops Q rest (a.put dst (.agg cs)) w) : wpList Tryz.prog ops Q (Oper.mk dst (.load 73 (.tmp x)) ty pos after none :: rest) a w :=
  wpList_load_row rfl 73 (.tmp x) rfl g hx _ cs _ _ hg Tryz.underlying73 rfl hi h
theorem store_agent {ops : Array Oper} {rest : List Oper} {dst : Option Tmp} {ty : TypeId} {pos : String} {after : Array Edge} {a : Act} {w : World} {Q : Exit → Act → World → Prop} {g x y : Nat} {cs old : Array Value}
    (hx : a.eval (.tmp x) = .pointer (some ⟨g, 0, none⟩)) (hy : a.eval (.tmp y) = .agg cs) (hg : w.heap[g]? = some (.cells old 73)) (hi : (Tryz.prog.info? 73).map (·.size) = some cs.size) (hold : old.size = cs.size) (h1 : cs.all (·.oneCell') = true)
    (h : wpList Tryz.prog ops Q rest (a.put dst undef) (w.setRow g cs)) : wpList Tryz.prog ops Q (Oper.mk dst (.store 73 (.tmp x) (.tmp y)) ty pos after none :: rest) a w :=
  wpList_store_row rfl 73 (.tmp x) (.tmp y) rfl g cs hx hy 73 old hg hi hold h1 h
theorem Own.setRow {w W : World} {g T : Nat} {cs old : Array Value} (h : Own w W g old) (hh : W.heap[g]? = some (.cells old T (0, 0))) (hg : w.heap.size ≤ g) : Own w (W.setRow g cs) g cs :=
  ⟨below_setRow h.K hg _, by rw [size_setRow]; exact h.z, fun o => cell_of_row _ _ _ _ _ _ (setRow_heap W g _ cs _ _ hh), fun o => frozen_of_row _ _ _ _ _ (setRow_heap W g _ cs _ _ hh)⟩
theorem Own.farKeeps {w w1 w2 : World} {g h : Nat} {cs : Array Value} (H : Own w w1 g cs) (k : Keeps (· = h) w1 w2) (h0 : w.heap.size ≤ h) (hn : g ≠ h) : Own w w2 g cs := H.keeps k (fun b hb => by omega) (fun e => hn e)
section
variable (W : World) (g : Nat) (y0 y1 y2 y3 y4 y5 y6 y7 y8 y9 y10 y11 : Value)
/-- The world with an agent's state set. -/
abbrev put7 : World := (((((((((((W.setCell ⟨g, 7, none⟩ y0).setCell ⟨g, 8, none⟩ y1).setCell ⟨g, 9, none⟩ y2).setCell ⟨g, 10, none⟩ y3).setCell ⟨g, 11, none⟩ y4).setCell ⟨g, 12, none⟩ y5).setCell ⟨g, 13, none⟩ y6).setCell ⟨g, 14, none⟩ y7).setCell ⟨g, 15, none⟩ y8).setCell ⟨g, 16, none⟩ y9).setCell ⟨g, 17, none⟩ y10).setCell ⟨g, 18, none⟩ y11
theorem keeps_put7 : Keeps (· = g) W (put7 W g y0 y1 y2 y3 y4 y5 y6 y7 y8 y9 y10 y11) := by
  unfold put7
  iterate 12 (refine Keeps.set (S := (· = g)) ?_ rfl _)
  exact Keeps.refl _ _
end
theorem heap_put7 {W : World} {g T : Nat} {x0 x1 x2 x3 x4 x5 x6 x7 x8 x9 x10 x11 x12 x13 x14 x15 x16 x17 x18 x19 y0 y1 y2 y3 y4 y5 y6 y7 y8 y9 y10 y11 : Value} (h : W.heap[g]? = some (.cells #[x0, x1, x2, x3, x4, x5, x6, x7, x8, x9, x10, x11, x12, x13, x14, x15, x16, x17, x18, x19] T (0, 0))) : (put7 W g y0 y1 y2 y3 y4 y5 y6 y7 y8 y9 y10 y11).heap[g]? = some (.cells #[x0, x1, x2, x3, x4, x5, x6, y0, y1, y2, y3, y4, y5, y6, y7, y8, y9, y10, y11, x19] T (0, 0)) := by
  unfold put7
  have h0 := heap_setCell_same W g 7 _ _ y0 h
  have h1 := heap_setCell_same (W.setCell ⟨g, 7, none⟩ y0) g 8 _ _ y1 h0
  have h2 := heap_setCell_same ((W.setCell ⟨g, 7, none⟩ y0).setCell ⟨g, 8, none⟩ y1) g 9 _ _ y2 h1
  have h3 := heap_setCell_same (((W.setCell ⟨g, 7, none⟩ y0).setCell ⟨g, 8, none⟩ y1).setCell ⟨g, 9, none⟩ y2) g 10 _ _ y3 h2
  have h4 := heap_setCell_same ((((W.setCell ⟨g, 7, none⟩ y0).setCell ⟨g, 8, none⟩ y1).setCell ⟨g, 9, none⟩ y2).setCell ⟨g, 10, none⟩ y3) g 11 _ _ y4 h3
  have h5 := heap_setCell_same (((((W.setCell ⟨g, 7, none⟩ y0).setCell ⟨g, 8, none⟩ y1).setCell ⟨g, 9, none⟩ y2).setCell ⟨g, 10, none⟩ y3).setCell ⟨g, 11, none⟩ y4) g 12 _ _ y5 h4
  have h6 := heap_setCell_same ((((((W.setCell ⟨g, 7, none⟩ y0).setCell ⟨g, 8, none⟩ y1).setCell ⟨g, 9, none⟩ y2).setCell ⟨g, 10, none⟩ y3).setCell ⟨g, 11, none⟩ y4).setCell ⟨g, 12, none⟩ y5) g 13 _ _ y6 h5
  have h7 := heap_setCell_same (((((((W.setCell ⟨g, 7, none⟩ y0).setCell ⟨g, 8, none⟩ y1).setCell ⟨g, 9, none⟩ y2).setCell ⟨g, 10, none⟩ y3).setCell ⟨g, 11, none⟩ y4).setCell ⟨g, 12, none⟩ y5).setCell ⟨g, 13, none⟩ y6) g 14 _ _ y7 h6
  have h8 := heap_setCell_same ((((((((W.setCell ⟨g, 7, none⟩ y0).setCell ⟨g, 8, none⟩ y1).setCell ⟨g, 9, none⟩ y2).setCell ⟨g, 10, none⟩ y3).setCell ⟨g, 11, none⟩ y4).setCell ⟨g, 12, none⟩ y5).setCell ⟨g, 13, none⟩ y6).setCell ⟨g, 14, none⟩ y7) g 15 _ _ y8 h7
  have h9 := heap_setCell_same (((((((((W.setCell ⟨g, 7, none⟩ y0).setCell ⟨g, 8, none⟩ y1).setCell ⟨g, 9, none⟩ y2).setCell ⟨g, 10, none⟩ y3).setCell ⟨g, 11, none⟩ y4).setCell ⟨g, 12, none⟩ y5).setCell ⟨g, 13, none⟩ y6).setCell ⟨g, 14, none⟩ y7).setCell ⟨g, 15, none⟩ y8) g 16 _ _ y9 h8
  have h10 := heap_setCell_same ((((((((((W.setCell ⟨g, 7, none⟩ y0).setCell ⟨g, 8, none⟩ y1).setCell ⟨g, 9, none⟩ y2).setCell ⟨g, 10, none⟩ y3).setCell ⟨g, 11, none⟩ y4).setCell ⟨g, 12, none⟩ y5).setCell ⟨g, 13, none⟩ y6).setCell ⟨g, 14, none⟩ y7).setCell ⟨g, 15, none⟩ y8).setCell ⟨g, 16, none⟩ y9) g 17 _ _ y10 h9
  have h11 := heap_setCell_same (((((((((((W.setCell ⟨g, 7, none⟩ y0).setCell ⟨g, 8, none⟩ y1).setCell ⟨g, 9, none⟩ y2).setCell ⟨g, 10, none⟩ y3).setCell ⟨g, 11, none⟩ y4).setCell ⟨g, 12, none⟩ y5).setCell ⟨g, 13, none⟩ y6).setCell ⟨g, 14, none⟩ y7).setCell ⟨g, 15, none⟩ y8).setCell ⟨g, 16, none⟩ y9).setCell ⟨g, 17, none⟩ y10) g 18 _ _ y11 h10
  simp only [List.setIfInBounds_toArray, List.set_cons_zero, List.set_cons_succ] at h11
  exact h11
end Go.Proofs.YtmgckdmglnmnnaaGreatDoor
/- Tj -/
set_option linter.unusedVariables false
namespace Go.Proofs.YtmgckdmglnmnnaaGreatDoor
open Go.RowKit

end Go.Proofs.YtmgckdmglnmnnaaGreatDoor
/- Tk -/
set_option linter.unusedVariables false
namespace Go.Proofs.YtmgckdmglnmnnaaGreatDoor
open Go.RowKit

/-- A machine that is coming back has probes left. -/
def Prb (d : PlanD) (s : StD) : Prop := (s.ph = 6 ∨ s.ph = 7) → s.pr < d.t
theorem run_fold {d : PlanD} : ∀ {l : List RecD} {s x : StD}, runR d s l = some x → x = l.foldl applyR s
  | [], s, x, hx => by cases hx; rfl
  | r :: l, s, x, hx => by
    simp only [runR] at hx
    split at hx
    · exact (run_fold hx : x = l.foldl applyR (applyR s r))
    · cases hx
/-- Lists of records, one list after the other. -/
def runLs (d : PlanD) : StD → List (List RecD) → Option StD
  | s, [] => some s
  | s, l :: ls => (runR d s l).bind fun x => runLs d x ls
theorem runLs_ok {d : PlanD} : ∀ {ls : List (List RecD)} {s x : StD}, StOk d s → runLs d s ls = some x → StOk d x
  | [], s, x, h, hx => by cases hx; exact h
  | l :: ls, s, x, h, hx => by
    simp only [runLs] at hx
    cases hr : runR d s l with
    | none => rw [hr] at hx; cases hx
    | some y => rw [hr] at hx; exact runLs_ok (runR_ok h hr) hx
/-- An agent: its store is whole frames, and makes its state. -/
structure AgD (d : PlanD) (s : StD) (st : List Nat) : Prop where
  plan : planOkB d = true
  len : st.length ≤ 1200
  it : ∃ ls, framesN st = (ls, st.length) ∧ runLs d (newS d) ls = some s
  prb : Prb d s
theorem AgD.ok {d : PlanD} {s : StD} {st : List Nat} (h : AgD d s st) : StOk d s := by
  obtain ⟨ls, -, hr⟩ := h.it
  exact runLs_ok (newS_ok h.plan) hr
end Go.Proofs.YtmgckdmglnmnnaaGreatDoor
/- Ts -/
set_option linter.unusedVariables false
namespace Go.Proofs.YtmgckdmglnmnnaaGreatDoor
open Go.RowKit

/-- Behind another boot: nobody is alive, nothing is held. -/
structure After (d : PlanD) (s : StD) : Prop where
  ok : StOk d s
  since : ∀ i, i < d.n0 → (podAt s i).2 ≤ s.ck
  dead : ∀ i, i < d.n0 → aliveB (podAt s i).1 = false
  held : heldB s = false
theorem held_mnt {d : PlanD} {s : StD} (h : StOk d s) (hh : heldB s = false) {i : Nat} (hi : i < d.n2) : (mntAt s i).1 = false := by
  cases e : (mntAt s i).1
  · rfl
  · have := (heldB_iff h).2 (.inl ⟨i, hi, e⟩)
    rw [hh] at this; cases this
theorem After.holds {d : PlanD} {s : StD} (A : After d s) : HoldsP d s := by
  have hp := A.ok.plan
  refine ⟨fun i hi _ => A.dead _ (mount_facts hp hi).1, fun i hi h0 hm => ?_, fun i hi _ => held_mnt A.ok A.held (device_facts hp hi)⟩
  rw [held_mnt A.ok A.held hi] at hm; cases hm
theorem After.same {d : PlanD} {s x : StD} (A : After d s) (hx : StOk d x) (hp : x.pods = s.pods) (hm : x.mnts = s.mnts) (hd : x.devs = s.devs) (hc : s.ck ≤ x.ck) : After d x := by
  have hpa : ∀ i, podAt x i = podAt s i := fun i => by unfold podAt; rw [hp]
  refine ⟨hx, fun i hi => by rw [hpa]; have := A.since i hi; omega, fun i hi => by rw [hpa]; exact A.dead i hi, ?_⟩
  have := A.held
  unfold heldB at this ⊢
  rw [hm, hd]; exact this
theorem After.before {d : PlanD} {s : StD} (A : After d s) : Before d s := ⟨A.ok, A.since, fun i hi ha => (by rw [A.dead i hi] at ha; cases ha), A.holds⟩
/-- Where a machine is in its life. -/
inductive Where (d : PlanD) (s : StD) : Prop
  | ahead (h : s.ph ≤ 2) (B : Before d s) : Where d s
  | going (n : Int) (G : Going d s) (L : Left d s n) : Where d s
  | back (h : 6 ≤ s.ph) (A : After d s) : Where d s
theorem Where.ok {d : PlanD} {s : StD} (W : Where d s) : StOk d s := by
  cases W with
  | ahead h B => exact B.ok
  | going n G L => exact G.ok
  | back h A => exact A.ok
theorem Where.since {d : PlanD} {s : StD} (W : Where d s) : ∀ i, i < d.n0 → (podAt s i).2 ≤ s.ck := by
  cases W with
  | ahead h B => exact B.since
  | going n G L => exact G.since
  | back h A => exact A.since
theorem Where.holds {d : PlanD} {s : StD} (W : Where d s) : HoldsP d s := by
  cases W with
  | ahead h B => exact B.holds
  | going n G L => exact G.holds
  | back h A => exact A.holds
/-- .. and how many probes, one after the other, were good. -/
structure Life (d : PlanD) (s : StD) (good : Int) : Prop where
  wh : Where d s
  prb : Prb d s
  gd : (s.ph = 6 ∨ s.ph = 7) → s.gd = good ∧ s.gd < d.p
/-- How many good ones there are behind an order. -/
def nextGood (d : PlanD) (s : StD) (k a b good : Int) : Int :=
  if (plannedD d s k a b).2 = 0 then (if k = 13 then (if a = 0 then 0 else good + 1) else if k = 12 then 0 else good) else good
/-- What the law asks of an order. -/
structure Step1 (d : PlanD) (s x : StD) (k a b good : Int) : Prop where
  made : Made1 d s k a b x
  life : Life d x (if x.ph = 0 then 0 else nextGood d s k a b good)
  lift : s.ph ≠ 0 → x.ph = 0 → (k = 5 ∧ s.ph ≤ 2) ∨ (k = 13 ∧ nextGood d s k a b good = d.p)
  back : x.ph < s.ph → x.ph ≠ 0 → k = 12
  ck : x.ck ≤ s.ck + 1
/-- The cordon stays. -/
def PhKeep (d : PlanD) (s : StD) (p : List RecD × Int) : Prop := p.2 = 0 → s.ph ≠ 0 → ∀ x, runR d s p.1 = some x → x.ph ≠ 0
theorem PhKeep.no {d : PlanD} {s : StD} {c : Int} (h : c ≠ 0) : PhKeep d s ([], c) := fun e => absurd e h
theorem PhKeep.one {d : PlanD} {s : StD} {r : RecD} (h : s.ph ≠ 0 → (applyR s r).ph ≠ 0) : PhKeep d s ([r], 0) := fun _ h0 x hx => by rw [run_one hx]; exact h h0
theorem PhKeep.shut {d : PlanD} {s : StD} {y z : Int} : PhKeep d s ([⟨11, y, 0⟩, ⟨9, z, 0⟩, ⟨1, 3, 0⟩], 0) := fun _ _ x hx => by
  rw [run_fold hx]
  simp [applyR]
end Go.Proofs.YtmgckdmglnmnnaaGreatDoor
