/-
  Chapter 9: MayFree, MayGive, the model's and the program's.
-/
import Derived.Test.YtobpjahjahlhpaaGreatDoorMZ12
import Derived.Test.YtobpjahjahlhpaaGreatDoorMZxUo
import Derived.Test.YtobpjahjahlhpaaGreatDoorMZ8
import Derived.Test.YtobpjahjahlhpaaGreatDoorMZ10
import Derived.Test.YtobpjahjahlhpaaGreatDoorMZ5
import Derived.Laws.EntriesVeiled
import Derived.Test.YtobpjahjahlhpaaGreatDoorMZ2
import Derived.Test.YtobpjahjahlhpaaGreatDoorMZ3
import Derived.Deep.DeepCutAuto
/- Zf -/
set_option linter.unusedVariables false
namespace Go.Proofs.YtobpjahjahlhpaaGreatDoor
open Go.RowKit

theorem results_two_row {P : Program} {fn : Func} {p q : Tmp} {ty : TypeId} (h : fn.results = #[.cell p ty, .tmp q]) (tmps : Array Value) (w : World) (g : Nat) (t : TypeId) (cs : Array Value) (fr : Nat × Nat) (d : TypeDesc) (u : Value)
    (hp : tmps.getD p undef = .pointer (some ⟨g, 0, none⟩)) (hq : tmps.getD q undef = u) (hg : w.heap[g]? = some (.cells cs t fr))
    (hu : P.underlying ty = some d) (hd : (match d with | .struct _ | .array _ _ => true | _ => false) = true) (hi : (P.info? ty).map (·.size) = some cs.size) :
    (results fn tmps).run P w = .ok (.tuple #[.agg cs, u]) w := by
  have hp' : tmps[p]?.getD undef = .pointer (some ⟨g, 0, none⟩) := by simpa using hp
  have hq' : tmps[q]?.getD undef = u := by simpa using hq
  simp [results, h, hp', hq', asAddr, run_loadVar_row w g t ty cs fr d hg hu hd hi]

set_option maxRecDepth 100000 in
set_option maxHeartbeats 8000000 in
theorem newAgent_any (v : Value) (d : PlanD) (w : World) (h : IsPlR w w.heap.size v d) (hok : planOkB d = true) :
    Calls Tryz.prog 83 #[v] w fun e w' => ∃ v', e = .returned (.tuple #[v', .bool true]) ∧ OwnAg w' w.heap.size v' d (newS d) [] ∧ Below w.heap.size w w' := by
  have HP := Lib.hid h
  have HOK := Lib.hid hok
  obtain ⟨⟨A0, A1, A2, A3, c0, c1, c2, c3, rfl, -, -⟩, -⟩ := h
  have HI : Hid ((Tryz.prog.info? 92).map (·.size) = some 20) := Lib.hid (by kernel_rfl)
  have T0 := Two.start w (planC A0 A1 A2 A3 d.n0 c0 d.n1 c1 d.n2 c2 d.n3 c3 d.l d.p d.t) (agC (.slice none 0 0) (.slice none 0 0) (.slice none 0 0) (.slice none 0 0) 0 0 0 0 false 0 0 0 0 (.slice none 0 0) (.slice none 0 0) (.slice none 0 0) (.slice none 0 0) 0 0 (.slice none 0 0)) 29 92
  have HH := heap_alloc2_new w (.cells (planC A0 A1 A2 A3 d.n0 c0 d.n1 c1 d.n2 c2 d.n3 c3 d.l d.p d.t) 29) (.cells (agC (.slice none 0 0) (.slice none 0 0) (.slice none 0 0) (.slice none 0 0) 0 0 0 0 false 0 0 0 0 (.slice none 0 0) (.slice none 0 0) (.slice none 0 0) (.slice none 0 0) 0 0 (.slice none 0 0)) 92)
  obtain ⟨s, hs⟩ : ∃ s, newS d = s := ⟨_, rfl⟩
  rw [hs]
  have HSN := Lib.hid hs
  clear hok hs
  go_enter Tryz.func83, Tryz.ntmps83
  go_wp2_with fail
  generalize (w.alloc (.cells (planC A0 A1 A2 A3 d.n0 c0 d.n1 c1 d.n2 c2 d.n3 c3 d.l d.p d.t) 29)).alloc (.cells (agC (.slice none 0 0) (.slice none 0 0) (.slice none 0 0) (.slice none 0 0) 0 0 0 0 false 0 0 0 0 (.slice none 0 0) (.slice none 0 0) (.slice none 0 0) (.slice none 0 0) 0 0 (.slice none 0 0)) 92) = w1 at T0 HH ⊢
  refine (spec_planOk_any _ d _ ((HP.out.is.below T0.A.K (Nat.le_refl _)).more T0.A.K.size)).mono ?_
  rintro e w2 ⟨rfl, hb⟩
  rw [HOK.out]
  have hw1' := T0.O.z
  replace HH := (hb.block _ hw1').trans HH
  replace T0 := T0.step hb
  clear hb hw1'
  go_upto_region 3 with fail
  refine wp_region_noPanic ?_
  refine wp_region_held_drew (S := (fun W => ∀ o, W.cell? ⟨w.heap.size, o, none⟩ = (planC A0 A1 A2 A3 d.n0 c0 d.n1 c1 d.n2 c2 d.n3 c3 d.l d.p d.t)[o]?)) (by kernel_rfl) ((T0.step (Below.refl _ _).drew).A.C) (fun hS => ?_)
  replace T0 := T0.step (Below.refl _ _).drew
  rw [← heap_drew w2] at HH
  generalize w2.drew = w0 at T0 HH hS ⊢
  have K : Below w0.heap.size w0 w0 := Below.refl _ _
  have S0 := T0.A.C
  have hw0 := T0.A.z
  have hw1 := T0.O.z
  refine wpAnyH_take (i := 0) (v := ?_) rfl (by kernel_rfl) (by kernel_rfl) (by kernel_rfl) (fun _ _ _ h => h) (Or.inl ⟨by rfl, ?_⟩) hS ?_
  rotate_left 1
  · intro w hSw
    (try dsimp only at hSw)
    go_simp
    try with_reducible rfl
  change wpAnyH _ _ _ _ _ _ _ (Act.put _ (some 8) _) _
  dsimp only [Act.put]
  refine wpAnyH_take (i := 2) (v := ?_) rfl (by kernel_rfl) (by kernel_rfl) (by kernel_rfl) (fun _ _ _ h => h) (Or.inl ⟨by rfl, ?_⟩) hS ?_
  rotate_left 1
  · intro w hSw
    (try dsimp only at hSw)
    go_simp
    try with_reducible rfl
  change wpAnyH _ _ _ _ _ _ _ (Act.put _ (some 10) _) _
  dsimp only [Act.put]
  refine wpAnyH_ready (rs := [1]) (by kernel_rfl) (by simp) ?_
  refine AllReadyH.cons rfl (fun K' hK => ?_) AllReadyH.nil
  go_simp
  go_at_call 116
  refine (l15PlanCopy_any _ d _ ((HP.out.below T0.A.K (Nat.le_refl _)).more T0.A.K.size)).mono ?_
  rintro e wn ⟨q0, q1, q2, q3, rfl, Lp, hb⟩
  replace Lp := Lp.base T0.A.K.size
  obtain ⟨Q0, e0, rfl, -, -⟩ := Lp.o0.formR
  obtain ⟨Q1, e1, rfl, -, -⟩ := Lp.o1.formR
  obtain ⟨Q2, e2, rfl, -, -⟩ := Lp.o2.formR
  obtain ⟨Q3, e3, rfl, -, -⟩ := Lp.o3.formR
  replace K := K.trans (hb.mono K.size)
  clear hb
  go_wp2_with fail
  refine hK.out _ _ (fun o => (Below.cell (p := ⟨w.heap.size, o, none⟩) K hw0).trans (S0 o)) (fun hS => ?_)
  clear hK K'
  skip
  refine wpAnyH_ready (rs := [3]) (by kernel_rfl) (by simp) ?_
  refine AllReadyH.cons rfl (fun K' hK => ?_) AllReadyH.nil
  go_simp
  go_at_call 117
  have TK := T0.step K
  refine (specNewState_any _ d _ ((HP.out.is.below TK.A.K (Nat.le_refl _)).more TK.A.K.size)).mono ?_
  rintro e wn2 ⟨v5, rfl, Os, hb⟩
  rw [HSN.out] at Os
  have Osb := Os.base TK.A.K.size
  obtain ⟨y0, y1, y2, y3, rfl, z0, z1, z2, z3⟩ := Os.it
  have AP := apart_of Lp.o1 z3
  clear Os
  have Os := Osb
  clear Osb
  obtain ⟨Y0, f0, rfl, -⟩ := open_rowR z0
  obtain ⟨Y1, f1, rfl, -⟩ := open_rowR z1
  obtain ⟨Y2, f2, rfl, -⟩ := open_rowR z2
  obtain ⟨Y3, f3, rfl, -⟩ := open_rowR z3
  replace Lp := Lp.below hb
  replace K := K.trans (hb.mono K.size)
  clear hb z0 z1 z2 z3 TK
  go_wp2_with fail
  refine hK.out _ _ (fun o => (Below.cell (p := ⟨w.heap.size, o, none⟩) K hw0).trans (S0 o)) (fun hS => ?_)
  clear hK K'
  skip
  refine wpAnyH_take (i := 4) (v := ?_) rfl (by kernel_rfl) (by kernel_rfl) (by kernel_rfl) (fun _ _ _ h => h) (Or.inl ⟨by rfl, ?_⟩) hS ?_
  rotate_left 1
  · intro w hSw
    (try dsimp only at hSw)
    go_simp
    try with_reducible rfl
  change wpAnyH _ _ _ _ _ _ _ (Act.put _ (some 12) _) _
  dsimp only [Act.put]
  refine wpAnyH_ready (rs := [5]) (by kernel_rfl) (by simp) ?_
  refine AllReadyH.cons rfl (fun K' hK => ?_) AllReadyH.nil
  rw [if_pos (by rfl)]
  have hh := (K.block _ hw1).trans HH
  refine wp_store_row 92 (.tmp 2) (.tmp 12) rfl (w.heap.size + 1) (agC (.slice Q0 d.n0 e0) (.slice Q1 d.n1 e1) (.slice Q2 d.n2 e2) (.slice Q3 d.n3 e3) d.l d.p d.t s.ph s.co s.ck s.bo s.ba s.lb (.slice Y0 s.pods.length f0) (.slice Y1 s.mnts.length f1) (.slice Y2 s.devs.length f2) (.slice Y3 s.lks.length f3) s.gd s.pr (.slice none 0 0)) rfl rfl 92 _ hh HI.out rfl (by simp [Value.oneCell']) ?_
  have KS : Keeps (· = w.heap.size + 1) wn2 (wn2.setRow (w.heap.size + 1) (agC (.slice Q0 d.n0 e0) (.slice Q1 d.n1 e1) (.slice Q2 d.n2 e2) (.slice Q3 d.n3 e3) d.l d.p d.t s.ph s.co s.ck s.bo s.ba s.lb (.slice Y0 s.pods.length f0) (.slice Y1 s.mnts.length f1) (.slice Y2 s.devs.length f2) (.slice Y3 s.lks.length f3) s.gd s.pr (.slice none 0 0))) := keeps_setRow ..
  have hS2 : ∀ o, (wn2.setRow (w.heap.size + 1) (agC (.slice Q0 d.n0 e0) (.slice Q1 d.n1 e1) (.slice Q2 d.n2 e2) (.slice Q3 d.n3 e3) d.l d.p d.t s.ph s.co s.ck s.bo s.ba s.lb (.slice Y0 s.pods.length f0) (.slice Y1 s.mnts.length f1) (.slice Y2 s.devs.length f2) (.slice Y3 s.lks.length f3) s.gd s.pr (.slice none 0 0))).cell? ⟨w.heap.size, o, none⟩ = (planC A0 A1 A2 A3 d.n0 c0 d.n1 c1 d.n2 c2 d.n3 c3 d.l d.p d.t)[o]? := fun o => (KS.cell (p := ⟨w.heap.size, o, none⟩) (Nat.lt_of_lt_of_le hw0 K.size) (Nat.ne_of_lt (Nat.lt_succ_self _))).trans ((Below.cell (p := ⟨w.heap.size, o, none⟩) K hw0).trans (S0 o))
  refine hK.out _ _ hS2 (fun hS => ?_)
  clear hK K'
  refine wpAnyH_ready (rs := [6]) (by kernel_rfl) (by simp) ?_
  refine AllReadyH.cons rfl (fun K' hK => ?_) AllReadyH.nil
  go_simp
  refine hK.out _ _ hS2 (fun hS => ?_)
  clear hK K'
  refine wpAnyH_done (by kernel_rfl) ?_ _
  refine NoPanic.normal ?_
  go_wp2_with fail
  exact bodyPost_ret (v := .tuple #[.agg (agC (.slice Q0 d.n0 e0) (.slice Q1 d.n1 e1) (.slice Q2 d.n2 e2) (.slice Q3 d.n3 e3) d.l d.p d.t s.ph s.co s.ck s.bo s.ba s.lb (.slice Y0 s.pods.length f0) (.slice Y1 s.mnts.length f1) (.slice Y2 s.devs.length f2) (.slice Y3 s.lks.length f3) s.gd s.pr (.slice none 0 0)), .bool true]) (results_two_row Tryz.results83 _ _ _ _ _ _ _ _ rfl rfl (setRow_heap wn2 _ _ _ _ _ hh) Tryz.underlying92 rfl HI.out) rfl ⟨_, rfl, ⟨_, _, _, _, _, _, _, _, _, rfl, Lp.keeps KS hh (by decide), Os.keepsT KS hh (by decide), OB.nil_ _ _, AP⟩, below_setRow (T0.step K).A.K (Nat.le_succ _) _⟩
end Go.Proofs.YtobpjahjahlhpaaGreatDoor
/- Xe -/
set_option linter.unusedVariables false
namespace Go.Proofs.YtobpjahjahlhpaaGreatDoor
open Go.RowKit

/-- A state in a box, the call's own, its lists as well. -/
def BxS (w : World) (B g : Nat) (v : Value) (s : StD) : Prop := OwnSt w B v s ∧ ∃ cs : Array Value, v = .agg cs ∧ BoxS w B g cs.toList
/-- What a change answers. -/
def Chg (w : World) (B g : Nat) (v : Value) (t : StD) (e : Ending) (w' : World) : Prop := e = .returned (.tuple #[]) ∧ (∃ v', BxS w' B g v' t) ∧ Keeps (fun b => b = g ∨ rowsOf v b) w w'
theorem keep_other {w w' : World} {B B' e e' k k' n n' g : Nat} {v v' : Value} {xs xs' : List Value} (h : w.ownsRow B e k v n xs) (h' : w.ownsRow B' e' k' v' n' xs') (hv' : v'.ownBlock = some g) (hne : e ≠ e') (kp : Keeps (· = g) w w') : w'.ownsRow B e k v n xs :=
  ownsRow_keeps h kp fun r hr e => hne (row_type h h' (e ▸ hr) hv')
theorem keeps_set (w : World) (g o : Nat) (u : Value) : Keeps (· = g) w (w.setCell ⟨g, o, none⟩ u) := (Keeps.refl (· = g) w).set rfl u
theorem box_apart {w : World} {B B' e k n g : Nat} {v : Value} {xs xs' : List Value} (h : w.ownsRow B e k v n xs) (X : BoxS w B' g xs') (hne : e ≠ 34) : v.ownBlock ≠ some g := fun hv => hne (row_type h X hv rfl)

set_option maxRecDepth 4000 in
set_option maxHeartbeats 2000000 in
theorem chg_clock (v : Value) (s : StD) (a b : Int) (w : World) (B g : Nat) (h : BxS w B g v s) :
    Calls Tryz.prog 63 #[.pointer (some ⟨g, 0, none⟩), .int .i64 a, .int .i64 b] w (Chg w B g v (applyR s ⟨8, a, b⟩)) := by
  obtain ⟨O, cs, hv, X⟩ := h
  obtain ⟨v0, v1, v2, v3, rfl, h0, h1, h2, h3⟩ := O.it
  injection hv with hv
  subst hv
  have H0 := Lib.hid h0
  have H1 := Lib.hid h1
  have H2 := Lib.hid h2
  have H3 := Lib.hid h3
  have HX := Lib.hid X
  have hC := X.C
  have hF := X.frozen
  obtain ⟨ph, co, ck, bo, ba, lb, l0, l1, l2, l3, gd, pr⟩ := s
  dsimp only at *
  clear X O h0 h1 h2 h3
  go_enter Tryz.func63, Tryz.ntmps63
  go_wp2
  refine bodyPost_ret (v := .tuple #[]) (by simp [results, Tryz.results63, go_sem]) rfl ?_
  have X0 := HX.out
  have k0 := Keeps.refl (· = g) w
  have X1 := (World.ownsRow.stored X0 2 (.int .i64 a)).1
  have k1 := k0.set (p := ⟨g, 2, none⟩) rfl (.int .i64 a)
  refine ⟨rfl, ⟨_, ⟨v0, v1, v2, v3, rfl, keep_other H0.out HX.out rfl (by decide) k1, keep_other H1.out HX.out rfl (by decide) k1, keep_other H2.out HX.out rfl (by decide) k1, keep_other H3.out HX.out rfl (by decide) k1⟩, _, rfl, X1⟩, k1.mono fun b hb => Or.inl hb⟩

set_option maxRecDepth 4000 in
set_option maxHeartbeats 2000000 in
theorem chg_band (v : Value) (s : StD) (a b : Int) (w : World) (B g : Nat) (h : BxS w B g v s) :
    Calls Tryz.prog 64 #[.pointer (some ⟨g, 0, none⟩), .int .i64 a, .int .i64 b] w (Chg w B g v (applyR s ⟨9, a, b⟩)) := by
  obtain ⟨O, cs, hv, X⟩ := h
  obtain ⟨v0, v1, v2, v3, rfl, h0, h1, h2, h3⟩ := O.it
  injection hv with hv
  subst hv
  have H0 := Lib.hid h0
  have H1 := Lib.hid h1
  have H2 := Lib.hid h2
  have H3 := Lib.hid h3
  have HX := Lib.hid X
  have hC := X.C
  have hF := X.frozen
  obtain ⟨ph, co, ck, bo, ba, lb, l0, l1, l2, l3, gd, pr⟩ := s
  dsimp only at *
  clear X O h0 h1 h2 h3
  go_enter Tryz.func64, Tryz.ntmps64
  go_wp2
  refine bodyPost_ret (v := .tuple #[]) (by simp [results, Tryz.results64, go_sem]) rfl ?_
  have X0 := HX.out
  have k0 := Keeps.refl (· = g) w
  have X1 := (World.ownsRow.stored X0 4 (.int .i64 a)).1
  have k1 := k0.set (p := ⟨g, 4, none⟩) rfl (.int .i64 a)
  refine ⟨rfl, ⟨_, ⟨v0, v1, v2, v3, rfl, keep_other H0.out HX.out rfl (by decide) k1, keep_other H1.out HX.out rfl (by decide) k1, keep_other H2.out HX.out rfl (by decide) k1, keep_other H3.out HX.out rfl (by decide) k1⟩, _, rfl, X1⟩, k1.mono fun b hb => Or.inl hb⟩

set_option maxRecDepth 4000 in
set_option maxHeartbeats 2000000 in
theorem chg_boot (v : Value) (s : StD) (a b : Int) (w : World) (B g : Nat) (h : BxS w B g v s) :
    Calls Tryz.prog 65 #[.pointer (some ⟨g, 0, none⟩), .int .i64 a, .int .i64 b] w (Chg w B g v (applyR s ⟨10, a, b⟩)) := by
  obtain ⟨O, cs, hv, X⟩ := h
  obtain ⟨v0, v1, v2, v3, rfl, h0, h1, h2, h3⟩ := O.it
  injection hv with hv
  subst hv
  have H0 := Lib.hid h0
  have H1 := Lib.hid h1
  have H2 := Lib.hid h2
  have H3 := Lib.hid h3
  have HX := Lib.hid X
  have hC := X.C
  have hF := X.frozen
  obtain ⟨ph, co, ck, bo, ba, lb, l0, l1, l2, l3, gd, pr⟩ := s
  dsimp only at *
  clear X O h0 h1 h2 h3
  go_enter Tryz.func65, Tryz.ntmps65
  go_wp2
  refine bodyPost_ret (v := .tuple #[]) (by simp [results, Tryz.results65, go_sem]) rfl ?_
  have X0 := HX.out
  have k0 := Keeps.refl (· = g) w
  have X1 := (World.ownsRow.stored X0 3 (.int .i64 a)).1
  have k1 := k0.set (p := ⟨g, 3, none⟩) rfl (.int .i64 a)
  refine ⟨rfl, ⟨_, ⟨v0, v1, v2, v3, rfl, keep_other H0.out HX.out rfl (by decide) k1, keep_other H1.out HX.out rfl (by decide) k1, keep_other H2.out HX.out rfl (by decide) k1, keep_other H3.out HX.out rfl (by decide) k1⟩, _, rfl, X1⟩, k1.mono fun b hb => Or.inl hb⟩

set_option maxRecDepth 4000 in
set_option maxHeartbeats 2000000 in
theorem chg_lockBy (v : Value) (s : StD) (a b : Int) (w : World) (B g : Nat) (h : BxS w B g v s) :
    Calls Tryz.prog 66 #[.pointer (some ⟨g, 0, none⟩), .int .i64 a, .int .i64 b] w (Chg w B g v (applyR s ⟨11, a, b⟩)) := by
  obtain ⟨O, cs, hv, X⟩ := h
  obtain ⟨v0, v1, v2, v3, rfl, h0, h1, h2, h3⟩ := O.it
  injection hv with hv
  subst hv
  have H0 := Lib.hid h0
  have H1 := Lib.hid h1
  have H2 := Lib.hid h2
  have H3 := Lib.hid h3
  have HX := Lib.hid X
  have hC := X.C
  have hF := X.frozen
  obtain ⟨ph, co, ck, bo, ba, lb, l0, l1, l2, l3, gd, pr⟩ := s
  dsimp only at *
  clear X O h0 h1 h2 h3
  go_enter Tryz.func66, Tryz.ntmps66
  go_wp2
  refine bodyPost_ret (v := .tuple #[]) (by simp [results, Tryz.results66, go_sem]) rfl ?_
  have X0 := HX.out
  have k0 := Keeps.refl (· = g) w
  have X1 := (World.ownsRow.stored X0 5 (.int .i64 a)).1
  have k1 := k0.set (p := ⟨g, 5, none⟩) rfl (.int .i64 a)
  refine ⟨rfl, ⟨_, ⟨v0, v1, v2, v3, rfl, keep_other H0.out HX.out rfl (by decide) k1, keep_other H1.out HX.out rfl (by decide) k1, keep_other H2.out HX.out rfl (by decide) k1, keep_other H3.out HX.out rfl (by decide) k1⟩, _, rfl, X1⟩, k1.mono fun b hb => Or.inl hb⟩

set_option maxRecDepth 4000 in
set_option maxHeartbeats 2000000 in
theorem chg_probe (v : Value) (s : StD) (a b : Int) (w : World) (B g : Nat) (h : BxS w B g v s) :
    Calls Tryz.prog 67 #[.pointer (some ⟨g, 0, none⟩), .int .i64 a, .int .i64 b] w (Chg w B g v (applyR s ⟨12, a, b⟩)) := by
  obtain ⟨O, cs, hv, X⟩ := h
  obtain ⟨v0, v1, v2, v3, rfl, h0, h1, h2, h3⟩ := O.it
  injection hv with hv
  subst hv
  have H0 := Lib.hid h0
  have H1 := Lib.hid h1
  have H2 := Lib.hid h2
  have H3 := Lib.hid h3
  have HX := Lib.hid X
  have hC := X.C
  have hF := X.frozen
  obtain ⟨ph, co, ck, bo, ba, lb, l0, l1, l2, l3, gd, pr⟩ := s
  dsimp only at *
  clear X O h0 h1 h2 h3
  go_enter Tryz.func67, Tryz.ntmps67
  go_wp2
  refine bodyPost_ret (v := .tuple #[]) (by simp [results, Tryz.results67, go_sem]) rfl ?_
  have X0 := HX.out
  have k0 := Keeps.refl (· = g) w
  have X1 := (World.ownsRow.stored X0 10 (.int .i64 a)).1
  have k1 := k0.set (p := ⟨g, 10, none⟩) rfl (.int .i64 a)
  have X2 := (World.ownsRow.stored X1 11 (.int .i64 b)).1
  have k2 := k1.set (p := ⟨g, 11, none⟩) rfl (.int .i64 b)
  refine ⟨rfl, ⟨_, ⟨v0, v1, v2, v3, rfl, keep_other H0.out HX.out rfl (by decide) k2, keep_other H1.out HX.out rfl (by decide) k2, keep_other H2.out HX.out rfl (by decide) k2, keep_other H3.out HX.out rfl (by decide) k2⟩, _, rfl, X2⟩, k2.mono fun b hb => Or.inl hb⟩
end Go.Proofs.YtobpjahjahlhpaaGreatDoor
/- Xf -/
set_option linter.unusedVariables false
namespace Go.Proofs.YtobpjahjahlhpaaGreatDoor
open Go.RowKit

set_option maxRecDepth 4000 in
set_option maxHeartbeats 2000000 in
theorem chg_phase (v : Value) (s : StD) (a b : Int) (w : World) (B g : Nat) (h : BxS w B g v s) (ha : a ≠ 0) :
    Calls Tryz.prog 56 #[.pointer (some ⟨g, 0, none⟩), .int .i64 a, .int .i64 b] w (Chg w B g v (applyR s ⟨1, a, b⟩)) := by
  obtain ⟨O, cs, hv, X⟩ := h
  obtain ⟨v0, v1, v2, v3, rfl, h0, h1, h2, h3⟩ := O.it
  injection hv with hv
  subst hv
  have H0 := Lib.hid h0
  have H1 := Lib.hid h1
  have H2 := Lib.hid h2
  have H3 := Lib.hid h3
  have HX := Lib.hid X
  have hC := X.C
  have hF := X.frozen
  obtain ⟨ph, co, ck, bo, ba, lb, l0, l1, l2, l3, gd, pr⟩ := s
  have he : applyR ⟨ph, co, ck, bo, ba, lb, l0, l1, l2, l3, gd, pr⟩ ⟨1, a, b⟩ = ⟨a, true, ck, bo, ba, lb, l0, l1, l2, l3, gd, pr⟩ := by simp [applyR, ha]
  have HE := Lib.hid he
  dsimp only at *
  clear X O h0 h1 h2 h3 he
  have hn : (a == 0) = false := by simp [ha]
  have hm : (a != 0) = true := by simp [ha]
  go_enter Tryz.func56, Tryz.ntmps56
  go_wp2
  refine bodyPost_ret (v := .tuple #[]) (by simp [results, Tryz.results56, go_sem]) rfl ?_
  rw [HE.out]
  have X0 := HX.out
  have k0 := Keeps.refl (· = g) w
  have X1 := (World.ownsRow.stored X0 0 (.int .i64 a)).1
  have k1 := k0.set (p := ⟨g, 0, none⟩) rfl (.int .i64 a)
  have X2 := (World.ownsRow.stored X1 1 (.bool true)).1
  have k2 := k1.set (p := ⟨g, 1, none⟩) rfl (.bool true)
  refine ⟨rfl, ⟨_, ⟨v0, v1, v2, v3, rfl, keep_other H0.out HX.out rfl (by decide) k2, keep_other H1.out HX.out rfl (by decide) k2, keep_other H2.out HX.out rfl (by decide) k2, keep_other H3.out HX.out rfl (by decide) k2⟩, _, rfl, X2⟩, k2.mono fun b hb => Or.inl hb⟩

set_option maxRecDepth 4000 in
set_option maxHeartbeats 2000000 in
theorem chg_idle (v : Value) (s : StD) (b : Int) (w : World) (B g : Nat) (hB : B ≤ w.heap.size) (h : BxS w B g v s) :
    Calls Tryz.prog 56 #[.pointer (some ⟨g, 0, none⟩), .int .i64 0, .int .i64 b] w (Chg w B g v (applyR s ⟨1, 0, b⟩)) := by
  obtain ⟨O, cs, hv, X⟩ := h
  obtain ⟨v0, v1, v2, v3, rfl, h0, h1, h2, h3⟩ := O.it
  injection hv with hv
  subst hv
  have H0 := Lib.hid h0
  have H1 := Lib.hid h1
  have H2 := Lib.hid h2
  have H3 := Lib.hid h3
  have HX := Lib.hid X
  have hC := X.C
  have hF := X.frozen
  obtain ⟨ph, co, ck, bo, ba, lb, l0, l1, l2, l3, gd, pr⟩ := s
  dsimp only at *
  have hg := (X.lt).2
  clear X O h0 h1 h2 h3
  have HB := Lib.hid hB
  clear hB
  go_enter Tryz.func56, Tryz.ntmps56
  go_wp2
  refine bodyPost_ret (v := .tuple #[]) (by simp [results, Tryz.results56, go_sem]) rfl ?_
  have X0 := HX.out
  have k0 := Keeps.refl (· = g) w
  have X1 := (World.ownsRow.stored X0 0 (.int .i64 0)).1
  have k1 := k0.set (p := ⟨g, 0, none⟩) rfl (.int .i64 0)
  have X2 := (World.ownsRow.stored X1 1 (.bool false)).1
  have k2 := k1.set (p := ⟨g, 1, none⟩) rfl (.bool false)
  have X3 := (World.ownsRow.stored X2 10 (.int .i64 0)).1
  have k3 := k2.set (p := ⟨g, 10, none⟩) rfl (.int .i64 0)
  have X4 := (World.ownsRow.stored X3 11 (.int .i64 0)).1
  have k4 := k3.set (p := ⟨g, 11, none⟩) rfl (.int .i64 0)
  have X5 := (World.ownsRow.stored X4 9 (.slice (some ⟨w.heap.size, 0, none⟩) 0 0)).1
  have k5 := k4.set (p := ⟨g, 9, none⟩) rfl (.slice (some ⟨w.heap.size, 0, none⟩) 0 0)
  have k6 := k5.trans (Keeps.of_below ((Below.refl _ _).alloc (Nat.le_refl _) (.cells #[] 2)))
  have X6 := ownsRow_below X5 ((Below.refl _ _).alloc (Nat.le_refl _) (.cells #[] 2))
  exact ⟨rfl, ⟨_, ⟨v0, v1, v2, .slice (some ⟨w.heap.size, 0, none⟩) 0 0, rfl, keep_other H0.out HX.out rfl (by decide) k6, keep_other H1.out HX.out rfl (by decide) k6, keep_other H2.out HX.out rfl (by decide) k6, made_at _ _ _ _ _ (by simp) (by have := HB.out; simpa using this)⟩, _, rfl, X6⟩, k6.mono fun b hb => Or.inl hb⟩

set_option maxRecDepth 4000 in
set_option maxHeartbeats 2000000 in
theorem chg_pod (v : Value) (s : StD) (a b : Int) (w : World) (B g : Nat) (h : BxS w B g v s) (ha0 : 0 ≤ a) (ha1 : a < s.pods.length) :
    Calls Tryz.prog 57 #[.pointer (some ⟨g, 0, none⟩), .int .i64 a, .int .i64 b] w (Chg w B g v (applyR s ⟨2, a, b⟩)) := by
  obtain ⟨O, cs, hv, X⟩ := h
  obtain ⟨v0, v1, v2, v3, rfl, h0, h1, h2, h3⟩ := O.it
  injection hv with hv
  subst hv
  have H0 := Lib.hid h0
  have H1 := Lib.hid h1
  have H2 := Lib.hid h2
  have H3 := Lib.hid h3
  have HX := Lib.hid X
  obtain ⟨A, c, m, rfl, hA, hnc, hBg, hgz, R, sl, hx⟩ := open_row h0
  have hC := X.C
  have hF := X.frozen
  obtain ⟨ph, co, ck, bo, ba, lb, l0, l1, l2, l3, gd, pr⟩ := s
  dsimp only at *
  obtain ⟨i, rfl⟩ := Int.eq_ofNat_of_zero_le ha0
  have hi : i < l0.length := by omega
  obtain rfl := hA (by omega)
  have hmg : m ≠ g := fun e => box_apart h0 X (by decide) (by rw [← e]; rfl)
  have HR := Lib.hid R
  unfold maxLen at hx
  have HXX := Lib.hid hx
  clear hA hgz R hBg hx hnc sl X O h0 h1 h2 h3
  have q0 := (HR.out (i * 2) (by rw [podCs_len]; omega)).1.trans (podCs_at l0 hi).1
  have hf0 := (HR.out (i * 2) (by rw [podCs_len]; omega)).2
  have q1 := (HR.out (i * 2 + 1) (by rw [podCs_len]; omega)).1.trans (podCs_at l0 hi).2
  have hf1 := (HR.out (i * 2 + 1) (by rw [podCs_len]; omega)).2
  have HE : Hid (applyR ⟨ph, co, ck, bo, ba, lb, l0, l1, l2, l3, gd, pr⟩ ⟨2, i, b⟩ = ⟨ph, co, ck, bo, ba, lb, l0.set i (b, ck), l1, l2, l3, gd, pr⟩) := Lib.hid rfl
  go_enter Tryz.func57, Tryz.ntmps57
  go_region
  all_goals try go_wp2
  all_goals
    refine bodyPost_ret (v := .tuple #[]) (by simp [results, Tryz.results57, go_sem]) rfl ?_
    rw [HE.out]
    have X0 := HX.out
    have k0 := Keeps.refl (· = m) w
    have s0 := H0.out
    have s1 := (World.ownsRow.stored s0 (i * 2) (.int .i64 b)).1
    have k1 := k0.set (p := ⟨m, i * 2, none⟩) rfl (.int .i64 b)
    have s2 := (World.ownsRow.stored s1 (i * 2 + 1) (.int .i64 ck)).1
    have k2 := k1.set (p := ⟨m, i * 2 + 1, none⟩) rfl (.int .i64 ck)
    have s3 := ownsRow_below s2 (Below.refl _ _).drew
    have k3 := k2.drew
    have hX := X0.keeps k3 (fun e => hmg e.symm)
    refine ⟨rfl, ⟨_, ⟨.slice (some ⟨m, 0, none⟩) l0.length c, v1, v2, v3, rfl, ?_, keep_other H1.out H0.out rfl (by decide) k3, keep_other H2.out H0.out rfl (by decide) k3, keep_other H3.out H0.out rfl (by decide) k3⟩, _, rfl, hX⟩, k3.mono fun b hb => Or.inr ⟨_, 6, _, rfl, rfl, by rw [hb]; rfl⟩⟩
    rw [List.length_set, podCs_set l0 hi]
    exact s3

set_option maxRecDepth 4000 in
set_option maxHeartbeats 2000000 in
theorem chg_busy (v : Value) (s : StD) (a b : Int) (w : World) (B g : Nat) (h : BxS w B g v s) (ha0 : 0 ≤ a) (ha1 : a < s.mnts.length) :
    Calls Tryz.prog 58 #[.pointer (some ⟨g, 0, none⟩), .int .i64 a, .int .i64 b] w (Chg w B g v (applyR s ⟨3, a, b⟩)) := by
  obtain ⟨O, cs, hv, X⟩ := h
  obtain ⟨v0, v1, v2, v3, rfl, h0, h1, h2, h3⟩ := O.it
  injection hv with hv
  subst hv
  have H0 := Lib.hid h0
  have H1 := Lib.hid h1
  have H2 := Lib.hid h2
  have H3 := Lib.hid h3
  have HX := Lib.hid X
  obtain ⟨A, c, m, rfl, hA, hnc, hBg, hgz, R, sl, hx⟩ := open_row h1
  have hC := X.C
  have hF := X.frozen
  obtain ⟨ph, co, ck, bo, ba, lb, l0, l1, l2, l3, gd, pr⟩ := s
  dsimp only at *
  obtain ⟨i, rfl⟩ := Int.eq_ofNat_of_zero_le ha0
  have hi : i < l1.length := by omega
  obtain rfl := hA (by omega)
  have hmg : m ≠ g := fun e => box_apart h1 X (by decide) (by rw [← e]; rfl)
  have HR := Lib.hid R
  unfold maxLen at hx
  have HXX := Lib.hid hx
  clear hA hgz R hBg hx hnc sl X O h0 h1 h2 h3
  have q0 := (HR.out (i * 2) (by rw [mntCs_len]; omega)).1.trans (mntCs_at l1 hi).1
  have hf0 := (HR.out (i * 2) (by rw [mntCs_len]; omega)).2
  have q1 := (HR.out (i * 2 + 1) (by rw [mntCs_len]; omega)).1.trans (mntCs_at l1 hi).2
  have hf1 := (HR.out (i * 2 + 1) (by rw [mntCs_len]; omega)).2
  have HE : Hid (applyR ⟨ph, co, ck, bo, ba, lb, l0, l1, l2, l3, gd, pr⟩ ⟨3, i, b⟩ = ⟨ph, co, ck, bo, ba, lb, l0, l1.set i ((mntA l1 i).1, b), l2, l3, gd, pr⟩) := Lib.hid rfl
  go_enter Tryz.func58, Tryz.ntmps58
  go_wp2
  all_goals
    refine bodyPost_ret (v := .tuple #[]) (by simp [results, Tryz.results58, go_sem]) rfl ?_
    rw [HE.out]
    have X0 := HX.out
    have k0 := Keeps.refl (· = m) w
    have s0 := H1.out
    have s1 := (World.ownsRow.stored s0 (i * 2 + 1) (.int .i64 b)).1
    have k1 := k0.set (p := ⟨m, i * 2 + 1, none⟩) rfl (.int .i64 b)
    have hX := X0.keeps k1 (fun e => hmg e.symm)
    refine ⟨rfl, ⟨_, ⟨v0, .slice (some ⟨m, 0, none⟩) l1.length c, v2, v3, rfl, keep_other H0.out H1.out rfl (by decide) k1, ?_, keep_other H2.out H1.out rfl (by decide) k1, keep_other H3.out H1.out rfl (by decide) k1⟩, _, rfl, hX⟩, k1.mono fun b hb => Or.inr ⟨_, 7, _, rfl, rfl, by rw [hb]; rfl⟩⟩
    rw [List.length_set, mntCs_busy l1 hi]
    exact s1

set_option maxRecDepth 4000 in
set_option maxHeartbeats 2000000 in
theorem chg_free (v : Value) (s : StD) (a b : Int) (w : World) (B g : Nat) (h : BxS w B g v s) (ha0 : 0 ≤ a) (ha1 : a < s.mnts.length) :
    Calls Tryz.prog 59 #[.pointer (some ⟨g, 0, none⟩), .int .i64 a, .int .i64 b] w (Chg w B g v (applyR s ⟨4, a, b⟩)) := by
  obtain ⟨O, cs, hv, X⟩ := h
  obtain ⟨v0, v1, v2, v3, rfl, h0, h1, h2, h3⟩ := O.it
  injection hv with hv
  subst hv
  have H0 := Lib.hid h0
  have H1 := Lib.hid h1
  have H2 := Lib.hid h2
  have H3 := Lib.hid h3
  have HX := Lib.hid X
  obtain ⟨A, c, m, rfl, hA, hnc, hBg, hgz, R, sl, hx⟩ := open_row h1
  have hC := X.C
  have hF := X.frozen
  obtain ⟨ph, co, ck, bo, ba, lb, l0, l1, l2, l3, gd, pr⟩ := s
  dsimp only at *
  obtain ⟨i, rfl⟩ := Int.eq_ofNat_of_zero_le ha0
  have hi : i < l1.length := by omega
  obtain rfl := hA (by omega)
  have hmg : m ≠ g := fun e => box_apart h1 X (by decide) (by rw [← e]; rfl)
  have HR := Lib.hid R
  unfold maxLen at hx
  have HXX := Lib.hid hx
  clear hA hgz R hBg hx hnc sl X O h0 h1 h2 h3
  have q0 := (HR.out (i * 2) (by rw [mntCs_len]; omega)).1.trans (mntCs_at l1 hi).1
  have hf0 := (HR.out (i * 2) (by rw [mntCs_len]; omega)).2
  have q1 := (HR.out (i * 2 + 1) (by rw [mntCs_len]; omega)).1.trans (mntCs_at l1 hi).2
  have hf1 := (HR.out (i * 2 + 1) (by rw [mntCs_len]; omega)).2
  have HE : Hid (applyR ⟨ph, co, ck, bo, ba, lb, l0, l1, l2, l3, gd, pr⟩ ⟨4, i, b⟩ = ⟨ph, co, ck, bo, ba, lb, l0, l1.set i (false, 0), l2, l3, gd, pr⟩) := Lib.hid rfl
  go_enter Tryz.func59, Tryz.ntmps59
  go_wp2
  all_goals
    refine bodyPost_ret (v := .tuple #[]) (by simp [results, Tryz.results59, go_sem]) rfl ?_
    rw [HE.out]
    have X0 := HX.out
    have k0 := Keeps.refl (· = m) w
    have s0 := H1.out
    have s1 := (World.ownsRow.stored s0 (i * 2) (.bool false)).1
    have k1 := k0.set (p := ⟨m, i * 2, none⟩) rfl (.bool false)
    have s2 := (World.ownsRow.stored s1 (i * 2 + 1) (.int .i64 0)).1
    have k2 := k1.set (p := ⟨m, i * 2 + 1, none⟩) rfl (.int .i64 0)
    have hX := X0.keeps k2 (fun e => hmg e.symm)
    refine ⟨rfl, ⟨_, ⟨v0, .slice (some ⟨m, 0, none⟩) l1.length c, v2, v3, rfl, keep_other H0.out H1.out rfl (by decide) k2, ?_, keep_other H2.out H1.out rfl (by decide) k2, keep_other H3.out H1.out rfl (by decide) k2⟩, _, rfl, hX⟩, k2.mono fun b hb => Or.inr ⟨_, 7, _, rfl, rfl, by rw [hb]; rfl⟩⟩
    rw [List.length_set, mntCs_set l1 hi]
    exact s2

set_option maxRecDepth 4000 in
set_option maxHeartbeats 2000000 in
theorem chg_give (v : Value) (s : StD) (a b : Int) (w : World) (B g : Nat) (h : BxS w B g v s) (ha0 : 0 ≤ a) (ha1 : a < s.devs.length) :
    Calls Tryz.prog 60 #[.pointer (some ⟨g, 0, none⟩), .int .i64 a, .int .i64 b] w (Chg w B g v (applyR s ⟨5, a, b⟩)) := by
  obtain ⟨O, cs, hv, X⟩ := h
  obtain ⟨v0, v1, v2, v3, rfl, h0, h1, h2, h3⟩ := O.it
  injection hv with hv
  subst hv
  have H0 := Lib.hid h0
  have H1 := Lib.hid h1
  have H2 := Lib.hid h2
  have H3 := Lib.hid h3
  have HX := Lib.hid X
  obtain ⟨A, c, m, rfl, hA, hnc, hBg, hgz, R, sl, hx⟩ := open_row h2
  have hC := X.C
  have hF := X.frozen
  obtain ⟨ph, co, ck, bo, ba, lb, l0, l1, l2, l3, gd, pr⟩ := s
  dsimp only at *
  obtain ⟨i, rfl⟩ := Int.eq_ofNat_of_zero_le ha0
  have hi : i < l2.length := by omega
  obtain rfl := hA (by omega)
  have hmg : m ≠ g := fun e => box_apart h2 X (by decide) (by rw [← e]; rfl)
  have HR := Lib.hid R
  unfold maxLen at hx
  have HXX := Lib.hid hx
  clear hA hgz R hBg hx hnc sl X O h0 h1 h2 h3
  have q0 := (HR.out i (by rw [devCs_len]; omega)).1.trans (devCs_at l2 hi)
  have hf0 := (HR.out i (by rw [devCs_len]; omega)).2
  have HE : Hid (applyR ⟨ph, co, ck, bo, ba, lb, l0, l1, l2, l3, gd, pr⟩ ⟨5, i, b⟩ = ⟨ph, co, ck, bo, ba, lb, l0, l1, l2.set i false, l3, gd, pr⟩) := Lib.hid rfl
  go_enter Tryz.func60, Tryz.ntmps60
  go_wp2
  all_goals
    refine bodyPost_ret (v := .tuple #[]) (by simp [results, Tryz.results60, go_sem]) rfl ?_
    rw [HE.out]
    have X0 := HX.out
    have k0 := Keeps.refl (· = m) w
    have s0 := H2.out
    have s1 := (World.ownsRow.stored s0 (i) (.bool false)).1
    have k1 := k0.set (p := ⟨m, i, none⟩) rfl (.bool false)
    have hX := X0.keeps k1 (fun e => hmg e.symm)
    refine ⟨rfl, ⟨_, ⟨v0, v1, .slice (some ⟨m, 0, none⟩) l2.length c, v3, rfl, keep_other H0.out H2.out rfl (by decide) k1, keep_other H1.out H2.out rfl (by decide) k1, ?_, keep_other H3.out H2.out rfl (by decide) k1⟩, _, rfl, hX⟩, k1.mono fun b hb => Or.inr ⟨_, 8, _, rfl, rfl, by rw [hb]; rfl⟩⟩
    rw [List.length_set, devCs_set]
    exact s1
end Go.Proofs.YtobpjahjahlhpaaGreatDoor
/- Xg -/
set_option linter.unusedVariables false
namespace Go.Proofs.YtobpjahjahlhpaaGreatDoor
open Go.RowKit

theorem insert_any (l : List Int) (x : Int) (i : Nat) (w : World) (B vb : Nat) (v : Value) (hB : B ≤ w.heap.size) (h : LkR w B v l) (hi : i ≤ l.length) (hl : l.length ≤ 1048576) (hne : v.ownBlock ≠ some vb) (hv : w.heap[vb]? = some (.cells #[.int .i64 x] 2)) :
    Calls Tryz.prog 114 #[v, .int .i64 i, .slice (some ⟨vb, 0, none⟩) 1 1] w (Puts w B v (l.take i ++ x :: l.drop i)) := by
  by_cases e : i = l.length
  · subst e
    rw [List.take_length, List.drop_length]
    exact insert_end l x w B vb v hB h hl hv
  · rcases h.2 with ⟨rfl, hn⟩ | ⟨g, cap, cur, rfl, hb, hh, hnc, hcm, hsz, ht⟩
    · omega
    · have hg : vb ≠ g := fun e => hne (by rw [e]; rfl)
      by_cases hc : l.length < cap
      · exact insert_room l x w B vb g cap i hB h (by omega) hc hg hv
      · exact insert_grow l x w B vb g cap i hB h (by omega) hnc (by omega) hl hv

set_option maxRecDepth 4000 in
set_option maxHeartbeats 2000000 in
theorem chg_lock (v : Value) (s : StD) (a b : Int) (w : World) (B g : Nat) (hB : B ≤ w.heap.size) (h : BxS w B g v s) (hr : s.lks.Pairwise (· < ·)) (hf : s.lks.length ≤ 1048576) :
    Calls Tryz.prog 61 #[.pointer (some ⟨g, 0, none⟩), .int .i64 a, .int .i64 b] w (Chg w B g v (applyR s ⟨6, a, b⟩)) := by
  obtain ⟨O, cs, hv, X⟩ := h
  obtain ⟨v0, v1, v2, v3, rfl, h0, h1, h2, h3⟩ := O.it
  injection hv with hv
  subst hv
  obtain ⟨ph, co, ck, bo, ba, lb, l0, l1, l2, l3, gd, pr⟩ := s
  dsimp only at *
  have he : applyR ⟨ph, co, ck, bo, ba, lb, l0, l1, l2, l3, gd, pr⟩ ⟨6, a, b⟩ = ⟨ph, co, ck, bo, ba, lb, l0, l1, l2, if l3.contains a then l3 else l3.take (placeN l3 a) ++ a :: l3.drop (placeN l3 a), gd, pr⟩ := by rw [← with_place a hr]; rfl
  have HE := Lib.hid he
  have HP := Lib.hid (place_le l3 a)
  have HR := Lib.hid hr
  have HF := Lib.hid hf
  have HB := Lib.hid hB
  have H0 := Lib.hid h0
  have H1 := Lib.hid h1
  have H2 := Lib.hid h2
  have H3 := Lib.hid h3
  have HX := Lib.hid X
  have hC := X.C
  have hF := X.frozen
  obtain ⟨A, c, rfl, -⟩ := open_rowR h3
  clear he hr hf hB X O h0 h1 h2 h3
  go_enter Tryz.func61, Tryz.ntmps61
  go_wp2_with fail
  refine (search_any _ l3 a _ B H3.out HR.out HF.out).mono ?_
  rintro e w1 ⟨rfl, q, hq⟩
  have K : Below w.heap.size w w1 := by rw [hq]; exact below_drewN (Below.refl _ _) q
  clear hq
  generalize hp : placeN l3 a = p at *
  cases hc : l3.contains a
  · obtain ⟨L, hL⟩ : ∃ L, l3.take p ++ a :: l3.drop p = L := ⟨_, rfl⟩
    replace HE : Hid (applyR ⟨ph, co, ck, bo, ba, lb, l0, l1, l2, l3, gd, pr⟩ ⟨6, a, b⟩ = ⟨ph, co, ck, bo, ba, lb, l0, l1, l2, L, gd, pr⟩) := Lib.hid (by rw [HE.out, hc, ← hL]; rfl)
    have X1 := HX.out.go K
    have G3 := Lib.hid (ownsRow_below H3.out K)
    have hbox : w1.heap.size ≠ g := by have := X1.lt.2; omega
    clear hC hF
    have hC := X1.C
    have hF := X1.frozen
    go_wp2_with fail
    have K2 : Below w1.heap.size w1 (w1.alloc (.cells #[.int .i64 a] 2)) := (Below.refl _ _).alloc (Nat.le_refl _) _
    have hnew : (w1.alloc (.cells #[.int .i64 a] 2)).heap[w1.heap.size]? = some (.cells #[.int .i64 a] 2) := heap_alloc_new w1 _
    have hB1 : B ≤ (w1.alloc (.cells #[.int .i64 a] 2)).heap.size := Nat.le_trans (Nat.le_trans HB.out K.size) K2.size
    refine (insert_any l3 a p _ B w1.heap.size _ hB1 (ownsRow_below G3.out K2) HP.out HF.out (fun hv => by have := (G3.out.lt _ hv).2; omega) hnew).mono ?_
    rintro e w3 ⟨v', rfl, R', kp⟩
    have KK := K.trans (K2.mono K.size)
    have X2 := (X1.go K2).keeps kp (box_apart (ownsRow_below G3.out K2) (X1.go K2) (by decide))
    have Q0 := Lib.hid (ownsRow_keeps (ownsRow_below H0.out KK) kp fun r hr e => absurd (row_type H0.out H3.out hr e) (by decide))
    have Q1 := Lib.hid (ownsRow_keeps (ownsRow_below H1.out KK) kp fun r hr e => absurd (row_type H1.out H3.out hr e) (by decide))
    have Q2 := Lib.hid (ownsRow_keeps (ownsRow_below H2.out KK) kp fun r hr e => absurd (row_type H2.out H3.out hr e) (by decide))
    have HK : Hid (Keeps (fun b => b = g ∨ (Value.slice A l3.length c).ownBlock = some b) w w3) := Lib.hid ((Keeps.of_below KK).trans (kp.mono fun b hb => Or.inr hb))
    rw [hL] at R'
    clear hL
    obtain ⟨D, d, rfl, -⟩ := open_rowR R'
    have Q3 := Lib.hid R'
    have HX2 := Lib.hid X2
    clear kp K K2 KK hnew hB1 X1 G3 hC hF R' hbox
    have hC := X2.C
    have hF := X2.frozen
    clear X2
    go_wp2
    refine bodyPost_ret (v := .tuple #[]) (by simp [results, Tryz.results61, go_sem]) rfl ?_
    rw [HE.out]
    have k2 := keeps_set w3 g 9 (.slice D L.length d)
    refine ⟨rfl, ⟨_, ⟨v0, v1, v2, .slice D L.length d, rfl, keep_other Q0.out HX2.out rfl (by decide) k2, keep_other Q1.out HX2.out rfl (by decide) k2, keep_other Q2.out HX2.out rfl (by decide) k2, keep_other Q3.out HX2.out rfl (by decide) k2⟩, _, rfl, (World.ownsRow.stored HX2.out 9 (.slice D L.length d)).1⟩, ?_⟩
    exact (HK.out.trans (k2.mono fun b hb => Or.inl hb)).mono fun b hb => hb.imp id fun h => ⟨_, 9, _, rfl, rfl, h⟩
  · replace HE : Hid (applyR ⟨ph, co, ck, bo, ba, lb, l0, l1, l2, l3, gd, pr⟩ ⟨6, a, b⟩ = ⟨ph, co, ck, bo, ba, lb, l0, l1, l2, l3, gd, pr⟩) := Lib.hid (by rw [HE.out, hc]; rfl)
    have X1 := HX.out.go K
    clear hC hF
    go_wp2
    refine bodyPost_ret (v := .tuple #[]) (by simp [results, Tryz.results61, go_sem]) rfl ?_
    rw [HE.out]
    exact ⟨rfl, ⟨_, ⟨v0, v1, v2, _, rfl, ownsRow_below H0.out K, ownsRow_below H1.out K, ownsRow_below H2.out K, ownsRow_below H3.out K⟩, _, rfl, X1⟩, Keeps.of_below K⟩

set_option maxRecDepth 4000 in
set_option maxHeartbeats 2000000 in
theorem chg_unlock (v : Value) (s : StD) (a b : Int) (w : World) (B g : Nat) (hB : B ≤ w.heap.size) (h : BxS w B g v s) (hr : s.lks.Pairwise (· < ·)) (hf : s.lks.length ≤ 1048576) :
    Calls Tryz.prog 62 #[.pointer (some ⟨g, 0, none⟩), .int .i64 a, .int .i64 b] w (Chg w B g v (applyR s ⟨7, a, b⟩)) := by
  obtain ⟨O, cs, hv, X⟩ := h
  obtain ⟨v0, v1, v2, v3, rfl, h0, h1, h2, h3⟩ := O.it
  injection hv with hv
  subst hv
  obtain ⟨ph, co, ck, bo, ba, lb, l0, l1, l2, l3, gd, pr⟩ := s
  dsimp only at *
  have he : applyR ⟨ph, co, ck, bo, ba, lb, l0, l1, l2, l3, gd, pr⟩ ⟨7, a, b⟩ = ⟨ph, co, ck, bo, ba, lb, l0, l1, l2, if l3.contains a then l3.take (placeN l3 a) ++ l3.drop (placeN l3 a + 1) else l3, gd, pr⟩ := by rw [← without_place a hr]; rfl
  have HE := Lib.hid he
  have HP := Lib.hid (fun h => place_lt (x := a) h hr)
  have HR := Lib.hid hr
  have HF := Lib.hid hf
  have HB := Lib.hid hB
  have H0 := Lib.hid h0
  have H1 := Lib.hid h1
  have H2 := Lib.hid h2
  have H3 := Lib.hid h3
  have HX := Lib.hid X
  have hC := X.C
  have hF := X.frozen
  obtain ⟨A, c, rfl, -⟩ := open_rowR h3
  clear he hr hf hB X O h0 h1 h2 h3
  go_enter Tryz.func62, Tryz.ntmps62
  go_wp2_with fail
  refine (search_any _ l3 a _ B H3.out HR.out HF.out).mono ?_
  rintro e w1 ⟨rfl, q, hq⟩
  have K : Below w.heap.size w w1 := by rw [hq]; exact below_drewN (Below.refl _ _) q
  clear hq
  generalize hp : placeN l3 a = p at *
  cases hc : l3.contains a
  · replace HE : Hid (applyR ⟨ph, co, ck, bo, ba, lb, l0, l1, l2, l3, gd, pr⟩ ⟨7, a, b⟩ = ⟨ph, co, ck, bo, ba, lb, l0, l1, l2, l3, gd, pr⟩) := Lib.hid (by rw [HE.out, hc]; rfl)
    have X1 := HX.out.go K
    clear hC hF
    go_wp2
    refine bodyPost_ret (v := .tuple #[]) (by simp [results, Tryz.results62, go_sem]) rfl ?_
    rw [HE.out]
    exact ⟨rfl, ⟨_, ⟨v0, v1, v2, _, rfl, ownsRow_below H0.out K, ownsRow_below H1.out K, ownsRow_below H2.out K, ownsRow_below H3.out K⟩, _, rfl, X1⟩, Keeps.of_below K⟩
  · obtain ⟨L, hL⟩ : ∃ L, l3.take p ++ l3.drop (p + 1) = L := ⟨_, rfl⟩
    replace HE : Hid (applyR ⟨ph, co, ck, bo, ba, lb, l0, l1, l2, l3, gd, pr⟩ ⟨7, a, b⟩ = ⟨ph, co, ck, bo, ba, lb, l0, l1, l2, L, gd, pr⟩) := Lib.hid (by rw [HE.out, hc, ← hL]; rfl)
    have X1 := HX.out.go K
    have G3 := Lib.hid (ownsRow_below H3.out K)
    have hbox : w1.heap.size ≠ g := by have := X1.lt.2; omega
    clear hC hF
    have hC := X1.C
    have hF := X1.frozen
    have hp1 : p < 1048576 := Nat.lt_of_lt_of_le (HP.out hc) HF.out
    have hw : IntKind.i64.wrap ((p : Int) + 1) = (p : Int) + 1 := by rw [IntKind.wrap_i64]; omega
    go_wp2_with fail
    refine (delete_any _ l3 p _ B G3.out (HP.out hc) HF.out).mono ?_
    rintro e w3 ⟨v', rfl, R', kp⟩
    have X2 := X1.keeps kp (box_apart G3.out X1 (by decide))
    have Q0 := Lib.hid (ownsRow_keeps (ownsRow_below H0.out K) kp fun r hr e => absurd (row_type H0.out H3.out hr e) (by decide))
    have Q1 := Lib.hid (ownsRow_keeps (ownsRow_below H1.out K) kp fun r hr e => absurd (row_type H1.out H3.out hr e) (by decide))
    have Q2 := Lib.hid (ownsRow_keeps (ownsRow_below H2.out K) kp fun r hr e => absurd (row_type H2.out H3.out hr e) (by decide))
    have HK : Hid (Keeps (fun b => b = g ∨ (Value.slice A l3.length c).ownBlock = some b) w w3) := Lib.hid ((Keeps.of_below K).trans (kp.mono fun b hb => Or.inr hb))
    rw [hL] at R'
    clear hL
    obtain ⟨D, d, rfl, -⟩ := open_rowR R'
    have Q3 := Lib.hid R'
    have HX2 := Lib.hid X2
    clear kp K X1 G3 hC hF R' hbox
    have hC := X2.C
    have hF := X2.frozen
    clear X2
    go_wp2
    refine bodyPost_ret (v := .tuple #[]) (by simp [results, Tryz.results62, go_sem]) rfl ?_
    rw [HE.out]
    have k2 := keeps_set w3 g 9 (.slice D L.length d)
    refine ⟨rfl, ⟨_, ⟨v0, v1, v2, .slice D L.length d, rfl, keep_other Q0.out HX2.out rfl (by decide) k2, keep_other Q1.out HX2.out rfl (by decide) k2, keep_other Q2.out HX2.out rfl (by decide) k2, keep_other Q3.out HX2.out rfl (by decide) k2⟩, _, rfl, (World.ownsRow.stored HX2.out 9 (.slice D L.length d)).1⟩, ?_⟩
    exact (HK.out.trans (k2.mono fun b hb => Or.inl hb)).mono fun b hb => hb.imp id fun h => ⟨_, 9, _, rfl, rfl, h⟩
end Go.Proofs.YtobpjahjahlhpaaGreatDoor
/- Xi -/
set_option linter.unusedVariables false
namespace Go.Proofs.YtobpjahjahlhpaaGreatDoor
open Go.RowKit

/-- The table. -/
abbrev chgT : Array Value := #[.nilFunc, .func (.func 56) #[] #[], .func (.func 57) #[] #[], .func (.func 58) #[] #[], .func (.func 59) #[] #[], .func (.func 60) #[] #[], .func (.func 61) #[] #[], .func (.func 62) #[] #[], .func (.func 63) #[] #[], .func (.func 64) #[] #[], .func (.func 65) #[] #[], .func (.func 66) #[] #[], .func (.func 67) #[] #[]]
set_option maxRecDepth 4000 in
set_option maxHeartbeats 2000000 in
theorem kindChanges_any (w : World) : Calls Tryz.prog 30 #[] w fun e w' => e = .returned (.agg chgT) ∧ Below w.heap.size w w' := by
  go_enter Tryz.func30, Tryz.ntmps30
  go_wp2
  refine bodyPost_ret (v := .agg chgT) (by simp [results, Tryz.results30, go_sem]) rfl ?_
  exact ⟨rfl, (Below.refl _ _).alloc (Nat.le_refl _) _⟩
theorem enter_chg1 (args : Array Value) (w : World) : (callFunc 56 args).run Tryz.prog w = .ok (.enter 56 args) w := by simp [go_sem]
theorem enter_chg2 (args : Array Value) (w : World) : (callFunc 57 args).run Tryz.prog w = .ok (.enter 57 args) w := by simp [go_sem]
theorem enter_chg3 (args : Array Value) (w : World) : (callFunc 58 args).run Tryz.prog w = .ok (.enter 58 args) w := by simp [go_sem]
theorem enter_chg4 (args : Array Value) (w : World) : (callFunc 59 args).run Tryz.prog w = .ok (.enter 59 args) w := by simp [go_sem]
theorem enter_chg5 (args : Array Value) (w : World) : (callFunc 60 args).run Tryz.prog w = .ok (.enter 60 args) w := by simp [go_sem]
theorem enter_chg6 (args : Array Value) (w : World) : (callFunc 61 args).run Tryz.prog w = .ok (.enter 61 args) w := by simp [go_sem]
theorem enter_chg7 (args : Array Value) (w : World) : (callFunc 62 args).run Tryz.prog w = .ok (.enter 62 args) w := by simp [go_sem]
theorem enter_chg8 (args : Array Value) (w : World) : (callFunc 63 args).run Tryz.prog w = .ok (.enter 63 args) w := by simp [go_sem]
theorem enter_chg9 (args : Array Value) (w : World) : (callFunc 64 args).run Tryz.prog w = .ok (.enter 64 args) w := by simp [go_sem]
theorem enter_chg10 (args : Array Value) (w : World) : (callFunc 65 args).run Tryz.prog w = .ok (.enter 65 args) w := by simp [go_sem]
theorem enter_chg11 (args : Array Value) (w : World) : (callFunc 66 args).run Tryz.prog w = .ok (.enter 66 args) w := by simp [go_sem]
theorem enter_chg12 (args : Array Value) (w : World) : (callFunc 67 args).run Tryz.prog w = .ok (.enter 67 args) w := by simp [go_sem]
/-- What a record's change does, by the table. -/
theorem change_at (s : StD) (r : RecD) (hk : recOkB r = true) (ht : thereB s r = true) (hr : s.lks.Pairwise (· < ·)) (hf : s.lks.length ≤ 1048576) :
    ∃ f, chgT[r.k.toNat]? = some (.func (.func f) #[] #[]) ∧ (∀ args w, (callFunc f args).run Tryz.prog w = .ok (.enter f args) w) ∧
      ∀ (v : Value) (w : World) (B g : Nat), B ≤ w.heap.size → BxS w B g v s → Calls Tryz.prog f #[.pointer (some ⟨g, 0, none⟩), .int .i64 r.a, .int .i64 r.b] w (Chg w B g v (applyR s r)) := by
  obtain ⟨k, a, b⟩ := r
  rw [recOkB_true] at hk
  simp only [] at hk
  have ha0 : 0 ≤ a := by omega
  have h12 : k = 1 ∨ k = 2 ∨ k = 3 ∨ k = 4 ∨ k = 5 ∨ k = 6 ∨ k = 7 ∨ k = 8 ∨ k = 9 ∨ k = 10 ∨ k = 11 ∨ k = 12 := by omega
  clear hk
  rcases h12 with rfl | rfl | rfl | rfl | rfl | rfl | rfl | rfl | rfl | rfl | rfl | rfl
  · by_cases ha : a = 0
    · subst ha
      exact ⟨_, rfl, enter_chg1, fun v w B g hB h => chg_idle v s b w B g hB h⟩
    · exact ⟨_, rfl, enter_chg1, fun v w B g hB h => chg_phase v s a b w B g h ha⟩
  · exact ⟨_, rfl, enter_chg2, fun v w B g hB h => chg_pod v s a b w B g h ha0 (by simpa [thereB] using ht)⟩
  · exact ⟨_, rfl, enter_chg3, fun v w B g hB h => chg_busy v s a b w B g h ha0 (by simpa [thereB] using ht)⟩
  · exact ⟨_, rfl, enter_chg4, fun v w B g hB h => chg_free v s a b w B g h ha0 (by simpa [thereB] using ht)⟩
  · exact ⟨_, rfl, enter_chg5, fun v w B g hB h => chg_give v s a b w B g h ha0 (by simpa [thereB] using ht)⟩
  · exact ⟨_, rfl, enter_chg6, fun v w B g hB h => chg_lock v s a b w B g hB h hr hf⟩
  · exact ⟨_, rfl, enter_chg7, fun v w B g hB h => chg_unlock v s a b w B g hB h hr hf⟩
  · exact ⟨_, rfl, enter_chg8, fun v w B g hB h => chg_clock v s a b w B g h⟩
  · exact ⟨_, rfl, enter_chg9, fun v w B g hB h => chg_band v s a b w B g h⟩
  · exact ⟨_, rfl, enter_chg10, fun v w B g hB h => chg_boot v s a b w B g h⟩
  · exact ⟨_, rfl, enter_chg11, fun v w B g hB h => chg_lockBy v s a b w B g h⟩
  · exact ⟨_, rfl, enter_chg12, fun v w B g hB h => chg_probe v s a b w B g h⟩
end Go.Proofs.YtobpjahjahlhpaaGreatDoor
/- Vc -/
set_option linter.unusedVariables false
namespace Go.Proofs.YtobpjahjahlhpaaGreatDoor
open Go.RowKit

theorem aliveB_no {x : Int} (h0 : ¬ x = 0) (h1 : ¬ x = 1) (h2 : ¬ x = 2) (h3 : ¬ x = 3) : aliveB x = false := by
  rw [Bool.eq_false_iff]
  intro h
  rw [aliveB, inB_true] at h
  omega
set_option maxHeartbeats 1000000 in
theorem implAlive_any (x : Int) (w : World) : Calls Tryz.prog 140 #[.int .i64 x] w fun e w' => e = .returned (.bool (aliveB x)) ∧ w = w' := by
  by_cases h0 : x = 0
  · subst h0
    go_enter Tryz.func140, Tryz.ntmps140
    go_wp2
    all_goals (go_ret; exact ⟨ret_bool (by decide), rfl⟩)
  · by_cases h1 : x = 1
    · subst h1
      go_enter Tryz.func140, Tryz.ntmps140
      go_wp2
      all_goals (go_ret; exact ⟨ret_bool (by decide), rfl⟩)
    · by_cases h2 : x = 2
      · subst h2
        go_enter Tryz.func140, Tryz.ntmps140
        go_wp2
        all_goals (go_ret; exact ⟨ret_bool (by decide), rfl⟩)
      · by_cases h3 : x = 3
        · subst h3
          go_enter Tryz.func140, Tryz.ntmps140
          go_wp2
          all_goals (go_ret; exact ⟨ret_bool (by decide), rfl⟩)
        · go_enter Tryz.func140, Tryz.ntmps140
          go_wp2
          all_goals (go_ret; exact ⟨ret_bool (by rw [aliveB_no h0 h1 h2 h3]), rfl⟩)

end Go.Proofs.YtobpjahjahlhpaaGreatDoor
/- VlA -/
set_option linter.unusedVariables false
namespace Go.Proofs.YtobpjahjahlhpaaGreatDoor
open Go.RowKit

def liveP (s : StD) (i : Nat) : Bool := aliveB (podA s.pods i).1
theorem liveL_le (s : StD) : (liveL s).length ≤ s.pods.length := picks_le _ _
set_option maxRecDepth 100000 in
set_option maxHeartbeats 2000000 in
theorem implLiveIn_any (v : Value) (s : StD) (w : World) (h : IsSt w w.heap.size v s) (hn : s.pods.length ≤ 1048576) :
    Calls Tryz.prog 101 #[v] w (Listed w (liveL s)) := by
  obtain ⟨⟨E0, E1, E2, E3, k0, k1, k2, k3, rfl, s0, -, -, -⟩, -, -, -, -⟩ := h
  have S := Lib.hid s0
  have HN := Lib.hid hn
  have hn' : s.pods.length ≤ 2 ^ 63 - 1 := by omega
  clear s0 hn
  obtain ⟨i0, hi, hz0, hz1, hz2⟩ := info_parts info_i64
  have HI := Lib.hid hi
  have HZ0 := Lib.hid hz0
  have HZ1 := Lib.hid hz1
  have HZ2 := Lib.hid hz2
  clear hi hz0 hz1 hz2
  go_enter Tryz.func101, Tryz.ntmps101
  go_wp2
  have X1 := (Own.box w (stC E0 E1 E2 E3 s.pods.length k0 s.mnts.length k1 s.devs.length k2 s.lks.length k3 s.ph s.co s.ck s.bo s.ba s.lb s.gd s.pr) 34).alloc (.cells #[] 2)
  have O1 : ((w.alloc (.cells (stC E0 E1 E2 E3 s.pods.length k0 s.mnts.length k1 s.devs.length k2 s.lks.length k3 s.ph s.co s.ck s.bo s.ba s.lb s.gd s.pr) 34)).alloc (.cells #[] 2)).ownsRow (w.heap.size + 1) 2 1 (.slice (some ⟨w.heap.size + 1, 0, none⟩) 0 0) 0 [] := by
    have := World.ownsRow_made (base := w.heap.size + 1) (e := 2) (size := 1) (w.alloc (.cells (stC E0 E1 E2 E3 s.pods.length k0 s.mnts.length k1 s.devs.length k2 s.lks.length k3 s.ph s.co s.ck s.bo s.ba s.lb s.gd s.pr) 34)) #[] 0 (by simp) (Nat.zero_le _) rfl
    simpa using this
  go_loopw [3, 10] (fun v i wr => ∃ k : Nat, k ≤ s.pods.length ∧ i = .int .i64 k ∧ wr.ownsRow (w.heap.size + 1) 2 1 v (picks k (liveP s)).length ((picks k (liveP s)).map (Value.int .i64)) ∧
    Own w wr w.heap.size (stC E0 E1 E2 E3 s.pods.length k0 s.mnts.length k1 s.devs.length k2 s.lks.length k3 s.ph s.co s.ck s.bo s.ba s.lb s.gd s.pr)) (fun _ i _ => s.pods.length - (intOf i).toNat)
  case atStart => exact ⟨0, Nat.zero_le _, rfl, O1, X1⟩
  case round =>
    clear O1 X1
    obtain ⟨k, hk, rfl, O, X⟩ := hrel
    have HO := Lib.hid O
    clear O
    have hC := X.C
    have hz := X.z
    by_cases hlt : k < s.pods.length
    · have hle := picks_le k (liveP s)
      have h63 : (picks k (liveP s)).length + 1 ≤ maxLen := by have := HN.out; unfold maxLen; omega
      have hby : ((picks k (liveP s)).length + 1) * 8 ≤ 140737488355328 := by have := HN.out; omega
      have H63 := Lib.hid h63
      have HBY := Lib.hid hby
      clear h63 hby hle
      obtain ⟨b, off, rfl, hb, hc⟩ := (S.out.below X.K (Nat.le_refl _)).cell hlt
      have hp := podCs_at s.pods (i := k) hlt
      have q0 := (hc 0 (by decide)).trans hp.1
      have q1 := (hc 1 (by decide)).trans hp.2
      rw [Nat.add_zero] at q0
      clear hc hp
      cases hv : aliveB (podA s.pods k).1
      · have HV := Lib.hid (picks_no (n := k) (p := liveP s) hv)
        generalize podA s.pods k = r at q0 q1 hv
        obtain ⟨x, y⟩ := r
        dsimp only at q0 q1 hv
        go_wp2_with (go_at_call 140; refine (implAlive_any _ _).mono ?_; rintro e w' ⟨rfl, rfl⟩)
        refine ⟨⟨k + 1, by omega, by go_num, by rw [HV.out]; exact HO.out.alloc (.cells #[.int .i64 x, .int .i64 y] 98), X.alloc (.cells #[.int .i64 x, .int .i64 y] 98)⟩, by simp [intOf]; omega⟩
      · have HV := Lib.hid (picks_yes (n := k) (p := liveP s) hv)
        generalize podA s.pods k = r at q0 q1 hv
        obtain ⟨x, y⟩ := r
        dsimp only at q0 q1 hv
        go_wp2_with (first
          | (go_at_call 140; refine (implAlive_any _ _).mono ?_; rintro e w' ⟨rfl, rfl⟩)
          | (at_builtin; refine wpList_append_own _ rfl _ _ 25 rfl (w.heap.size + 1) 2 i0 (.int .i64 0) 1 8 Tryz.underlying25 HI.out HZ0.out HZ1.out HZ2.out rfl (by decide) _ _ _ rfl ((HO.out.alloc (.cells #[.int .i64 x, .int .i64 y] 98)).alloc _) ⟨wr.heap.size + 1, 0, none⟩ 1 1 [.int .i64 k] rfl rfl (by simpa [heap_size_alloc_] using cell_one_new (wr.alloc (.cells #[.int .i64 x, .int .i64 y] 98)) (.int .i64 k) 2) (fun x hx => by simp at hx; subst hx; rfl) H63.out HBY.out (by simp <;> omega) ?_; intro v' w4 hown' hgrow hnil))
        have X3 := (X.alloc (.cells #[.int .i64 x, .int .i64 y] 98)).alloc (.cells #[.int .i64 k] 2)
        refine ⟨⟨k + 1, by omega, by go_num, ?_, ?_⟩, by simp [intOf]; omega⟩
        · rw [HV.out]
          simpa using hown'
        · exact X3.grown hgrow fun g hg => by have := (HO.out.lt g hg).1; omega
    · obtain rfl : k = s.pods.length := by omega
      go_wp2
      go_ret
      exact ⟨_, rfl, ownsRow_base HO.out (Nat.le_succ _), X.K⟩

end Go.Proofs.YtobpjahjahlhpaaGreatDoor
/- Ha -/
set_option linter.unusedVariables false
namespace Go.Proofs.YtobpjahjahlhpaaGreatDoor
open Go.RowKit

def mayFreeB (d : PlanD) (s : StD) (a : Int) : Bool := inB a 0 (d.n2 - 1) && freeB d s a.toNat
def mayGiveB (d : PlanD) (s : StD) (a : Int) : Bool := inB a 0 (d.n3 - 1) && giveB d s a.toNat

set_option maxRecDepth 100000 in
set_option maxHeartbeats 4000000 in
theorem implMayGive_any (pv sv : Value) (d : PlanD) (s : StD) (a : Int) (w : World) (hp : IsPlan w w.heap.size pv d) (hs : IsSt w w.heap.size sv s) :
    Calls Tryz.prog 147 #[pv, sv, .int .i64 a] w fun e w' => e = .returned (.bool (stOkB d s && mayGiveB d s a)) ∧ Below w.heap.size w w' := by
  have HP := Lib.hid hp
  have HS := Lib.hid hs
  obtain ⟨⟨P0, P1, P2, P3, k0, k1, k2, k3, rfl, s0, s1, s2, s3⟩, b0, b1, b2, b3⟩ := hp
  obtain ⟨⟨A0, A1, A2, A3, c0, c1, c2, c3, rfl, t0, t1, t2, t3⟩, f0, f1, f2, f3⟩ := hs
  have S0 := Lib.hid s0
  have S1 := Lib.hid s1
  have S2 := Lib.hid s2
  have S3 := Lib.hid s3
  have R0 := Lib.hid t0
  have R1 := Lib.hid t1
  have R2 := Lib.hid t2
  have R3 := Lib.hid t3
  unfold maxLen at b0 b1 b2 b3 f0 f1 f2 f3
  clear s0 s1 s2 s3 t0 t1 t2 t3
  have T0 := Two.start w (planC P0 P1 P2 P3 d.n0 k0 d.n1 k1 d.n2 k2 d.n3 k3 d.l d.p d.t) (stC A0 A1 A2 A3 s.pods.length c0 s.mnts.length c1 s.devs.length c2 s.lks.length c3 s.ph s.co s.ck s.bo s.ba s.lb s.gd s.pr) 29 34
  obtain ⟨ans, hans⟩ : ∃ ans, (stOkB d s && mayGiveB d s a) = ans := ⟨_, rfl⟩
  rw [hans]
  have HANS := Lib.hid hans
  clear hans
  go_enter Tryz.func147, Tryz.ntmps147
  go_wp2_with fail
  refine (implStateOk_any _ _ d s _ ((HP.out.below T0.A.K (Nat.le_refl _)).more T0.A.K.size) ((HS.out.below T0.A.K (Nat.le_refl _)).more T0.A.K.size)).mono ?_
  rintro e w1 ⟨rfl, hb⟩
  have T1 := T0.step hb
  have hC := T1.A.C
  have hD := T1.O.C
  clear hb T0
  cases hok : stOkB d s
  · have OKB := Lib.hid hok
    clear hok
    go_wp2
    all_goals (go_ret; exact ⟨ret_bool (by rw [← HANS.out, OKB.out]; rfl), T1.A.K⟩)
  · have OK := Lib.hid (stOkB_iff.1 hok)
    have OKB := Lib.hid hok
    clear hok
    go_wp2_with fail
    refine (isIndex_any _ _ _).mono ?_
    rintro e w2 ⟨rfl, rfl⟩
    cases hin : inB a 0 (d.n3 - 1)
    · have HIN := Lib.hid hin
      clear hin
      go_wp2
      all_goals (go_ret; exact ⟨ret_bool (by rw [← HANS.out, OKB.out]; simp [mayGiveB, HIN.out]), T1.A.K⟩)
    · have HIN := Lib.hid hin
      obtain ⟨i, rfl, hi⟩ := index_nat (a := a) (n := d.n3) (by rw [hin]; decide)
      clear hin
      have hld : i < s.devs.length := by rw [OK.out.nd]; exact hi
      obtain ⟨m, hm, hml, hmp⟩ := dev_mnt OK.out.plan hi
      have hlm : m < s.mnts.length := by rw [OK.out.nm]; exact hml
      obtain ⟨b, off, rfl, hb, q0⟩ := (S3.out.own T1.A).cell1 hi
      obtain ⟨b', off', rfl, hb', hc⟩ := (R2.out.below T1.A.K (Nat.le_refl _)).cell hld
      have p0 := (hc 0 (by decide)).trans (devCs_at s.devs (i := i * 1 + 0) (by omega))
      rw [Nat.add_zero, Nat.mul_one] at p0
      obtain ⟨b2_, off2, rfl, hb2, hc2⟩ := (R1.out.below T1.A.K (Nat.le_refl _)).cell hlm
      have r0 := (hc2 0 (by decide)).trans (mntCs_at s.mnts hlm).1
      rw [Nat.add_zero] at r0
      clear hc hc2
      rw [hm] at q0
      have GB : Hid (giveB d s i = (devA s.devs i && !(mntA s.mnts m).1)) := Lib.hid (by unfold giveB; rw [hmp]; rfl)
      have HANS2 : Hid (ans = giveB d s i) := Lib.hid (by rw [← HANS.out, OKB.out]; simp [mayGiveB, HIN.out])
      generalize giveB d s i = g at GB HANS2
      generalize devA s.devs i = x at p0 GB
      generalize (mntA s.mnts m).1 = y at r0 GB
      clear hm hmp
      cases x
      · go_wp2
        all_goals (go_ret; exact ⟨ret_bool (by rw [HANS2.out, GB.out]; rfl), (T1.A).K⟩)
      · go_wp2_with fail
        go_quiet (fail)
        go_wp2
        all_goals (go_ret; exact ⟨ret_bool (by rw [HANS2.out, GB.out]; simp), (T1.A.drewN _).K⟩)

set_option maxRecDepth 100000 in
set_option maxHeartbeats 4000000 in
theorem implChildHeld_any (pv sv : Value) (d : PlanD) (s : StD) (i : Nat) (w : World) (hp : IsPlan w w.heap.size pv d) (hs : IsSt w w.heap.size sv s) (hok : StOk d s) :
    Calls Tryz.prog 174 #[pv, sv, .int .i64 i] w fun e w' => e = .returned (.bool (!(List.range d.n2).all (kidB d s i))) ∧ Below w.heap.size w w' := by
  have HP := Lib.hid hp
  have HS := Lib.hid hs
  obtain ⟨⟨P0, P1, P2, P3, k0, k1, k2, k3, rfl, s0, s1, s2, s3⟩, b0, b1, b2, b3⟩ := hp
  obtain ⟨⟨A0, A1, A2, A3, c0, c1, c2, c3, rfl, t0, t1, t2, t3⟩, f0, f1, f2, f3⟩ := hs
  have S0 := Lib.hid s0
  have S1 := Lib.hid s1
  have S2 := Lib.hid s2
  have S3 := Lib.hid s3
  have R0 := Lib.hid t0
  have R1 := Lib.hid t1
  have R2 := Lib.hid t2
  have R3 := Lib.hid t3
  unfold maxLen at b0 b1 b2 b3 f0 f1 f2 f3
  clear s0 s1 s2 s3 t0 t1 t2 t3
  have T0 := Two.start w (planC P0 P1 P2 P3 d.n0 k0 d.n1 k1 d.n2 k2 d.n3 k3 d.l d.p d.t) (stC A0 A1 A2 A3 s.pods.length c0 s.mnts.length c1 s.devs.length c2 s.lks.length c3 s.ph s.co s.ck s.bo s.ba s.lb s.gd s.pr) 29 34
  have HLN := Lib.hid hok.nm
  obtain ⟨ans, hans⟩ : ∃ ans, (List.range d.n2).all (kidB d s i) = ans := ⟨_, rfl⟩
  rw [hans]
  have HANS := Lib.hid hans
  clear hans hok
  have hC := T0.A.C
  have hD := T0.O.C
  go_enter Tryz.func174, Tryz.ntmps174
  go_wp2
  go_step3
  go_wp2
  go_step3
  go_wp2_with fail
  go_loopw [7, 13] (fun h j wr => h = .bool false ∧ ∃ k : Nat, k ≤ d.n2 ∧ j = .int .i64 k ∧ (∀ j, j < k → kidB d s i j = true) ∧ Two w wr (planC P0 P1 P2 P3 d.n0 k0 d.n1 k1 d.n2 k2 d.n3 k3 d.l d.p d.t) (stC A0 A1 A2 A3 s.pods.length c0 s.mnts.length c1 s.devs.length c2 s.lks.length c3 s.ph s.co s.ck s.bo s.ba s.lb s.gd s.pr)) (fun _ j _ => d.n2 - (intOf j).toNat)
  case atStart => exact ⟨rfl, 0, Nat.zero_le _, rfl, fun j hj => absurd hj (by omega), T0⟩
  case round =>
    clear hC hD T0
    obtain ⟨rfl, k, hk, rfl, hall, T⟩ := hrel
    have HALL := Lib.hid hall
    clear hall
    have hC := T.A.C
    have hD := T.O.C
    by_cases hlt : k < d.n2
    · have hlp : k < s.mnts.length := by rw [HLN.out]; exact hlt
      obtain ⟨b3_, off3, rfl, hb3, q0, q1⟩ := (S2.out.own T.A).cell2 hlt
      obtain ⟨b4_, off4, rfl, hb4, hc⟩ := (R1.out.below T.A.K (Nat.le_refl _)).cell hlp
      have r0 := (hc 0 (by decide)).trans (mntCs_at s.mnts (i := k) hlp).1
      rw [Nat.add_zero] at r0
      clear hc
      have KB : Hid (kidB d s i k = !(decide (d.x2 (k * 2 + 1) = i) && (mntA s.mnts k).1)) := Lib.hid rfl
      have HFALSE : Hid (kidB d s i k = false → ans = false) := Lib.hid fun h => by rw [← HANS.out, all_not hlt h]
      have HSTEP : Hid (kidB d s i k = true → ∀ j, j < k + 1 → kidB d s i j = true) := Lib.hid fun h => step_all HALL.out h
      have hz := T.A.z
      have hz' := T.O.z
      have hb4' : b4_ < wr.heap.size := Nat.lt_of_lt_of_le hb4 T.A.K.size
      generalize kidB d s i k = kb at KB HFALSE HSTEP
      generalize (mntA s.mnts k).1 = z at r0 KB
      generalize d.x2 (k * 2) = p at q0
      cases hv : (d.x2 (k * 2 + 1) != (i : Int))
      · cases z
        · have CF : Hid (kb = true) := Lib.hid (by rw [KB.out]; simp)
          clear KB HFALSE
          go_wp2
          refine ⟨⟨rfl, k + 1, by omega, by go_num, HSTEP.out CF.out, T.step ((Below.refl _ _).alloc (Nat.le_refl _) _)⟩, by simp [intOf]; omega⟩
        · have CF : Hid (kb = false) := Lib.hid (by rw [KB.out]; simp at hv; simp [hv])
          clear KB HSTEP
          go_wp2
          all_goals (first | rw [Exit.noGoto_ret] | skip); all_goals (go_ret; exact ⟨ret_bool (by rw [HFALSE.out CF.out]; rfl), (T.step ((Below.refl _ _).alloc (Nat.le_refl _) _)).A.K⟩)
      · have CF : Hid (kb = true) := Lib.hid (by rw [KB.out]; simp at hv; simp [hv])
        clear KB HFALSE
        go_wp2
        refine ⟨⟨rfl, k + 1, by omega, by go_num, HSTEP.out CF.out, T.step ((Below.refl _ _).alloc (Nat.le_refl _) _)⟩, by simp [intOf]; omega⟩
    · obtain rfl : k = d.n2 := by omega
      go_wp2
      all_goals (first | rw [Exit.noGoto_ret] | skip); all_goals (go_ret; exact ⟨ret_bool (by rw [← HANS.out, all_yes HALL.out]; rfl), T.A.K⟩)

set_option maxRecDepth 100000 in
set_option maxHeartbeats 4000000 in
theorem implMayFree_any (pv sv : Value) (d : PlanD) (s : StD) (a : Int) (w : World) (hp : IsPlan w w.heap.size pv d) (hs : IsSt w w.heap.size sv s) :
    Calls Tryz.prog 146 #[pv, sv, .int .i64 a] w fun e w' => e = .returned (.bool (stOkB d s && mayFreeB d s a)) ∧ Below w.heap.size w w' := by
  have HP := Lib.hid hp
  have HS := Lib.hid hs
  obtain ⟨⟨P0, P1, P2, P3, k0, k1, k2, k3, rfl, s0, s1, s2, s3⟩, b0, b1, b2, b3⟩ := hp
  obtain ⟨⟨A0, A1, A2, A3, c0, c1, c2, c3, rfl, t0, t1, t2, t3⟩, f0, f1, f2, f3⟩ := hs
  have S0 := Lib.hid s0
  have S1 := Lib.hid s1
  have S2 := Lib.hid s2
  have S3 := Lib.hid s3
  have R0 := Lib.hid t0
  have R1 := Lib.hid t1
  have R2 := Lib.hid t2
  have R3 := Lib.hid t3
  unfold maxLen at b0 b1 b2 b3 f0 f1 f2 f3
  clear s0 s1 s2 s3 t0 t1 t2 t3
  have T0 := Two.start w (planC P0 P1 P2 P3 d.n0 k0 d.n1 k1 d.n2 k2 d.n3 k3 d.l d.p d.t) (stC A0 A1 A2 A3 s.pods.length c0 s.mnts.length c1 s.devs.length c2 s.lks.length c3 s.ph s.co s.ck s.bo s.ba s.lb s.gd s.pr) 29 34
  obtain ⟨ans, hans⟩ : ∃ ans, (stOkB d s && mayFreeB d s a) = ans := ⟨_, rfl⟩
  rw [hans]
  have HANS := Lib.hid hans
  clear hans
  go_enter Tryz.func146, Tryz.ntmps146
  go_wp2_with fail
  refine (implStateOk_any _ _ d s _ ((HP.out.below T0.A.K (Nat.le_refl _)).more T0.A.K.size) ((HS.out.below T0.A.K (Nat.le_refl _)).more T0.A.K.size)).mono ?_
  rintro e w1 ⟨rfl, hb⟩
  have T1 := T0.step hb
  have hC := T1.A.C
  have hD := T1.O.C
  clear hb T0
  cases hok : stOkB d s
  · have OKB := Lib.hid hok
    clear hok
    go_wp2
    all_goals (go_ret; exact ⟨ret_bool (by rw [← HANS.out, OKB.out]; rfl), T1.A.K⟩)
  · have OK := Lib.hid (stOkB_iff.1 hok)
    have OKB := Lib.hid hok
    clear hok
    go_wp2_with fail
    refine (isIndex_any _ _ _).mono ?_
    rintro e w2 ⟨rfl, rfl⟩
    cases hin : inB a 0 (d.n2 - 1)
    · have HIN := Lib.hid hin
      clear hin
      go_wp2
      all_goals (go_ret; exact ⟨ret_bool (by rw [← HANS.out, OKB.out]; simp [mayFreeB, HIN.out]), T1.A.K⟩)
    · have HIN := Lib.hid hin
      obtain ⟨i, rfl, hi⟩ := index_nat (a := a) (n := d.n2) (by rw [hin]; decide)
      clear hin
      have HLN := Lib.hid OK.out.nm
      obtain ⟨m, hm, hml, hmp⟩ := mount_pod OK.out.plan hi
      have hlm : m < s.pods.length := by rw [OK.out.np]; exact hml
      obtain ⟨b, off, rfl, hb, q0, -⟩ := (S2.out.own T1.A).cell2 hi
      obtain ⟨b', off', rfl, hb', hc⟩ := (R1.out.below T1.A.K (Nat.le_refl _)).cell (i := i) (by rw [HLN.out]; exact hi)
      have p0 := (hc 0 (by decide)).trans (mntCs_at s.mnts (i := i) (by rw [HLN.out]; exact hi)).1
      obtain ⟨b2_, off2, rfl, hb2, hc2⟩ := (R0.out.below T1.A.K (Nat.le_refl _)).cell hlm
      have r0 := (hc2 0 (by decide)).trans (podCs_at s.pods hlm).1
      have r1 := (hc2 1 (by decide)).trans (podCs_at s.pods hlm).2
      rw [Nat.add_zero] at r0 p0
      clear hc hc2
      rw [hm] at q0
      have GB : Hid (ans = ((mntA s.mnts i).1 && !aliveB (podA s.pods m).1 && (List.range d.n2).all (kidB d s i))) := Lib.hid (by
        rw [← HANS.out, OKB.out, mayFreeB, HIN.out, Int.toNat_natCast]; unfold freeB; rw [hmp]; rfl)
      have hlti : i < s.mnts.length := by rw [HLN.out]; exact hi
      generalize hX : (mntA s.mnts i).1 = x at p0 GB
      generalize podA s.pods m = y at r0 r1 GB
      obtain ⟨y, z⟩ := y
      dsimp only at r0 r1 GB
      clear hX hm hmp HANS
      cases x
      · go_wp2
        all_goals (go_ret; exact ⟨ret_bool (by rw [GB.out]; rfl), T1.A.K⟩)
      · go_upto_region 3 with fail
        have hz := T1.A.z
        have hz' := T1.O.z
        have hzb : b < w1.heap.size := hb
        have hzb2 : b2_ < w1.heap.size := Nat.lt_of_lt_of_le hb2 T1.A.K.size
        go_cut [7] (fun s7 wx => ∃ g, s7 = .pointer (some ⟨g, 0, none⟩) ∧ wx.heap[g]? = some (.cells #[.int .i64 y, .int .i64 z] 98) ∧ Below w1.heap.size w1 wx)
        case first =>
          go_region
          all_goals (go_wp2_with fail; go_meet)
          all_goals
            apply Exists.intro
            refine ⟨rfl, ?h3, ?hb⟩
            case h3 => repeat (first | exact alloc_here (by simp) | refine (alloc_there (by simp <;> omega)).trans ?_)
            case hb => repeat (first | exact Below.refl _ _ | refine Below.drew ?_ | refine Below.alloc ?_ (by simp <;> omega) _)
        case rest =>
          obtain ⟨g, rfl, hg, Kx⟩ := hcut
          have T2 := T1.step Kx
          have XB : ∀ o, wc.cell? ⟨g, o, none⟩ = #[Value.int .i64 y, .int .i64 z][o]? := fun o => cell_of_row _ _ o _ _ _ hg
          clear T1 hC hD hz hz' q0 p0 r0 r1
          have hC := T2.A.C
          have hD := T2.O.C
          go_wp2_with fail
          refine (implAlive_any _ _).mono ?_
          rintro e w5 ⟨rfl, rfl⟩
          cases ha : aliveB y
          · have HAL := Lib.hid ha
            clear ha
            go_wp2_with fail
            refine (implChildHeld_any _ _ d s i _ ((HP.out.below T2.A.K (Nat.le_refl _)).more T2.A.K.size) ((HS.out.below T2.A.K (Nat.le_refl _)).more T2.A.K.size) OK.out).mono ?_
            rintro e w6 ⟨rfl, hb6⟩
            have T3 := T2.step hb6
            clear hb6 T2 hC hD
            generalize (List.range d.n2).all (kidB d s i) = u at GB ⊢
            go_wp2
            all_goals (go_ret; exact ⟨ret_bool (by rw [GB.out, HAL.out]; simp), T3.A.K⟩)
          · have HAL := Lib.hid ha
            clear ha
            go_wp2
            all_goals (go_ret; exact ⟨ret_bool (by rw [GB.out, HAL.out]; rfl), T2.A.K⟩)

end Go.Proofs.YtobpjahjahlhpaaGreatDoor
