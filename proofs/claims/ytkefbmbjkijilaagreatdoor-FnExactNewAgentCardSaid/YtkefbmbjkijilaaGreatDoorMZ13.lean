/-
  The program's table of changes.
-/
import Derived.Test.YtkefbmbjkijilaaGreatDoorMZ12
import Derived.Test.YtkefbmbjkijilaaGreatDoorMZxUo
import Derived.Test.YtkefbmbjkijilaaGreatDoorMZ3
import Derived.Test.YtkefbmbjkijilaaGreatDoorMZxVx
import Derived.BigQuiet
import Derived.RegionTactic
import Derived.BigRegion
import Derived.Test.YtkefbmbjkijilaaGreatDoorMZ9
import Derived.Test.YtkefbmbjkijilaaGreatDoorMZ10
import Derived.Test.YtkefbmbjkijilaaGreatDoorMZ5
import Derived.Laws.EntriesVeiled
/- Zf -/
set_option linter.unusedVariables false
namespace Go.Proofs.YtkefbmbjkijilaaGreatDoor
open Go.RowKit

theorem results_two_row {P : Program} {fn : Func} {p q : Tmp} {ty : TypeId} (h : fn.results = #[.cell p ty, .tmp q]) (tmps : Array Value) (w : World) (g : Nat) (t : TypeId) (cs : Array Value) (fr : Nat × Nat) (d : TypeDesc) (u : Value)
    (hp : tmps.getD p undef = .pointer (some ⟨g, 0, none⟩)) (hq : tmps.getD q undef = u) (hg : w.heap[g]? = some (.cells cs t fr))
    (hu : P.underlying ty = some d) (hd : (match d with | .struct _ | .array _ _ => true | _ => false) = true) (hi : (P.info? ty).map (·.size) = some cs.size) :
    (results fn tmps).run P w = .ok (.tuple #[.agg cs, u]) w := by
  have hp' : tmps[p]?.getD undef = .pointer (some ⟨g, 0, none⟩) := by simpa using hp
  have hq' : tmps[q]?.getD undef = u := by simpa using hq
  simp [results, h, hp', hq', asAddr, run_loadVar_row w g t ty cs fr d hg hu hd hi]

set_option maxRecDepth 100000 in
set_option maxHeartbeats 8000000 in
theorem newAgent_any (v : Value) (d : PlanD) (w : World) (h : IsPlR w w.heap.size v d) (hok : planOkB d = true) :
    Calls Tryz.prog 12 #[v] w fun e w' => ∃ v', e = .returned (.tuple #[v', .bool true]) ∧ OwnAg w' w.heap.size v' d (newS d) [] ∧ Below w.heap.size w w' := by
  have HP := Lib.hid h
  have HOK := Lib.hid hok
  obtain ⟨⟨A0, A1, A2, A3, c0, c1, c2, c3, rfl, -, -⟩, -⟩ := h
  have HI : Hid ((Tryz.prog.info? 48).map (·.size) = some 20) := Lib.hid (by kernel_rfl)
  have T0 := Two.start w (planC A0 A1 A2 A3 d.n0 c0 d.n1 c1 d.n2 c2 d.n3 c3 d.l d.p d.t) (agC (.slice none 0 0) (.slice none 0 0) (.slice none 0 0) (.slice none 0 0) 0 0 0 0 false 0 0 0 0 (.slice none 0 0) (.slice none 0 0) (.slice none 0 0) (.slice none 0 0) 0 0 (.slice none 0 0)) 42 48
  have HH := heap_alloc2_new w (.cells (planC A0 A1 A2 A3 d.n0 c0 d.n1 c1 d.n2 c2 d.n3 c3 d.l d.p d.t) 42) (.cells (agC (.slice none 0 0) (.slice none 0 0) (.slice none 0 0) (.slice none 0 0) 0 0 0 0 false 0 0 0 0 (.slice none 0 0) (.slice none 0 0) (.slice none 0 0) (.slice none 0 0) 0 0 (.slice none 0 0)) 48)
  obtain ⟨s, hs⟩ : ∃ s, newS d = s := ⟨_, rfl⟩
  rw [hs]
  have HSN := Lib.hid hs
  clear hok hs
  go_enter Tryz.func12, Tryz.ntmps12
  go_wp2_with fail
  generalize (w.alloc (.cells (planC A0 A1 A2 A3 d.n0 c0 d.n1 c1 d.n2 c2 d.n3 c3 d.l d.p d.t) 42)).alloc (.cells (agC (.slice none 0 0) (.slice none 0 0) (.slice none 0 0) (.slice none 0 0) 0 0 0 0 false 0 0 0 0 (.slice none 0 0) (.slice none 0 0) (.slice none 0 0) (.slice none 0 0) 0 0 (.slice none 0 0)) 48) = w1 at T0 HH ⊢
  refine (spec_planOk_any _ d _ ((HP.out.is.below T0.A.K (Nat.le_refl _)).more T0.A.K.size)).mono ?_
  rintro e w2 ⟨rfl, hb⟩
  rw [HOK.out]
  have hw1' := T0.O.z
  replace HH := (hb.block _ hw1').trans HH
  replace T0 := T0.step hb
  clear hb hw1'
  go_upto_region 3 with fail
  refine wp_region_noPanic ?_
  refine wp_region_held_drew (S := (fun W => ∀ o, W.cell? ⟨w.heap.size, o, none⟩ = (planC A0 A1 A2 A3 d.n0 c0 d.n1 c1 d.n2 c2 d.n3 c3 d.l d.p d.t)[o]?)) (by kernel_rfl) ((T0.step (Below.refl _ _).drew).A.C) (fun hS => ?_)
  replace T0 := T0.step (Below.refl _ _).drew
  rw [← heap_drew w2] at HH
  generalize w2.drew = w0 at T0 HH hS ⊢
  have K : Below w0.heap.size w0 w0 := Below.refl _ _
  have S0 := T0.A.C
  have hw0 := T0.A.z
  have hw1 := T0.O.z
  refine wpAnyH_take (i := 0) (v := ?_) rfl (by kernel_rfl) (by kernel_rfl) (by kernel_rfl) (fun _ _ _ h => h) (Or.inl ⟨by rfl, ?_⟩) hS ?_
  rotate_left 1
  · intro w hSw
    (try dsimp only at hSw)
    go_simp
    try with_reducible rfl
  change wpAnyH _ _ _ _ _ _ _ (Act.put _ (some 8) _) _
  dsimp only [Act.put]
  refine wpAnyH_take (i := 2) (v := ?_) rfl (by kernel_rfl) (by kernel_rfl) (by kernel_rfl) (fun _ _ _ h => h) (Or.inl ⟨by rfl, ?_⟩) hS ?_
  rotate_left 1
  · intro w hSw
    (try dsimp only at hSw)
    go_simp
    try with_reducible rfl
  change wpAnyH _ _ _ _ _ _ _ (Act.put _ (some 10) _) _
  dsimp only [Act.put]
  refine wpAnyH_ready (rs := [1]) (by kernel_rfl) (by simp) ?_
  refine AllReadyH.cons rfl (fun K' hK => ?_) AllReadyH.nil
  go_simp
  go_at_call 37
  refine (l15PlanCopy_any _ d _ ((HP.out.below T0.A.K (Nat.le_refl _)).more T0.A.K.size)).mono ?_
  rintro e wn ⟨q0, q1, q2, q3, rfl, Lp, hb⟩
  replace Lp := Lp.base T0.A.K.size
  obtain ⟨Q0, e0, rfl, -, -⟩ := Lp.o0.formR
  obtain ⟨Q1, e1, rfl, -, -⟩ := Lp.o1.formR
  obtain ⟨Q2, e2, rfl, -, -⟩ := Lp.o2.formR
  obtain ⟨Q3, e3, rfl, -, -⟩ := Lp.o3.formR
  replace K := K.trans (hb.mono K.size)
  clear hb
  go_wp2_with fail
  refine hK.out _ _ (fun o => (Below.cell (p := ⟨w.heap.size, o, none⟩) K hw0).trans (S0 o)) (fun hS => ?_)
  clear hK K'
  skip
  refine wpAnyH_ready (rs := [3]) (by kernel_rfl) (by simp) ?_
  refine AllReadyH.cons rfl (fun K' hK => ?_) AllReadyH.nil
  go_simp
  go_at_call 38
  have TK := T0.step K
  refine (specNewState_any _ d _ ((HP.out.is.below TK.A.K (Nat.le_refl _)).more TK.A.K.size)).mono ?_
  rintro e wn2 ⟨v5, rfl, Os, hb⟩
  rw [HSN.out] at Os
  have Osb := Os.base TK.A.K.size
  obtain ⟨y0, y1, y2, y3, rfl, z0, z1, z2, z3⟩ := Os.it
  have AP := apart_of Lp.o1 z3
  clear Os
  have Os := Osb
  clear Osb
  obtain ⟨Y0, f0, rfl, -⟩ := open_rowR z0
  obtain ⟨Y1, f1, rfl, -⟩ := open_rowR z1
  obtain ⟨Y2, f2, rfl, -⟩ := open_rowR z2
  obtain ⟨Y3, f3, rfl, -⟩ := open_rowR z3
  replace Lp := Lp.below hb
  replace K := K.trans (hb.mono K.size)
  clear hb z0 z1 z2 z3 TK
  go_wp2_with fail
  refine hK.out _ _ (fun o => (Below.cell (p := ⟨w.heap.size, o, none⟩) K hw0).trans (S0 o)) (fun hS => ?_)
  clear hK K'
  skip
  refine wpAnyH_take (i := 4) (v := ?_) rfl (by kernel_rfl) (by kernel_rfl) (by kernel_rfl) (fun _ _ _ h => h) (Or.inl ⟨by rfl, ?_⟩) hS ?_
  rotate_left 1
  · intro w hSw
    (try dsimp only at hSw)
    go_simp
    try with_reducible rfl
  change wpAnyH _ _ _ _ _ _ _ (Act.put _ (some 12) _) _
  dsimp only [Act.put]
  refine wpAnyH_ready (rs := [5]) (by kernel_rfl) (by simp) ?_
  refine AllReadyH.cons rfl (fun K' hK => ?_) AllReadyH.nil
  rw [if_pos (by rfl)]
  have hh := (K.block _ hw1).trans HH
  refine wp_store_row 48 (.tmp 2) (.tmp 12) rfl (w.heap.size + 1) (agC (.slice Q0 d.n0 e0) (.slice Q1 d.n1 e1) (.slice Q2 d.n2 e2) (.slice Q3 d.n3 e3) d.l d.p d.t s.ph s.co s.ck s.bo s.ba s.lb (.slice Y0 s.pods.length f0) (.slice Y1 s.mnts.length f1) (.slice Y2 s.devs.length f2) (.slice Y3 s.lks.length f3) s.gd s.pr (.slice none 0 0)) rfl rfl 48 _ hh HI.out rfl (by simp [Value.oneCell']) ?_
  have KS : Keeps (· = w.heap.size + 1) wn2 (wn2.setRow (w.heap.size + 1) (agC (.slice Q0 d.n0 e0) (.slice Q1 d.n1 e1) (.slice Q2 d.n2 e2) (.slice Q3 d.n3 e3) d.l d.p d.t s.ph s.co s.ck s.bo s.ba s.lb (.slice Y0 s.pods.length f0) (.slice Y1 s.mnts.length f1) (.slice Y2 s.devs.length f2) (.slice Y3 s.lks.length f3) s.gd s.pr (.slice none 0 0))) := keeps_setRow ..
  have hS2 : ∀ o, (wn2.setRow (w.heap.size + 1) (agC (.slice Q0 d.n0 e0) (.slice Q1 d.n1 e1) (.slice Q2 d.n2 e2) (.slice Q3 d.n3 e3) d.l d.p d.t s.ph s.co s.ck s.bo s.ba s.lb (.slice Y0 s.pods.length f0) (.slice Y1 s.mnts.length f1) (.slice Y2 s.devs.length f2) (.slice Y3 s.lks.length f3) s.gd s.pr (.slice none 0 0))).cell? ⟨w.heap.size, o, none⟩ = (planC A0 A1 A2 A3 d.n0 c0 d.n1 c1 d.n2 c2 d.n3 c3 d.l d.p d.t)[o]? := fun o => (KS.cell (p := ⟨w.heap.size, o, none⟩) (Nat.lt_of_lt_of_le hw0 K.size) (Nat.ne_of_lt (Nat.lt_succ_self _))).trans ((Below.cell (p := ⟨w.heap.size, o, none⟩) K hw0).trans (S0 o))
  refine hK.out _ _ hS2 (fun hS => ?_)
  clear hK K'
  refine wpAnyH_ready (rs := [6]) (by kernel_rfl) (by simp) ?_
  refine AllReadyH.cons rfl (fun K' hK => ?_) AllReadyH.nil
  go_simp
  refine hK.out _ _ hS2 (fun hS => ?_)
  clear hK K'
  refine wpAnyH_done (by kernel_rfl) ?_ _
  refine NoPanic.normal ?_
  go_wp2_with fail
  exact bodyPost_ret (v := .tuple #[.agg (agC (.slice Q0 d.n0 e0) (.slice Q1 d.n1 e1) (.slice Q2 d.n2 e2) (.slice Q3 d.n3 e3) d.l d.p d.t s.ph s.co s.ck s.bo s.ba s.lb (.slice Y0 s.pods.length f0) (.slice Y1 s.mnts.length f1) (.slice Y2 s.devs.length f2) (.slice Y3 s.lks.length f3) s.gd s.pr (.slice none 0 0)), .bool true]) (results_two_row Tryz.results12 _ _ _ _ _ _ _ _ rfl rfl (setRow_heap wn2 _ _ _ _ _ hh) Tryz.underlying48 rfl HI.out) rfl ⟨_, rfl, ⟨_, _, _, _, _, _, _, _, _, rfl, Lp.keeps KS hh (by decide), Os.keepsT KS hh (by decide), OB.nil_ _ _, AP⟩, below_setRow (T0.step K).A.K (Nat.le_succ _) _⟩
end Go.Proofs.YtkefbmbjkijilaaGreatDoor
/- Gj -/
set_option linter.unusedVariables false
namespace Go.Proofs.YtkefbmbjkijilaaGreatDoor
open Go.RowKit

def eqUp {α : Type} (l m : List α) (z : α) (k : Nat) : Prop := ∀ j, j < k → l.getD j z = m.getD j z
theorem eqUp_zero {α : Type} {l m : List α} {z : α} : eqUp l m z 0 := fun j hj => absurd hj (Nat.not_lt_zero _)
theorem eqUp_next {α : Type} {l m : List α} {z : α} {k : Nat} (h : eqUp l m z k) (e : l.getD k z = m.getD k z) : eqUp l m z (k + 1) := fun j hj => by
  by_cases hjk : j = k
  · subst hjk
    exact e
  · exact h j (by omega)
theorem eqUp_all {α : Type} {l m : List α} {z : α} {k : Nat} (h : eqUp l m z k) (hl : l.length = k) (hm : m.length = k) : l = m := by
  refine List.ext_getElem (by omega) fun i h1 h2 => ?_
  have := h i (by omega)
  simpa [List.getD, h1, h2] using this
set_option maxRecDepth 100000 in
set_option maxHeartbeats 8000000 in
theorem sliceEqPod_any (l m : List (Int × Int)) (A B : Option Addr) (c d : Nat) (w : World) (hA : SlV w w.heap.size 2 A l.length (podCs l)) (hB : SlV w w.heap.size 2 B m.length (podCs m)) (hl : l.length ≤ maxLen) (hm : m.length ≤ maxLen) :
    Calls Tryz.prog 74 #[.slice A l.length c, .slice B m.length d] w fun e w' => e = .returned (.bool (decide (l = m))) ∧ Below w.heap.size w w' := by
  unfold maxLen at hl hm
  have S := Lib.hid hA
  have T := Lib.hid hB
  clear hA hB
  obtain ⟨ans, hans⟩ : ∃ ans, decide (l = m) = ans := ⟨_, rfl⟩
  rw [hans]
  have HANS := Lib.hid hans
  clear hans
  generalize hq : l.length = n at *
  generalize hp : m.length = n' at *
  have Q := Lib.hid hq
  have P := Lib.hid hp
  clear hq hp
  go_enter Tryz.func74, Tryz.ntmps74
  by_cases hx : n = n'
  case neg =>
    have HF : Hid (ans = false) := Lib.hid (by rw [← HANS.out]; exact decide_eq_false (fun e => hx (by rw [← Q.out, ← P.out, e])))
    have e0 : ((n : Int) == (n' : Int)) = false := beq_eq_false_iff_ne.2 (fun h => hx (by omega))
    have e1 : ((n : Int) != (n' : Int)) = true := bne_iff_ne.2 (fun h => hx (by omega))
    clear hx
    go_wp2
    all_goals (go_ret; exact ⟨by rw [HF.out]; rfl, Below.refl _ _⟩)
  subst hx
  go_wp2_with fail
  go_loopw [13] (fun i wr => ∃ k : Nat, k ≤ n ∧ i = .int .i64 k ∧ Hid (eqUp l m (0, 0) k) ∧ Below w.heap.size w wr) (fun i _ => n - (intOf i).toNat)
  case atStart => exact ⟨0, Nat.zero_le _, rfl, Lib.hid eqUp_zero, Below.refl _ _⟩
  case round =>
  obtain ⟨k, hk, rfl, HALL, K⟩ := hrel
  by_cases hlt : k < n
  case neg =>
    obtain rfl : n = k := by omega
    have HA : Hid (ans = true) := Lib.hid (by rw [← HANS.out]; exact decide_eq_true (eqUp_all HALL.out Q.out P.out))
    go_wp2
    all_goals (go_ret; exact ⟨by rw [HA.out]; rfl, K⟩)
  case pos =>
    obtain ⟨b, off, rfl, hb, hc⟩ := (S.out.below K (Nat.le_refl _)).cell hlt
    obtain ⟨b', off', rfl, hb', hc'⟩ := (T.out.below K (Nat.le_refl _)).cell hlt
    have hp := podCs_at l (i := k) (by rw [Q.out]; exact hlt)
    have hp' := podCs_at m (i := k) (by rw [P.out]; exact hlt)
    have q0 := (hc 0 (by decide)).trans hp.1
    have q1 := (hc 1 (by decide)).trans hp.2
    have r0 := (hc' 0 (by decide)).trans hp'.1
    have r1 := (hc' 1 (by decide)).trans hp'.2
    rw [Nat.add_zero] at q0 r0
    clear hc hc' hp hp' hb hb'
    have HEQ : Hid (podA l k = podA m k → eqUp l m (0, 0) (k + 1)) := Lib.hid fun h => eqUp_next HALL.out h
    have HNE : Hid (¬ podA l k = podA m k → ans = false) := Lib.hid fun h => by rw [← HANS.out]; exact decide_eq_false (fun e => h (congrArg (fun l => podA l k) e))
    generalize podA l k = z at *
    generalize podA m k = z' at *
    obtain ⟨x, y⟩ := z
    obtain ⟨x', y'⟩ := z'
    dsimp only at q0 q1 r0 r1
    by_cases hx : x = x'
    case neg =>
      have HF : Hid (ans = false) := Lib.hid (HNE.out fun h => hx (congrArg Prod.fst h))
      have e0 : (x == x') = false := by simpa using hx
      have e1 : (x != x') = true := by simpa using hx
      clear hx HEQ HNE
      go_wp2_with fail
      go_quiet (fail)
      go_wp2
      all_goals (go_ret; exact ⟨by rw [HF.out]; rfl, below_drewN K _⟩)
    subst hx
    by_cases hy : y = y'
    case neg =>
      have HF : Hid (ans = false) := Lib.hid (HNE.out fun h => hy (congrArg Prod.snd h))
      have e0 : (y == y') = false := by simpa using hy
      have e1 : (y != y') = true := by simpa using hy
      clear hy HEQ HNE
      go_wp2_with fail
      go_quiet (fail)
      go_wp2
      all_goals (go_ret; exact ⟨by rw [HF.out]; rfl, below_drewN K _⟩)
    subst hy
    have HA := Lib.hid (HEQ.out rfl)
    clear HEQ HNE
    go_wp2_with fail
    go_quiet (fail)
    go_wp2_with fail
    exact ⟨⟨k + 1, by omega, by go_num, HA, below_drewN K _⟩, by simp [intOf]; omega⟩
set_option maxRecDepth 100000 in
set_option maxHeartbeats 8000000 in
theorem sliceEqMnt_any (l m : List (Bool × Int)) (A B : Option Addr) (c d : Nat) (w : World) (hA : SlV w w.heap.size 2 A l.length (mntCs l)) (hB : SlV w w.heap.size 2 B m.length (mntCs m)) (hl : l.length ≤ maxLen) (hm : m.length ≤ maxLen) :
    Calls Tryz.prog 75 #[.slice A l.length c, .slice B m.length d] w fun e w' => e = .returned (.bool (decide (l = m))) ∧ Below w.heap.size w w' := by
  unfold maxLen at hl hm
  have S := Lib.hid hA
  have T := Lib.hid hB
  clear hA hB
  obtain ⟨ans, hans⟩ : ∃ ans, decide (l = m) = ans := ⟨_, rfl⟩
  rw [hans]
  have HANS := Lib.hid hans
  clear hans
  generalize hq : l.length = n at *
  generalize hp : m.length = n' at *
  have Q := Lib.hid hq
  have P := Lib.hid hp
  clear hq hp
  go_enter Tryz.func75, Tryz.ntmps75
  by_cases hx : n = n'
  case neg =>
    have HF : Hid (ans = false) := Lib.hid (by rw [← HANS.out]; exact decide_eq_false (fun e => hx (by rw [← Q.out, ← P.out, e])))
    have e0 : ((n : Int) == (n' : Int)) = false := beq_eq_false_iff_ne.2 (fun h => hx (by omega))
    have e1 : ((n : Int) != (n' : Int)) = true := bne_iff_ne.2 (fun h => hx (by omega))
    clear hx
    go_wp2
    all_goals (go_ret; exact ⟨by rw [HF.out]; rfl, Below.refl _ _⟩)
  subst hx
  go_wp2_with fail
  go_loopw [13] (fun i wr => ∃ k : Nat, k ≤ n ∧ i = .int .i64 k ∧ Hid (eqUp l m (false, 0) k) ∧ Below w.heap.size w wr) (fun i _ => n - (intOf i).toNat)
  case atStart => exact ⟨0, Nat.zero_le _, rfl, Lib.hid eqUp_zero, Below.refl _ _⟩
  case round =>
  obtain ⟨k, hk, rfl, HALL, K⟩ := hrel
  by_cases hlt : k < n
  case neg =>
    obtain rfl : n = k := by omega
    have HA : Hid (ans = true) := Lib.hid (by rw [← HANS.out]; exact decide_eq_true (eqUp_all HALL.out Q.out P.out))
    go_wp2
    all_goals (go_ret; exact ⟨by rw [HA.out]; rfl, K⟩)
  case pos =>
    obtain ⟨b, off, rfl, hb, hc⟩ := (S.out.below K (Nat.le_refl _)).cell hlt
    obtain ⟨b', off', rfl, hb', hc'⟩ := (T.out.below K (Nat.le_refl _)).cell hlt
    have hp := mntCs_at l (i := k) (by rw [Q.out]; exact hlt)
    have hp' := mntCs_at m (i := k) (by rw [P.out]; exact hlt)
    have q0 := (hc 0 (by decide)).trans hp.1
    have q1 := (hc 1 (by decide)).trans hp.2
    have r0 := (hc' 0 (by decide)).trans hp'.1
    have r1 := (hc' 1 (by decide)).trans hp'.2
    rw [Nat.add_zero] at q0 r0
    clear hc hc' hp hp' hb hb'
    have HEQ : Hid (mntA l k = mntA m k → eqUp l m (false, 0) (k + 1)) := Lib.hid fun h => eqUp_next HALL.out h
    have HNE : Hid (¬ mntA l k = mntA m k → ans = false) := Lib.hid fun h => by rw [← HANS.out]; exact decide_eq_false (fun e => h (congrArg (fun l => mntA l k) e))
    generalize mntA l k = z at *
    generalize mntA m k = z' at *
    obtain ⟨x, y⟩ := z
    obtain ⟨x', y'⟩ := z'
    dsimp only at q0 q1 r0 r1
    by_cases hx : x = x'
    case neg =>
      have HF : Hid (ans = false) := Lib.hid (HNE.out fun h => hx (congrArg Prod.fst h))
      have e0 : (x == x') = false := by simpa using hx
      have e1 : (x != x') = true := by simpa using hx
      clear hx HEQ HNE
      go_wp2_with fail
      go_quiet (fail)
      go_wp2
      all_goals (go_ret; exact ⟨by rw [HF.out]; rfl, below_drewN K _⟩)
    subst hx
    by_cases hy : y = y'
    case neg =>
      have HF : Hid (ans = false) := Lib.hid (HNE.out fun h => hy (congrArg Prod.snd h))
      have e0 : (y == y') = false := by simpa using hy
      have e1 : (y != y') = true := by simpa using hy
      clear hy HEQ HNE
      go_wp2_with fail
      go_quiet (fail)
      go_wp2
      all_goals (go_ret; exact ⟨by rw [HF.out]; rfl, below_drewN K _⟩)
    subst hy
    have HA := Lib.hid (HEQ.out rfl)
    clear HEQ HNE
    go_wp2_with fail
    go_quiet (fail)
    go_wp2_with fail
    exact ⟨⟨k + 1, by omega, by go_num, HA, below_drewN K _⟩, by simp [intOf]; omega⟩
set_option maxRecDepth 100000 in
set_option maxHeartbeats 8000000 in
theorem sliceEqDev_any (l m : List Bool) (A B : Option Addr) (c d : Nat) (w : World) (hA : SlV w w.heap.size 1 A l.length (devCs l)) (hB : SlV w w.heap.size 1 B m.length (devCs m)) (hl : l.length ≤ maxLen) (hm : m.length ≤ maxLen) :
    Calls Tryz.prog 76 #[.slice A l.length c, .slice B m.length d] w fun e w' => e = .returned (.bool (decide (l = m))) ∧ Below w.heap.size w w' := by
  unfold maxLen at hl hm
  have S := Lib.hid hA
  have T := Lib.hid hB
  clear hA hB
  obtain ⟨ans, hans⟩ : ∃ ans, decide (l = m) = ans := ⟨_, rfl⟩
  rw [hans]
  have HANS := Lib.hid hans
  clear hans
  generalize hq : l.length = n at *
  generalize hp : m.length = n' at *
  have Q := Lib.hid hq
  have P := Lib.hid hp
  clear hq hp
  go_enter Tryz.func76, Tryz.ntmps76
  by_cases hx : n = n'
  case neg =>
    have HF : Hid (ans = false) := Lib.hid (by rw [← HANS.out]; exact decide_eq_false (fun e => hx (by rw [← Q.out, ← P.out, e])))
    have e0 : ((n : Int) == (n' : Int)) = false := beq_eq_false_iff_ne.2 (fun h => hx (by omega))
    have e1 : ((n : Int) != (n' : Int)) = true := bne_iff_ne.2 (fun h => hx (by omega))
    clear hx
    go_wp2
    all_goals (go_ret; exact ⟨by rw [HF.out]; rfl, Below.refl _ _⟩)
  subst hx
  go_wp2_with fail
  go_loopw [13] (fun i wr => ∃ k : Nat, k ≤ n ∧ i = .int .i64 k ∧ Hid (eqUp l m false k) ∧ Below w.heap.size w wr) (fun i _ => n - (intOf i).toNat)
  case atStart => exact ⟨0, Nat.zero_le _, rfl, Lib.hid eqUp_zero, Below.refl _ _⟩
  case round =>
  obtain ⟨k, hk, rfl, HALL, K⟩ := hrel
  by_cases hlt : k < n
  case neg =>
    obtain rfl : n = k := by omega
    have HA : Hid (ans = true) := Lib.hid (by rw [← HANS.out]; exact decide_eq_true (eqUp_all HALL.out Q.out P.out))
    go_wp2
    all_goals (go_ret; exact ⟨by rw [HA.out]; rfl, K⟩)
  case pos =>
    obtain ⟨b, off, rfl, hb, hc⟩ := (S.out.below K (Nat.le_refl _)).cell hlt
    obtain ⟨b', off', rfl, hb', hc'⟩ := (T.out.below K (Nat.le_refl _)).cell hlt
    have hp := devCs_at l (i := k) (by rw [Q.out]; exact hlt)
    have hp' := devCs_at m (i := k) (by rw [P.out]; exact hlt)
    have q0 := hc 0 (by decide)
    have r0 := hc' 0 (by decide)
    rw [Nat.add_zero, Nat.mul_one, Nat.add_zero] at q0 r0
    rw [hp] at q0
    rw [hp'] at r0
    clear hc hc' hp hp' hb hb'
    have HEQ : Hid (devA l k = devA m k → eqUp l m false (k + 1)) := Lib.hid fun h => eqUp_next HALL.out h
    have HNE : Hid (¬ devA l k = devA m k → ans = false) := Lib.hid fun h => by rw [← HANS.out]; exact decide_eq_false (fun e => h (congrArg (fun l => devA l k) e))
    generalize devA l k = z at *
    generalize devA m k = z' at *
    by_cases hx : z = z'
    case neg =>
      have HF : Hid (ans = false) := Lib.hid (HNE.out hx)
      have e0 : (z == z') = false := by simpa using hx
      have e1 : (z != z') = true := by simpa using hx
      clear hx HEQ HNE
      go_wp2_with fail
      go_quiet (fail)
      go_wp2
      all_goals (go_ret; exact ⟨by rw [HF.out]; rfl, below_drewN K _⟩)
    subst hx
    have HA := Lib.hid (HEQ.out rfl)
    clear HEQ HNE
    go_wp2_with fail
    go_quiet (fail)
    go_wp2_with fail
    exact ⟨⟨k + 1, by omega, by go_num, HA, below_drewN K _⟩, by simp [intOf]; omega⟩
set_option maxRecDepth 100000 in
set_option maxHeartbeats 8000000 in
theorem sliceEqLk_any (l m : List Int) (A B : Option Addr) (c d : Nat) (w : World) (hA : SlV w w.heap.size 1 A l.length (lkCs l)) (hB : SlV w w.heap.size 1 B m.length (lkCs m)) (hl : l.length ≤ maxLen) (hm : m.length ≤ maxLen) :
    Calls Tryz.prog 77 #[.slice A l.length c, .slice B m.length d] w fun e w' => e = .returned (.bool (decide (l = m))) ∧ Below w.heap.size w w' := by
  unfold maxLen at hl hm
  have S := Lib.hid hA
  have T := Lib.hid hB
  clear hA hB
  obtain ⟨ans, hans⟩ : ∃ ans, decide (l = m) = ans := ⟨_, rfl⟩
  rw [hans]
  have HANS := Lib.hid hans
  clear hans
  generalize hq : l.length = n at *
  generalize hp : m.length = n' at *
  have Q := Lib.hid hq
  have P := Lib.hid hp
  clear hq hp
  go_enter Tryz.func77, Tryz.ntmps77
  by_cases hx : n = n'
  case neg =>
    have HF : Hid (ans = false) := Lib.hid (by rw [← HANS.out]; exact decide_eq_false (fun e => hx (by rw [← Q.out, ← P.out, e])))
    have e0 : ((n : Int) == (n' : Int)) = false := beq_eq_false_iff_ne.2 (fun h => hx (by omega))
    have e1 : ((n : Int) != (n' : Int)) = true := bne_iff_ne.2 (fun h => hx (by omega))
    clear hx
    go_wp2
    all_goals (go_ret; exact ⟨by rw [HF.out]; rfl, Below.refl _ _⟩)
  subst hx
  go_wp2_with fail
  go_loopw [13] (fun i wr => ∃ k : Nat, k ≤ n ∧ i = .int .i64 k ∧ Hid (eqUp l m 0 k) ∧ Below w.heap.size w wr) (fun i _ => n - (intOf i).toNat)
  case atStart => exact ⟨0, Nat.zero_le _, rfl, Lib.hid eqUp_zero, Below.refl _ _⟩
  case round =>
  obtain ⟨k, hk, rfl, HALL, K⟩ := hrel
  by_cases hlt : k < n
  case neg =>
    obtain rfl : n = k := by omega
    have HA : Hid (ans = true) := Lib.hid (by rw [← HANS.out]; exact decide_eq_true (eqUp_all HALL.out Q.out P.out))
    go_wp2
    all_goals (go_ret; exact ⟨by rw [HA.out]; rfl, K⟩)
  case pos =>
    obtain ⟨b, off, rfl, hb, hc⟩ := (S.out.below K (Nat.le_refl _)).cell hlt
    obtain ⟨b', off', rfl, hb', hc'⟩ := (T.out.below K (Nat.le_refl _)).cell hlt
    have hp := lkCs_at l (i := k) (by rw [Q.out]; exact hlt)
    have hp' := lkCs_at m (i := k) (by rw [P.out]; exact hlt)
    have q0 := hc 0 (by decide)
    have r0 := hc' 0 (by decide)
    rw [Nat.add_zero, Nat.mul_one, Nat.add_zero] at q0 r0
    rw [hp] at q0
    rw [hp'] at r0
    clear hc hc' hp hp' hb hb'
    have HEQ : Hid (lkA l k = lkA m k → eqUp l m 0 (k + 1)) := Lib.hid fun h => eqUp_next HALL.out h
    have HNE : Hid (¬ lkA l k = lkA m k → ans = false) := Lib.hid fun h => by rw [← HANS.out]; exact decide_eq_false (fun e => h (congrArg (fun l => lkA l k) e))
    generalize lkA l k = z at *
    generalize lkA m k = z' at *
    by_cases hx : z = z'
    case neg =>
      have HF : Hid (ans = false) := Lib.hid (HNE.out hx)
      have e0 : (z == z') = false := by simpa using hx
      have e1 : (z != z') = true := by simpa using hx
      clear hx HEQ HNE
      go_wp2_with fail
      go_quiet (fail)
      go_wp2
      all_goals (go_ret; exact ⟨by rw [HF.out]; rfl, below_drewN K _⟩)
    subst hx
    have HA := Lib.hid (HEQ.out rfl)
    clear HEQ HNE
    go_wp2_with fail
    go_quiet (fail)
    go_wp2_with fail
    exact ⟨⟨k + 1, by omega, by go_num, HA, below_drewN K _⟩, by simp [intOf]; omega⟩
end Go.Proofs.YtkefbmbjkijilaaGreatDoor
/- Xe -/
set_option linter.unusedVariables false
namespace Go.Proofs.YtkefbmbjkijilaaGreatDoor
open Go.RowKit

/-- A state in a box, the call's own, its lists as well. -/
def BxS (w : World) (B g : Nat) (v : Value) (s : StD) : Prop := OwnSt w B v s ∧ ∃ cs : Array Value, v = .agg cs ∧ BoxS w B g cs.toList
/-- What a change answers. -/
def Chg (w : World) (B g : Nat) (v : Value) (t : StD) (e : Ending) (w' : World) : Prop := e = .returned (.tuple #[]) ∧ (∃ v', BxS w' B g v' t) ∧ Keeps (fun b => b = g ∨ rowsOf v b) w w'
theorem keep_other {w w' : World} {B B' e e' k k' n n' g : Nat} {v v' : Value} {xs xs' : List Value} (h : w.ownsRow B e k v n xs) (h' : w.ownsRow B' e' k' v' n' xs') (hv' : v'.ownBlock = some g) (hne : e ≠ e') (kp : Keeps (· = g) w w') : w'.ownsRow B e k v n xs :=
  ownsRow_keeps h kp fun r hr e => hne (row_type h h' (e ▸ hr) hv')
theorem keeps_set (w : World) (g o : Nat) (u : Value) : Keeps (· = g) w (w.setCell ⟨g, o, none⟩ u) := (Keeps.refl (· = g) w).set rfl u
theorem box_apart {w : World} {B B' e k n g : Nat} {v : Value} {xs xs' : List Value} (h : w.ownsRow B e k v n xs) (X : BoxS w B' g xs') (hne : e ≠ 46) : v.ownBlock ≠ some g := fun hv => hne (row_type h X hv rfl)

set_option maxRecDepth 4000 in
set_option maxHeartbeats 2000000 in
theorem chg_clock (v : Value) (s : StD) (a b : Int) (w : World) (B g : Nat) (h : BxS w B g v s) :
    Calls Tryz.prog 127 #[.pointer (some ⟨g, 0, none⟩), .int .i64 a, .int .i64 b] w (Chg w B g v (applyR s ⟨8, a, b⟩)) := by
  obtain ⟨O, cs, hv, X⟩ := h
  obtain ⟨v0, v1, v2, v3, rfl, h0, h1, h2, h3⟩ := O.it
  injection hv with hv
  subst hv
  have H0 := Lib.hid h0
  have H1 := Lib.hid h1
  have H2 := Lib.hid h2
  have H3 := Lib.hid h3
  have HX := Lib.hid X
  have hC := X.C
  have hF := X.frozen
  obtain ⟨ph, co, ck, bo, ba, lb, l0, l1, l2, l3, gd, pr⟩ := s
  dsimp only at *
  clear X O h0 h1 h2 h3
  go_enter Tryz.func127, Tryz.ntmps127
  go_wp2
  refine bodyPost_ret (v := .tuple #[]) (by simp [results, Tryz.results127, go_sem]) rfl ?_
  have X0 := HX.out
  have k0 := Keeps.refl (· = g) w
  have X1 := (World.ownsRow.stored X0 2 (.int .i64 a)).1
  have k1 := k0.set (p := ⟨g, 2, none⟩) rfl (.int .i64 a)
  refine ⟨rfl, ⟨_, ⟨v0, v1, v2, v3, rfl, keep_other H0.out HX.out rfl (by decide) k1, keep_other H1.out HX.out rfl (by decide) k1, keep_other H2.out HX.out rfl (by decide) k1, keep_other H3.out HX.out rfl (by decide) k1⟩, _, rfl, X1⟩, k1.mono fun b hb => Or.inl hb⟩

set_option maxRecDepth 4000 in
set_option maxHeartbeats 2000000 in
theorem chg_band (v : Value) (s : StD) (a b : Int) (w : World) (B g : Nat) (h : BxS w B g v s) :
    Calls Tryz.prog 128 #[.pointer (some ⟨g, 0, none⟩), .int .i64 a, .int .i64 b] w (Chg w B g v (applyR s ⟨9, a, b⟩)) := by
  obtain ⟨O, cs, hv, X⟩ := h
  obtain ⟨v0, v1, v2, v3, rfl, h0, h1, h2, h3⟩ := O.it
  injection hv with hv
  subst hv
  have H0 := Lib.hid h0
  have H1 := Lib.hid h1
  have H2 := Lib.hid h2
  have H3 := Lib.hid h3
  have HX := Lib.hid X
  have hC := X.C
  have hF := X.frozen
  obtain ⟨ph, co, ck, bo, ba, lb, l0, l1, l2, l3, gd, pr⟩ := s
  dsimp only at *
  clear X O h0 h1 h2 h3
  go_enter Tryz.func128, Tryz.ntmps128
  go_wp2
  refine bodyPost_ret (v := .tuple #[]) (by simp [results, Tryz.results128, go_sem]) rfl ?_
  have X0 := HX.out
  have k0 := Keeps.refl (· = g) w
  have X1 := (World.ownsRow.stored X0 4 (.int .i64 a)).1
  have k1 := k0.set (p := ⟨g, 4, none⟩) rfl (.int .i64 a)
  refine ⟨rfl, ⟨_, ⟨v0, v1, v2, v3, rfl, keep_other H0.out HX.out rfl (by decide) k1, keep_other H1.out HX.out rfl (by decide) k1, keep_other H2.out HX.out rfl (by decide) k1, keep_other H3.out HX.out rfl (by decide) k1⟩, _, rfl, X1⟩, k1.mono fun b hb => Or.inl hb⟩

set_option maxRecDepth 4000 in
set_option maxHeartbeats 2000000 in
theorem chg_boot (v : Value) (s : StD) (a b : Int) (w : World) (B g : Nat) (h : BxS w B g v s) :
    Calls Tryz.prog 129 #[.pointer (some ⟨g, 0, none⟩), .int .i64 a, .int .i64 b] w (Chg w B g v (applyR s ⟨10, a, b⟩)) := by
  obtain ⟨O, cs, hv, X⟩ := h
  obtain ⟨v0, v1, v2, v3, rfl, h0, h1, h2, h3⟩ := O.it
  injection hv with hv
  subst hv
  have H0 := Lib.hid h0
  have H1 := Lib.hid h1
  have H2 := Lib.hid h2
  have H3 := Lib.hid h3
  have HX := Lib.hid X
  have hC := X.C
  have hF := X.frozen
  obtain ⟨ph, co, ck, bo, ba, lb, l0, l1, l2, l3, gd, pr⟩ := s
  dsimp only at *
  clear X O h0 h1 h2 h3
  go_enter Tryz.func129, Tryz.ntmps129
  go_wp2
  refine bodyPost_ret (v := .tuple #[]) (by simp [results, Tryz.results129, go_sem]) rfl ?_
  have X0 := HX.out
  have k0 := Keeps.refl (· = g) w
  have X1 := (World.ownsRow.stored X0 3 (.int .i64 a)).1
  have k1 := k0.set (p := ⟨g, 3, none⟩) rfl (.int .i64 a)
  refine ⟨rfl, ⟨_, ⟨v0, v1, v2, v3, rfl, keep_other H0.out HX.out rfl (by decide) k1, keep_other H1.out HX.out rfl (by decide) k1, keep_other H2.out HX.out rfl (by decide) k1, keep_other H3.out HX.out rfl (by decide) k1⟩, _, rfl, X1⟩, k1.mono fun b hb => Or.inl hb⟩

set_option maxRecDepth 4000 in
set_option maxHeartbeats 2000000 in
theorem chg_lockBy (v : Value) (s : StD) (a b : Int) (w : World) (B g : Nat) (h : BxS w B g v s) :
    Calls Tryz.prog 130 #[.pointer (some ⟨g, 0, none⟩), .int .i64 a, .int .i64 b] w (Chg w B g v (applyR s ⟨11, a, b⟩)) := by
  obtain ⟨O, cs, hv, X⟩ := h
  obtain ⟨v0, v1, v2, v3, rfl, h0, h1, h2, h3⟩ := O.it
  injection hv with hv
  subst hv
  have H0 := Lib.hid h0
  have H1 := Lib.hid h1
  have H2 := Lib.hid h2
  have H3 := Lib.hid h3
  have HX := Lib.hid X
  have hC := X.C
  have hF := X.frozen
  obtain ⟨ph, co, ck, bo, ba, lb, l0, l1, l2, l3, gd, pr⟩ := s
  dsimp only at *
  clear X O h0 h1 h2 h3
  go_enter Tryz.func130, Tryz.ntmps130
  go_wp2
  refine bodyPost_ret (v := .tuple #[]) (by simp [results, Tryz.results130, go_sem]) rfl ?_
  have X0 := HX.out
  have k0 := Keeps.refl (· = g) w
  have X1 := (World.ownsRow.stored X0 5 (.int .i64 a)).1
  have k1 := k0.set (p := ⟨g, 5, none⟩) rfl (.int .i64 a)
  refine ⟨rfl, ⟨_, ⟨v0, v1, v2, v3, rfl, keep_other H0.out HX.out rfl (by decide) k1, keep_other H1.out HX.out rfl (by decide) k1, keep_other H2.out HX.out rfl (by decide) k1, keep_other H3.out HX.out rfl (by decide) k1⟩, _, rfl, X1⟩, k1.mono fun b hb => Or.inl hb⟩

set_option maxRecDepth 4000 in
set_option maxHeartbeats 2000000 in
theorem chg_probe (v : Value) (s : StD) (a b : Int) (w : World) (B g : Nat) (h : BxS w B g v s) :
    Calls Tryz.prog 131 #[.pointer (some ⟨g, 0, none⟩), .int .i64 a, .int .i64 b] w (Chg w B g v (applyR s ⟨12, a, b⟩)) := by
  obtain ⟨O, cs, hv, X⟩ := h
  obtain ⟨v0, v1, v2, v3, rfl, h0, h1, h2, h3⟩ := O.it
  injection hv with hv
  subst hv
  have H0 := Lib.hid h0
  have H1 := Lib.hid h1
  have H2 := Lib.hid h2
  have H3 := Lib.hid h3
  have HX := Lib.hid X
  have hC := X.C
  have hF := X.frozen
  obtain ⟨ph, co, ck, bo, ba, lb, l0, l1, l2, l3, gd, pr⟩ := s
  dsimp only at *
  clear X O h0 h1 h2 h3
  go_enter Tryz.func131, Tryz.ntmps131
  go_wp2
  refine bodyPost_ret (v := .tuple #[]) (by simp [results, Tryz.results131, go_sem]) rfl ?_
  have X0 := HX.out
  have k0 := Keeps.refl (· = g) w
  have X1 := (World.ownsRow.stored X0 10 (.int .i64 a)).1
  have k1 := k0.set (p := ⟨g, 10, none⟩) rfl (.int .i64 a)
  have X2 := (World.ownsRow.stored X1 11 (.int .i64 b)).1
  have k2 := k1.set (p := ⟨g, 11, none⟩) rfl (.int .i64 b)
  refine ⟨rfl, ⟨_, ⟨v0, v1, v2, v3, rfl, keep_other H0.out HX.out rfl (by decide) k2, keep_other H1.out HX.out rfl (by decide) k2, keep_other H2.out HX.out rfl (by decide) k2, keep_other H3.out HX.out rfl (by decide) k2⟩, _, rfl, X2⟩, k2.mono fun b hb => Or.inl hb⟩
end Go.Proofs.YtkefbmbjkijilaaGreatDoor
/- Xf -/
set_option linter.unusedVariables false
namespace Go.Proofs.YtkefbmbjkijilaaGreatDoor
open Go.RowKit

set_option maxRecDepth 4000 in
set_option maxHeartbeats 2000000 in
theorem chg_phase (v : Value) (s : StD) (a b : Int) (w : World) (B g : Nat) (h : BxS w B g v s) (ha : a ≠ 0) :
    Calls Tryz.prog 120 #[.pointer (some ⟨g, 0, none⟩), .int .i64 a, .int .i64 b] w (Chg w B g v (applyR s ⟨1, a, b⟩)) := by
  obtain ⟨O, cs, hv, X⟩ := h
  obtain ⟨v0, v1, v2, v3, rfl, h0, h1, h2, h3⟩ := O.it
  injection hv with hv
  subst hv
  have H0 := Lib.hid h0
  have H1 := Lib.hid h1
  have H2 := Lib.hid h2
  have H3 := Lib.hid h3
  have HX := Lib.hid X
  have hC := X.C
  have hF := X.frozen
  obtain ⟨ph, co, ck, bo, ba, lb, l0, l1, l2, l3, gd, pr⟩ := s
  have he : applyR ⟨ph, co, ck, bo, ba, lb, l0, l1, l2, l3, gd, pr⟩ ⟨1, a, b⟩ = ⟨a, true, ck, bo, ba, lb, l0, l1, l2, l3, gd, pr⟩ := by simp [applyR, ha]
  have HE := Lib.hid he
  dsimp only at *
  clear X O h0 h1 h2 h3 he
  have hn : (a == 0) = false := by simp [ha]
  have hm : (a != 0) = true := by simp [ha]
  go_enter Tryz.func120, Tryz.ntmps120
  go_wp2
  refine bodyPost_ret (v := .tuple #[]) (by simp [results, Tryz.results120, go_sem]) rfl ?_
  rw [HE.out]
  have X0 := HX.out
  have k0 := Keeps.refl (· = g) w
  have X1 := (World.ownsRow.stored X0 0 (.int .i64 a)).1
  have k1 := k0.set (p := ⟨g, 0, none⟩) rfl (.int .i64 a)
  have X2 := (World.ownsRow.stored X1 1 (.bool true)).1
  have k2 := k1.set (p := ⟨g, 1, none⟩) rfl (.bool true)
  refine ⟨rfl, ⟨_, ⟨v0, v1, v2, v3, rfl, keep_other H0.out HX.out rfl (by decide) k2, keep_other H1.out HX.out rfl (by decide) k2, keep_other H2.out HX.out rfl (by decide) k2, keep_other H3.out HX.out rfl (by decide) k2⟩, _, rfl, X2⟩, k2.mono fun b hb => Or.inl hb⟩

set_option maxRecDepth 4000 in
set_option maxHeartbeats 2000000 in
theorem chg_idle (v : Value) (s : StD) (b : Int) (w : World) (B g : Nat) (hB : B ≤ w.heap.size) (h : BxS w B g v s) :
    Calls Tryz.prog 120 #[.pointer (some ⟨g, 0, none⟩), .int .i64 0, .int .i64 b] w (Chg w B g v (applyR s ⟨1, 0, b⟩)) := by
  obtain ⟨O, cs, hv, X⟩ := h
  obtain ⟨v0, v1, v2, v3, rfl, h0, h1, h2, h3⟩ := O.it
  injection hv with hv
  subst hv
  have H0 := Lib.hid h0
  have H1 := Lib.hid h1
  have H2 := Lib.hid h2
  have H3 := Lib.hid h3
  have HX := Lib.hid X
  have hC := X.C
  have hF := X.frozen
  obtain ⟨ph, co, ck, bo, ba, lb, l0, l1, l2, l3, gd, pr⟩ := s
  dsimp only at *
  have hg := (X.lt).2
  clear X O h0 h1 h2 h3
  have HB := Lib.hid hB
  clear hB
  go_enter Tryz.func120, Tryz.ntmps120
  go_wp2
  refine bodyPost_ret (v := .tuple #[]) (by simp [results, Tryz.results120, go_sem]) rfl ?_
  have X0 := HX.out
  have k0 := Keeps.refl (· = g) w
  have X1 := (World.ownsRow.stored X0 0 (.int .i64 0)).1
  have k1 := k0.set (p := ⟨g, 0, none⟩) rfl (.int .i64 0)
  have X2 := (World.ownsRow.stored X1 1 (.bool false)).1
  have k2 := k1.set (p := ⟨g, 1, none⟩) rfl (.bool false)
  have X3 := (World.ownsRow.stored X2 10 (.int .i64 0)).1
  have k3 := k2.set (p := ⟨g, 10, none⟩) rfl (.int .i64 0)
  have X4 := (World.ownsRow.stored X3 11 (.int .i64 0)).1
  have k4 := k3.set (p := ⟨g, 11, none⟩) rfl (.int .i64 0)
  have X5 := (World.ownsRow.stored X4 9 (.slice (some ⟨w.heap.size, 0, none⟩) 0 0)).1
  have k5 := k4.set (p := ⟨g, 9, none⟩) rfl (.slice (some ⟨w.heap.size, 0, none⟩) 0 0)
  have k6 := k5.trans (Keeps.of_below ((Below.refl _ _).alloc (Nat.le_refl _) (.cells #[] 2)))
  have X6 := ownsRow_below X5 ((Below.refl _ _).alloc (Nat.le_refl _) (.cells #[] 2))
  exact ⟨rfl, ⟨_, ⟨v0, v1, v2, .slice (some ⟨w.heap.size, 0, none⟩) 0 0, rfl, keep_other H0.out HX.out rfl (by decide) k6, keep_other H1.out HX.out rfl (by decide) k6, keep_other H2.out HX.out rfl (by decide) k6, made_at _ _ _ _ _ (by simp) (by have := HB.out; simpa using this)⟩, _, rfl, X6⟩, k6.mono fun b hb => Or.inl hb⟩

set_option maxRecDepth 4000 in
set_option maxHeartbeats 2000000 in
theorem chg_pod (v : Value) (s : StD) (a b : Int) (w : World) (B g : Nat) (h : BxS w B g v s) (ha0 : 0 ≤ a) (ha1 : a < s.pods.length) :
    Calls Tryz.prog 121 #[.pointer (some ⟨g, 0, none⟩), .int .i64 a, .int .i64 b] w (Chg w B g v (applyR s ⟨2, a, b⟩)) := by
  obtain ⟨O, cs, hv, X⟩ := h
  obtain ⟨v0, v1, v2, v3, rfl, h0, h1, h2, h3⟩ := O.it
  injection hv with hv
  subst hv
  have H0 := Lib.hid h0
  have H1 := Lib.hid h1
  have H2 := Lib.hid h2
  have H3 := Lib.hid h3
  have HX := Lib.hid X
  obtain ⟨A, c, m, rfl, hA, hnc, hBg, hgz, R, sl, hx⟩ := open_row h0
  have hC := X.C
  have hF := X.frozen
  obtain ⟨ph, co, ck, bo, ba, lb, l0, l1, l2, l3, gd, pr⟩ := s
  dsimp only at *
  obtain ⟨i, rfl⟩ := Int.eq_ofNat_of_zero_le ha0
  have hi : i < l0.length := by omega
  obtain rfl := hA (by omega)
  have hmg : m ≠ g := fun e => box_apart h0 X (by decide) (by rw [← e]; rfl)
  have HR := Lib.hid R
  unfold maxLen at hx
  have HXX := Lib.hid hx
  clear hA hgz R hBg hx hnc sl X O h0 h1 h2 h3
  have q0 := (HR.out (i * 2) (by rw [podCs_len]; omega)).1.trans (podCs_at l0 hi).1
  have hf0 := (HR.out (i * 2) (by rw [podCs_len]; omega)).2
  have q1 := (HR.out (i * 2 + 1) (by rw [podCs_len]; omega)).1.trans (podCs_at l0 hi).2
  have hf1 := (HR.out (i * 2 + 1) (by rw [podCs_len]; omega)).2
  have HE : Hid (applyR ⟨ph, co, ck, bo, ba, lb, l0, l1, l2, l3, gd, pr⟩ ⟨2, i, b⟩ = ⟨ph, co, ck, bo, ba, lb, l0.set i (b, ck), l1, l2, l3, gd, pr⟩) := Lib.hid rfl
  go_enter Tryz.func121, Tryz.ntmps121
  go_region
  all_goals try go_wp2
  all_goals
    refine bodyPost_ret (v := .tuple #[]) (by simp [results, Tryz.results121, go_sem]) rfl ?_
    rw [HE.out]
    have X0 := HX.out
    have k0 := Keeps.refl (· = m) w
    have s0 := H0.out
    have s1 := (World.ownsRow.stored s0 (i * 2) (.int .i64 b)).1
    have k1 := k0.set (p := ⟨m, i * 2, none⟩) rfl (.int .i64 b)
    have s2 := (World.ownsRow.stored s1 (i * 2 + 1) (.int .i64 ck)).1
    have k2 := k1.set (p := ⟨m, i * 2 + 1, none⟩) rfl (.int .i64 ck)
    have s3 := ownsRow_below s2 (Below.refl _ _).drew
    have k3 := k2.drew
    have hX := X0.keeps k3 (fun e => hmg e.symm)
    refine ⟨rfl, ⟨_, ⟨.slice (some ⟨m, 0, none⟩) l0.length c, v1, v2, v3, rfl, ?_, keep_other H1.out H0.out rfl (by decide) k3, keep_other H2.out H0.out rfl (by decide) k3, keep_other H3.out H0.out rfl (by decide) k3⟩, _, rfl, hX⟩, k3.mono fun b hb => Or.inr ⟨_, 6, _, rfl, rfl, by rw [hb]; rfl⟩⟩
    rw [List.length_set, podCs_set l0 hi]
    exact s3

set_option maxRecDepth 4000 in
set_option maxHeartbeats 2000000 in
theorem chg_busy (v : Value) (s : StD) (a b : Int) (w : World) (B g : Nat) (h : BxS w B g v s) (ha0 : 0 ≤ a) (ha1 : a < s.mnts.length) :
    Calls Tryz.prog 122 #[.pointer (some ⟨g, 0, none⟩), .int .i64 a, .int .i64 b] w (Chg w B g v (applyR s ⟨3, a, b⟩)) := by
  obtain ⟨O, cs, hv, X⟩ := h
  obtain ⟨v0, v1, v2, v3, rfl, h0, h1, h2, h3⟩ := O.it
  injection hv with hv
  subst hv
  have H0 := Lib.hid h0
  have H1 := Lib.hid h1
  have H2 := Lib.hid h2
  have H3 := Lib.hid h3
  have HX := Lib.hid X
  obtain ⟨A, c, m, rfl, hA, hnc, hBg, hgz, R, sl, hx⟩ := open_row h1
  have hC := X.C
  have hF := X.frozen
  obtain ⟨ph, co, ck, bo, ba, lb, l0, l1, l2, l3, gd, pr⟩ := s
  dsimp only at *
  obtain ⟨i, rfl⟩ := Int.eq_ofNat_of_zero_le ha0
  have hi : i < l1.length := by omega
  obtain rfl := hA (by omega)
  have hmg : m ≠ g := fun e => box_apart h1 X (by decide) (by rw [← e]; rfl)
  have HR := Lib.hid R
  unfold maxLen at hx
  have HXX := Lib.hid hx
  clear hA hgz R hBg hx hnc sl X O h0 h1 h2 h3
  have q0 := (HR.out (i * 2) (by rw [mntCs_len]; omega)).1.trans (mntCs_at l1 hi).1
  have hf0 := (HR.out (i * 2) (by rw [mntCs_len]; omega)).2
  have q1 := (HR.out (i * 2 + 1) (by rw [mntCs_len]; omega)).1.trans (mntCs_at l1 hi).2
  have hf1 := (HR.out (i * 2 + 1) (by rw [mntCs_len]; omega)).2
  have HE : Hid (applyR ⟨ph, co, ck, bo, ba, lb, l0, l1, l2, l3, gd, pr⟩ ⟨3, i, b⟩ = ⟨ph, co, ck, bo, ba, lb, l0, l1.set i ((mntA l1 i).1, b), l2, l3, gd, pr⟩) := Lib.hid rfl
  go_enter Tryz.func122, Tryz.ntmps122
  go_wp2
  all_goals
    refine bodyPost_ret (v := .tuple #[]) (by simp [results, Tryz.results122, go_sem]) rfl ?_
    rw [HE.out]
    have X0 := HX.out
    have k0 := Keeps.refl (· = m) w
    have s0 := H1.out
    have s1 := (World.ownsRow.stored s0 (i * 2 + 1) (.int .i64 b)).1
    have k1 := k0.set (p := ⟨m, i * 2 + 1, none⟩) rfl (.int .i64 b)
    have hX := X0.keeps k1 (fun e => hmg e.symm)
    refine ⟨rfl, ⟨_, ⟨v0, .slice (some ⟨m, 0, none⟩) l1.length c, v2, v3, rfl, keep_other H0.out H1.out rfl (by decide) k1, ?_, keep_other H2.out H1.out rfl (by decide) k1, keep_other H3.out H1.out rfl (by decide) k1⟩, _, rfl, hX⟩, k1.mono fun b hb => Or.inr ⟨_, 7, _, rfl, rfl, by rw [hb]; rfl⟩⟩
    rw [List.length_set, mntCs_busy l1 hi]
    exact s1

set_option maxRecDepth 4000 in
set_option maxHeartbeats 2000000 in
theorem chg_free (v : Value) (s : StD) (a b : Int) (w : World) (B g : Nat) (h : BxS w B g v s) (ha0 : 0 ≤ a) (ha1 : a < s.mnts.length) :
    Calls Tryz.prog 123 #[.pointer (some ⟨g, 0, none⟩), .int .i64 a, .int .i64 b] w (Chg w B g v (applyR s ⟨4, a, b⟩)) := by
  obtain ⟨O, cs, hv, X⟩ := h
  obtain ⟨v0, v1, v2, v3, rfl, h0, h1, h2, h3⟩ := O.it
  injection hv with hv
  subst hv
  have H0 := Lib.hid h0
  have H1 := Lib.hid h1
  have H2 := Lib.hid h2
  have H3 := Lib.hid h3
  have HX := Lib.hid X
  obtain ⟨A, c, m, rfl, hA, hnc, hBg, hgz, R, sl, hx⟩ := open_row h1
  have hC := X.C
  have hF := X.frozen
  obtain ⟨ph, co, ck, bo, ba, lb, l0, l1, l2, l3, gd, pr⟩ := s
  dsimp only at *
  obtain ⟨i, rfl⟩ := Int.eq_ofNat_of_zero_le ha0
  have hi : i < l1.length := by omega
  obtain rfl := hA (by omega)
  have hmg : m ≠ g := fun e => box_apart h1 X (by decide) (by rw [← e]; rfl)
  have HR := Lib.hid R
  unfold maxLen at hx
  have HXX := Lib.hid hx
  clear hA hgz R hBg hx hnc sl X O h0 h1 h2 h3
  have q0 := (HR.out (i * 2) (by rw [mntCs_len]; omega)).1.trans (mntCs_at l1 hi).1
  have hf0 := (HR.out (i * 2) (by rw [mntCs_len]; omega)).2
  have q1 := (HR.out (i * 2 + 1) (by rw [mntCs_len]; omega)).1.trans (mntCs_at l1 hi).2
  have hf1 := (HR.out (i * 2 + 1) (by rw [mntCs_len]; omega)).2
  have HE : Hid (applyR ⟨ph, co, ck, bo, ba, lb, l0, l1, l2, l3, gd, pr⟩ ⟨4, i, b⟩ = ⟨ph, co, ck, bo, ba, lb, l0, l1.set i (false, 0), l2, l3, gd, pr⟩) := Lib.hid rfl
  go_enter Tryz.func123, Tryz.ntmps123
  go_wp2
  all_goals
    refine bodyPost_ret (v := .tuple #[]) (by simp [results, Tryz.results123, go_sem]) rfl ?_
    rw [HE.out]
    have X0 := HX.out
    have k0 := Keeps.refl (· = m) w
    have s0 := H1.out
    have s1 := (World.ownsRow.stored s0 (i * 2) (.bool false)).1
    have k1 := k0.set (p := ⟨m, i * 2, none⟩) rfl (.bool false)
    have s2 := (World.ownsRow.stored s1 (i * 2 + 1) (.int .i64 0)).1
    have k2 := k1.set (p := ⟨m, i * 2 + 1, none⟩) rfl (.int .i64 0)
    have hX := X0.keeps k2 (fun e => hmg e.symm)
    refine ⟨rfl, ⟨_, ⟨v0, .slice (some ⟨m, 0, none⟩) l1.length c, v2, v3, rfl, keep_other H0.out H1.out rfl (by decide) k2, ?_, keep_other H2.out H1.out rfl (by decide) k2, keep_other H3.out H1.out rfl (by decide) k2⟩, _, rfl, hX⟩, k2.mono fun b hb => Or.inr ⟨_, 7, _, rfl, rfl, by rw [hb]; rfl⟩⟩
    rw [List.length_set, mntCs_set l1 hi]
    exact s2

set_option maxRecDepth 4000 in
set_option maxHeartbeats 2000000 in
theorem chg_give (v : Value) (s : StD) (a b : Int) (w : World) (B g : Nat) (h : BxS w B g v s) (ha0 : 0 ≤ a) (ha1 : a < s.devs.length) :
    Calls Tryz.prog 124 #[.pointer (some ⟨g, 0, none⟩), .int .i64 a, .int .i64 b] w (Chg w B g v (applyR s ⟨5, a, b⟩)) := by
  obtain ⟨O, cs, hv, X⟩ := h
  obtain ⟨v0, v1, v2, v3, rfl, h0, h1, h2, h3⟩ := O.it
  injection hv with hv
  subst hv
  have H0 := Lib.hid h0
  have H1 := Lib.hid h1
  have H2 := Lib.hid h2
  have H3 := Lib.hid h3
  have HX := Lib.hid X
  obtain ⟨A, c, m, rfl, hA, hnc, hBg, hgz, R, sl, hx⟩ := open_row h2
  have hC := X.C
  have hF := X.frozen
  obtain ⟨ph, co, ck, bo, ba, lb, l0, l1, l2, l3, gd, pr⟩ := s
  dsimp only at *
  obtain ⟨i, rfl⟩ := Int.eq_ofNat_of_zero_le ha0
  have hi : i < l2.length := by omega
  obtain rfl := hA (by omega)
  have hmg : m ≠ g := fun e => box_apart h2 X (by decide) (by rw [← e]; rfl)
  have HR := Lib.hid R
  unfold maxLen at hx
  have HXX := Lib.hid hx
  clear hA hgz R hBg hx hnc sl X O h0 h1 h2 h3
  have q0 := (HR.out i (by rw [devCs_len]; omega)).1.trans (devCs_at l2 hi)
  have hf0 := (HR.out i (by rw [devCs_len]; omega)).2
  have HE : Hid (applyR ⟨ph, co, ck, bo, ba, lb, l0, l1, l2, l3, gd, pr⟩ ⟨5, i, b⟩ = ⟨ph, co, ck, bo, ba, lb, l0, l1, l2.set i false, l3, gd, pr⟩) := Lib.hid rfl
  go_enter Tryz.func124, Tryz.ntmps124
  go_wp2
  all_goals
    refine bodyPost_ret (v := .tuple #[]) (by simp [results, Tryz.results124, go_sem]) rfl ?_
    rw [HE.out]
    have X0 := HX.out
    have k0 := Keeps.refl (· = m) w
    have s0 := H2.out
    have s1 := (World.ownsRow.stored s0 (i) (.bool false)).1
    have k1 := k0.set (p := ⟨m, i, none⟩) rfl (.bool false)
    have hX := X0.keeps k1 (fun e => hmg e.symm)
    refine ⟨rfl, ⟨_, ⟨v0, v1, .slice (some ⟨m, 0, none⟩) l2.length c, v3, rfl, keep_other H0.out H2.out rfl (by decide) k1, keep_other H1.out H2.out rfl (by decide) k1, ?_, keep_other H3.out H2.out rfl (by decide) k1⟩, _, rfl, hX⟩, k1.mono fun b hb => Or.inr ⟨_, 8, _, rfl, rfl, by rw [hb]; rfl⟩⟩
    rw [List.length_set, devCs_set]
    exact s1
end Go.Proofs.YtkefbmbjkijilaaGreatDoor
/- Xg -/
set_option linter.unusedVariables false
namespace Go.Proofs.YtkefbmbjkijilaaGreatDoor
open Go.RowKit

theorem insert_any (l : List Int) (x : Int) (i : Nat) (w : World) (B vb : Nat) (v : Value) (hB : B ≤ w.heap.size) (h : LkR w B v l) (hi : i ≤ l.length) (hl : l.length ≤ 1048576) (hne : v.ownBlock ≠ some vb) (hv : w.heap[vb]? = some (.cells #[.int .i64 x] 2)) :
    Calls Tryz.prog 156 #[v, .int .i64 i, .slice (some ⟨vb, 0, none⟩) 1 1] w (Puts w B v (l.take i ++ x :: l.drop i)) := by
  by_cases e : i = l.length
  · subst e
    rw [List.take_length, List.drop_length]
    exact insert_end l x w B vb v hB h hl hv
  · rcases h.2 with ⟨rfl, hn⟩ | ⟨g, cap, cur, rfl, hb, hh, hnc, hcm, hsz, ht⟩
    · omega
    · have hg : vb ≠ g := fun e => hne (by rw [e]; rfl)
      by_cases hc : l.length < cap
      · exact insert_room l x w B vb g cap i hB h (by omega) hc hg hv
      · exact insert_grow l x w B vb g cap i hB h (by omega) hnc (by omega) hl hv

set_option maxRecDepth 4000 in
set_option maxHeartbeats 2000000 in
theorem chg_lock (v : Value) (s : StD) (a b : Int) (w : World) (B g : Nat) (hB : B ≤ w.heap.size) (h : BxS w B g v s) (hr : s.lks.Pairwise (· < ·)) (hf : s.lks.length ≤ 1048576) :
    Calls Tryz.prog 125 #[.pointer (some ⟨g, 0, none⟩), .int .i64 a, .int .i64 b] w (Chg w B g v (applyR s ⟨6, a, b⟩)) := by
  obtain ⟨O, cs, hv, X⟩ := h
  obtain ⟨v0, v1, v2, v3, rfl, h0, h1, h2, h3⟩ := O.it
  injection hv with hv
  subst hv
  obtain ⟨ph, co, ck, bo, ba, lb, l0, l1, l2, l3, gd, pr⟩ := s
  dsimp only at *
  have he : applyR ⟨ph, co, ck, bo, ba, lb, l0, l1, l2, l3, gd, pr⟩ ⟨6, a, b⟩ = ⟨ph, co, ck, bo, ba, lb, l0, l1, l2, if l3.contains a then l3 else l3.take (placeN l3 a) ++ a :: l3.drop (placeN l3 a), gd, pr⟩ := by rw [← with_place a hr]; rfl
  have HE := Lib.hid he
  have HP := Lib.hid (place_le l3 a)
  have HR := Lib.hid hr
  have HF := Lib.hid hf
  have HB := Lib.hid hB
  have H0 := Lib.hid h0
  have H1 := Lib.hid h1
  have H2 := Lib.hid h2
  have H3 := Lib.hid h3
  have HX := Lib.hid X
  have hC := X.C
  have hF := X.frozen
  obtain ⟨A, c, rfl, -⟩ := open_rowR h3
  clear he hr hf hB X O h0 h1 h2 h3
  go_enter Tryz.func125, Tryz.ntmps125
  go_wp2_with fail
  refine (search_any _ l3 a _ B H3.out HR.out HF.out).mono ?_
  rintro e w1 ⟨rfl, q, hq⟩
  have K : Below w.heap.size w w1 := by rw [hq]; exact below_drewN (Below.refl _ _) q
  clear hq
  generalize hp : placeN l3 a = p at *
  cases hc : l3.contains a
  · obtain ⟨L, hL⟩ : ∃ L, l3.take p ++ a :: l3.drop p = L := ⟨_, rfl⟩
    replace HE : Hid (applyR ⟨ph, co, ck, bo, ba, lb, l0, l1, l2, l3, gd, pr⟩ ⟨6, a, b⟩ = ⟨ph, co, ck, bo, ba, lb, l0, l1, l2, L, gd, pr⟩) := Lib.hid (by rw [HE.out, hc, ← hL]; rfl)
    have X1 := HX.out.go K
    have G3 := Lib.hid (ownsRow_below H3.out K)
    have hbox : w1.heap.size ≠ g := by have := X1.lt.2; omega
    clear hC hF
    have hC := X1.C
    have hF := X1.frozen
    go_wp2_with fail
    have K2 : Below w1.heap.size w1 (w1.alloc (.cells #[.int .i64 a] 2)) := (Below.refl _ _).alloc (Nat.le_refl _) _
    have hnew : (w1.alloc (.cells #[.int .i64 a] 2)).heap[w1.heap.size]? = some (.cells #[.int .i64 a] 2) := heap_alloc_new w1 _
    have hB1 : B ≤ (w1.alloc (.cells #[.int .i64 a] 2)).heap.size := Nat.le_trans (Nat.le_trans HB.out K.size) K2.size
    refine (insert_any l3 a p _ B w1.heap.size _ hB1 (ownsRow_below G3.out K2) HP.out HF.out (fun hv => by have := (G3.out.lt _ hv).2; omega) hnew).mono ?_
    rintro e w3 ⟨v', rfl, R', kp⟩
    have KK := K.trans (K2.mono K.size)
    have X2 := (X1.go K2).keeps kp (box_apart (ownsRow_below G3.out K2) (X1.go K2) (by decide))
    have Q0 := Lib.hid (ownsRow_keeps (ownsRow_below H0.out KK) kp fun r hr e => absurd (row_type H0.out H3.out hr e) (by decide))
    have Q1 := Lib.hid (ownsRow_keeps (ownsRow_below H1.out KK) kp fun r hr e => absurd (row_type H1.out H3.out hr e) (by decide))
    have Q2 := Lib.hid (ownsRow_keeps (ownsRow_below H2.out KK) kp fun r hr e => absurd (row_type H2.out H3.out hr e) (by decide))
    have HK : Hid (Keeps (fun b => b = g ∨ (Value.slice A l3.length c).ownBlock = some b) w w3) := Lib.hid ((Keeps.of_below KK).trans (kp.mono fun b hb => Or.inr hb))
    rw [hL] at R'
    clear hL
    obtain ⟨D, d, rfl, -⟩ := open_rowR R'
    have Q3 := Lib.hid R'
    have HX2 := Lib.hid X2
    clear kp K K2 KK hnew hB1 X1 G3 hC hF R' hbox
    have hC := X2.C
    have hF := X2.frozen
    clear X2
    go_wp2
    refine bodyPost_ret (v := .tuple #[]) (by simp [results, Tryz.results125, go_sem]) rfl ?_
    rw [HE.out]
    have k2 := keeps_set w3 g 9 (.slice D L.length d)
    refine ⟨rfl, ⟨_, ⟨v0, v1, v2, .slice D L.length d, rfl, keep_other Q0.out HX2.out rfl (by decide) k2, keep_other Q1.out HX2.out rfl (by decide) k2, keep_other Q2.out HX2.out rfl (by decide) k2, keep_other Q3.out HX2.out rfl (by decide) k2⟩, _, rfl, (World.ownsRow.stored HX2.out 9 (.slice D L.length d)).1⟩, ?_⟩
    exact (HK.out.trans (k2.mono fun b hb => Or.inl hb)).mono fun b hb => hb.imp id fun h => ⟨_, 9, _, rfl, rfl, h⟩
  · replace HE : Hid (applyR ⟨ph, co, ck, bo, ba, lb, l0, l1, l2, l3, gd, pr⟩ ⟨6, a, b⟩ = ⟨ph, co, ck, bo, ba, lb, l0, l1, l2, l3, gd, pr⟩) := Lib.hid (by rw [HE.out, hc]; rfl)
    have X1 := HX.out.go K
    clear hC hF
    go_wp2
    refine bodyPost_ret (v := .tuple #[]) (by simp [results, Tryz.results125, go_sem]) rfl ?_
    rw [HE.out]
    exact ⟨rfl, ⟨_, ⟨v0, v1, v2, _, rfl, ownsRow_below H0.out K, ownsRow_below H1.out K, ownsRow_below H2.out K, ownsRow_below H3.out K⟩, _, rfl, X1⟩, Keeps.of_below K⟩

set_option maxRecDepth 4000 in
set_option maxHeartbeats 2000000 in
theorem chg_unlock (v : Value) (s : StD) (a b : Int) (w : World) (B g : Nat) (hB : B ≤ w.heap.size) (h : BxS w B g v s) (hr : s.lks.Pairwise (· < ·)) (hf : s.lks.length ≤ 1048576) :
    Calls Tryz.prog 126 #[.pointer (some ⟨g, 0, none⟩), .int .i64 a, .int .i64 b] w (Chg w B g v (applyR s ⟨7, a, b⟩)) := by
  obtain ⟨O, cs, hv, X⟩ := h
  obtain ⟨v0, v1, v2, v3, rfl, h0, h1, h2, h3⟩ := O.it
  injection hv with hv
  subst hv
  obtain ⟨ph, co, ck, bo, ba, lb, l0, l1, l2, l3, gd, pr⟩ := s
  dsimp only at *
  have he : applyR ⟨ph, co, ck, bo, ba, lb, l0, l1, l2, l3, gd, pr⟩ ⟨7, a, b⟩ = ⟨ph, co, ck, bo, ba, lb, l0, l1, l2, if l3.contains a then l3.take (placeN l3 a) ++ l3.drop (placeN l3 a + 1) else l3, gd, pr⟩ := by rw [← without_place a hr]; rfl
  have HE := Lib.hid he
  have HP := Lib.hid (fun h => place_lt (x := a) h hr)
  have HR := Lib.hid hr
  have HF := Lib.hid hf
  have HB := Lib.hid hB
  have H0 := Lib.hid h0
  have H1 := Lib.hid h1
  have H2 := Lib.hid h2
  have H3 := Lib.hid h3
  have HX := Lib.hid X
  have hC := X.C
  have hF := X.frozen
  obtain ⟨A, c, rfl, -⟩ := open_rowR h3
  clear he hr hf hB X O h0 h1 h2 h3
  go_enter Tryz.func126, Tryz.ntmps126
  go_wp2_with fail
  refine (search_any _ l3 a _ B H3.out HR.out HF.out).mono ?_
  rintro e w1 ⟨rfl, q, hq⟩
  have K : Below w.heap.size w w1 := by rw [hq]; exact below_drewN (Below.refl _ _) q
  clear hq
  generalize hp : placeN l3 a = p at *
  cases hc : l3.contains a
  · replace HE : Hid (applyR ⟨ph, co, ck, bo, ba, lb, l0, l1, l2, l3, gd, pr⟩ ⟨7, a, b⟩ = ⟨ph, co, ck, bo, ba, lb, l0, l1, l2, l3, gd, pr⟩) := Lib.hid (by rw [HE.out, hc]; rfl)
    have X1 := HX.out.go K
    clear hC hF
    go_wp2
    refine bodyPost_ret (v := .tuple #[]) (by simp [results, Tryz.results126, go_sem]) rfl ?_
    rw [HE.out]
    exact ⟨rfl, ⟨_, ⟨v0, v1, v2, _, rfl, ownsRow_below H0.out K, ownsRow_below H1.out K, ownsRow_below H2.out K, ownsRow_below H3.out K⟩, _, rfl, X1⟩, Keeps.of_below K⟩
  · obtain ⟨L, hL⟩ : ∃ L, l3.take p ++ l3.drop (p + 1) = L := ⟨_, rfl⟩
    replace HE : Hid (applyR ⟨ph, co, ck, bo, ba, lb, l0, l1, l2, l3, gd, pr⟩ ⟨7, a, b⟩ = ⟨ph, co, ck, bo, ba, lb, l0, l1, l2, L, gd, pr⟩) := Lib.hid (by rw [HE.out, hc, ← hL]; rfl)
    have X1 := HX.out.go K
    have G3 := Lib.hid (ownsRow_below H3.out K)
    have hbox : w1.heap.size ≠ g := by have := X1.lt.2; omega
    clear hC hF
    have hC := X1.C
    have hF := X1.frozen
    have hp1 : p < 1048576 := Nat.lt_of_lt_of_le (HP.out hc) HF.out
    have hw : IntKind.i64.wrap ((p : Int) + 1) = (p : Int) + 1 := by rw [IntKind.wrap_i64]; omega
    go_wp2_with fail
    refine (delete_any _ l3 p _ B G3.out (HP.out hc) HF.out).mono ?_
    rintro e w3 ⟨v', rfl, R', kp⟩
    have X2 := X1.keeps kp (box_apart G3.out X1 (by decide))
    have Q0 := Lib.hid (ownsRow_keeps (ownsRow_below H0.out K) kp fun r hr e => absurd (row_type H0.out H3.out hr e) (by decide))
    have Q1 := Lib.hid (ownsRow_keeps (ownsRow_below H1.out K) kp fun r hr e => absurd (row_type H1.out H3.out hr e) (by decide))
    have Q2 := Lib.hid (ownsRow_keeps (ownsRow_below H2.out K) kp fun r hr e => absurd (row_type H2.out H3.out hr e) (by decide))
    have HK : Hid (Keeps (fun b => b = g ∨ (Value.slice A l3.length c).ownBlock = some b) w w3) := Lib.hid ((Keeps.of_below K).trans (kp.mono fun b hb => Or.inr hb))
    rw [hL] at R'
    clear hL
    obtain ⟨D, d, rfl, -⟩ := open_rowR R'
    have Q3 := Lib.hid R'
    have HX2 := Lib.hid X2
    clear kp K X1 G3 hC hF R' hbox
    have hC := X2.C
    have hF := X2.frozen
    clear X2
    go_wp2
    refine bodyPost_ret (v := .tuple #[]) (by simp [results, Tryz.results126, go_sem]) rfl ?_
    rw [HE.out]
    have k2 := keeps_set w3 g 9 (.slice D L.length d)
    refine ⟨rfl, ⟨_, ⟨v0, v1, v2, .slice D L.length d, rfl, keep_other Q0.out HX2.out rfl (by decide) k2, keep_other Q1.out HX2.out rfl (by decide) k2, keep_other Q2.out HX2.out rfl (by decide) k2, keep_other Q3.out HX2.out rfl (by decide) k2⟩, _, rfl, (World.ownsRow.stored HX2.out 9 (.slice D L.length d)).1⟩, ?_⟩
    exact (HK.out.trans (k2.mono fun b hb => Or.inl hb)).mono fun b hb => hb.imp id fun h => ⟨_, 9, _, rfl, rfl, h⟩
end Go.Proofs.YtkefbmbjkijilaaGreatDoor
/- Xi -/
set_option linter.unusedVariables false
namespace Go.Proofs.YtkefbmbjkijilaaGreatDoor
open Go.RowKit

/-- The table. -/
abbrev chgT : Array Value := #[.nilFunc, .func (.func 120) #[] #[], .func (.func 121) #[] #[], .func (.func 122) #[] #[], .func (.func 123) #[] #[], .func (.func 124) #[] #[], .func (.func 125) #[] #[], .func (.func 126) #[] #[], .func (.func 127) #[] #[], .func (.func 128) #[] #[], .func (.func 129) #[] #[], .func (.func 130) #[] #[], .func (.func 131) #[] #[]]
set_option maxRecDepth 4000 in
set_option maxHeartbeats 2000000 in
theorem kindChanges_any (w : World) : Calls Tryz.prog 101 #[] w fun e w' => e = .returned (.agg chgT) ∧ Below w.heap.size w w' := by
  go_enter Tryz.func101, Tryz.ntmps101
  go_wp2
  refine bodyPost_ret (v := .agg chgT) (by simp [results, Tryz.results101, go_sem]) rfl ?_
  exact ⟨rfl, (Below.refl _ _).alloc (Nat.le_refl _) _⟩
theorem enter_chg1 (args : Array Value) (w : World) : (callFunc 120 args).run Tryz.prog w = .ok (.enter 120 args) w := by simp [go_sem]
theorem enter_chg2 (args : Array Value) (w : World) : (callFunc 121 args).run Tryz.prog w = .ok (.enter 121 args) w := by simp [go_sem]
theorem enter_chg3 (args : Array Value) (w : World) : (callFunc 122 args).run Tryz.prog w = .ok (.enter 122 args) w := by simp [go_sem]
theorem enter_chg4 (args : Array Value) (w : World) : (callFunc 123 args).run Tryz.prog w = .ok (.enter 123 args) w := by simp [go_sem]
theorem enter_chg5 (args : Array Value) (w : World) : (callFunc 124 args).run Tryz.prog w = .ok (.enter 124 args) w := by simp [go_sem]
theorem enter_chg6 (args : Array Value) (w : World) : (callFunc 125 args).run Tryz.prog w = .ok (.enter 125 args) w := by simp [go_sem]
theorem enter_chg7 (args : Array Value) (w : World) : (callFunc 126 args).run Tryz.prog w = .ok (.enter 126 args) w := by simp [go_sem]
theorem enter_chg8 (args : Array Value) (w : World) : (callFunc 127 args).run Tryz.prog w = .ok (.enter 127 args) w := by simp [go_sem]
theorem enter_chg9 (args : Array Value) (w : World) : (callFunc 128 args).run Tryz.prog w = .ok (.enter 128 args) w := by simp [go_sem]
theorem enter_chg10 (args : Array Value) (w : World) : (callFunc 129 args).run Tryz.prog w = .ok (.enter 129 args) w := by simp [go_sem]
theorem enter_chg11 (args : Array Value) (w : World) : (callFunc 130 args).run Tryz.prog w = .ok (.enter 130 args) w := by simp [go_sem]
theorem enter_chg12 (args : Array Value) (w : World) : (callFunc 131 args).run Tryz.prog w = .ok (.enter 131 args) w := by simp [go_sem]
/-- What a record's change does, by the table. -/
theorem change_at (s : StD) (r : RecD) (hk : recOkB r = true) (ht : thereB s r = true) (hr : s.lks.Pairwise (· < ·)) (hf : s.lks.length ≤ 1048576) :
    ∃ f, chgT[r.k.toNat]? = some (.func (.func f) #[] #[]) ∧ (∀ args w, (callFunc f args).run Tryz.prog w = .ok (.enter f args) w) ∧
      ∀ (v : Value) (w : World) (B g : Nat), B ≤ w.heap.size → BxS w B g v s → Calls Tryz.prog f #[.pointer (some ⟨g, 0, none⟩), .int .i64 r.a, .int .i64 r.b] w (Chg w B g v (applyR s r)) := by
  obtain ⟨k, a, b⟩ := r
  rw [recOkB_true] at hk
  simp only [] at hk
  have ha0 : 0 ≤ a := by omega
  have h12 : k = 1 ∨ k = 2 ∨ k = 3 ∨ k = 4 ∨ k = 5 ∨ k = 6 ∨ k = 7 ∨ k = 8 ∨ k = 9 ∨ k = 10 ∨ k = 11 ∨ k = 12 := by omega
  clear hk
  rcases h12 with rfl | rfl | rfl | rfl | rfl | rfl | rfl | rfl | rfl | rfl | rfl | rfl
  · by_cases ha : a = 0
    · subst ha
      exact ⟨_, rfl, enter_chg1, fun v w B g hB h => chg_idle v s b w B g hB h⟩
    · exact ⟨_, rfl, enter_chg1, fun v w B g hB h => chg_phase v s a b w B g h ha⟩
  · exact ⟨_, rfl, enter_chg2, fun v w B g hB h => chg_pod v s a b w B g h ha0 (by simpa [thereB] using ht)⟩
  · exact ⟨_, rfl, enter_chg3, fun v w B g hB h => chg_busy v s a b w B g h ha0 (by simpa [thereB] using ht)⟩
  · exact ⟨_, rfl, enter_chg4, fun v w B g hB h => chg_free v s a b w B g h ha0 (by simpa [thereB] using ht)⟩
  · exact ⟨_, rfl, enter_chg5, fun v w B g hB h => chg_give v s a b w B g h ha0 (by simpa [thereB] using ht)⟩
  · exact ⟨_, rfl, enter_chg6, fun v w B g hB h => chg_lock v s a b w B g hB h hr hf⟩
  · exact ⟨_, rfl, enter_chg7, fun v w B g hB h => chg_unlock v s a b w B g hB h hr hf⟩
  · exact ⟨_, rfl, enter_chg8, fun v w B g hB h => chg_clock v s a b w B g h⟩
  · exact ⟨_, rfl, enter_chg9, fun v w B g hB h => chg_band v s a b w B g h⟩
  · exact ⟨_, rfl, enter_chg10, fun v w B g hB h => chg_boot v s a b w B g h⟩
  · exact ⟨_, rfl, enter_chg11, fun v w B g hB h => chg_lockBy v s a b w B g h⟩
  · exact ⟨_, rfl, enter_chg12, fun v w B g hB h => chg_probe v s a b w B g h⟩
end Go.Proofs.YtkefbmbjkijilaaGreatDoor
