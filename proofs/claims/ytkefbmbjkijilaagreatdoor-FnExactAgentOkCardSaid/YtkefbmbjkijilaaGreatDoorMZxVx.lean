/-
  The program's StateOk: a state laid beside its plan.
-/
import Derived.Test.YtkefbmbjkijilaaGreatDoorMZ4
import Derived.Test.YtkefbmbjkijilaaGreatDoorMZ0
import Derived.Deep.DeepCutAuto
import Derived.Laws.Tables
import Derived.Laws.CopyOwn
/- Vx -/
set_option linter.unusedVariables false
namespace Go.Proofs.YtkefbmbjkijilaaGreatDoor
open Go.RowKit

/-- A state beside its plan: its cells. -/
abbrev besC (A0 A1 A2 A3 : Option Addr) (n0 c0 n1 c1 n2 c2 n3 c3 : Nat) (l p t : Int) (E0 E1 E2 E3 : Option Addr) (m0 k0 m1 k1 m2 k2 m3 k3 : Nat) (ph : Int) (co : Bool) (ck bo ba lb gd pr : Int) : Array Value :=
  #[.int .i64 ph, .int .i64 ck, .int .i64 bo, .int .i64 ba, .int .i64 lb, .int .i64 gd, .int .i64 pr,
    .slice A0 n0 c0, .slice A1 n1 c1, .slice A2 n2 c2, .slice A3 n3 c3, .int .i64 l, .int .i64 p, .int .i64 t, .bool co,
    .slice E0 m0 k0, .slice E1 m1 k1, .slice E2 m2 k2, .slice E3 m3 k3]
abbrev cntV (ph ck bo ba lb gd pr : Int) : Value := .agg #[.int .i64 ph, .int .i64 ck, .int .i64 bo, .int .i64 ba, .int .i64 lb, .int .i64 gd, .int .i64 pr]

theorem keepsRowV_ (W : World) (g : Nat) (cs : Array Value) : Keeps (· = g) W (W.setRow g cs) := ⟨rfl, rfl, rfl, by simp, fun b hb hn => setRow_other W g b cs hn⟩
section
variable (E0 E1 E2 E3 : Option Addr) (m0 k0 m1 k1 m2 k2 m3 k3 : Nat) (ph : Int) (co : Bool) (ck bo ba lb gd pr : Int)
set_option maxHeartbeats 4000000 in
theorem countersOf_any (w : World) :
    Calls Tryz.prog 73 #[.agg (stC E0 E1 E2 E3 m0 k0 m1 k1 m2 k2 m3 k3 ph co ck bo ba lb gd pr)] w fun e w' => e = .returned (cntV ph ck bo ba lb gd pr) ∧ Below w.heap.size w w' := by
  have X := (Own.box w (stC E0 E1 E2 E3 m0 k0 m1 k1 m2 k2 m3 k3 ph co ck bo ba lb gd pr) 46).alloc (.cells #[.int .i64 0, .int .i64 0, .int .i64 0, .int .i64 0, .int .i64 0, .int .i64 0, .int .i64 0] 113)
  have HH := heap_alloc_new (w.alloc (.cells (stC E0 E1 E2 E3 m0 k0 m1 k1 m2 k2 m3 k3 ph co ck bo ba lb gd pr) 46)) (.cells #[.int .i64 0, .int .i64 0, .int .i64 0, .int .i64 0, .int .i64 0, .int .i64 0, .int .i64 0] 113)
  rw [heap_size_alloc_] at HH
  have hi : Hid ((Tryz.prog.info? 113).map (·.size) = some 7) := Lib.hid (by kernel_rfl)
  go_enter Tryz.func73, Tryz.ntmps73
  go_upto_region 1 with fail
  generalize (w.alloc (.cells (stC E0 E1 E2 E3 m0 k0 m1 k1 m2 k2 m3 k3 ph co ck bo ba lb gd pr) 46)).alloc (.cells #[.int .i64 0, .int .i64 0, .int .i64 0, .int .i64 0, .int .i64 0, .int .i64 0, .int .i64 0] 113) = w1 at X HH ⊢
  have hC := X.C
  have K := X.K
  go_wp2_with (refine wpList_store_row rfl _ _ _ rfl (w.heap.size + 1) #[.int .i64 ph, .int .i64 ck, .int .i64 bo, .int .i64 ba, .int .i64 lb, .int .i64 gd, .int .i64 pr] rfl rfl _ _ HH hi.out rfl (by simp [Value.oneCell']) ?_)
  exact bodyPost_ret (v := cntV ph ck bo ba lb gd pr) (results_cell_row Tryz.results73 _ _ _ _ _ _ _ rfl (setRow_heap w1 _ _ _ _ _ HH) Tryz.underlying113 rfl hi.out) rfl ⟨rfl, below_setRow K (by omega) _⟩
end
section
variable (A0 A1 A2 A3 : Option Addr) (n0 c0 n1 c1 n2 c2 n3 c3 : Nat) (l p t : Int) (E0 E1 E2 E3 : Option Addr) (m0 k0 m1 k1 m2 k2 m3 k3 : Nat) (ph : Int) (co : Bool) (ck bo ba lb gd pr : Int)
set_option maxRecDepth 100000 in
set_option maxHeartbeats 4000000 in
theorem besidePlan_any (w : World) :
    Calls Tryz.prog 118 #[planV A0 A1 A2 A3 n0 c0 n1 c1 n2 c2 n3 c3 l p t, .agg (stC E0 E1 E2 E3 m0 k0 m1 k1 m2 k2 m3 k3 ph co ck bo ba lb gd pr)] w fun e w' =>
      e = .returned (.agg (besC A0 A1 A2 A3 n0 c0 n1 c1 n2 c2 n3 c3 l p t E0 E1 E2 E3 m0 k0 m1 k1 m2 k2 m3 k3 ph co ck bo ba lb gd pr)) ∧ Below w.heap.size w w' := by
  have T0 := Two.start w (planC A0 A1 A2 A3 n0 c0 n1 c1 n2 c2 n3 c3 l p t) (stC E0 E1 E2 E3 m0 k0 m1 k1 m2 k2 m3 k3 ph co ck bo ba lb gd pr) 42 46
  have T := T0.step ((Below.refl _ _).alloc (Nat.le_refl _) (.cells (besC none none none none 0 0 0 0 0 0 0 0 0 0 0 none none none none 0 0 0 0 0 0 0 0 0 false 0 0 0 0 0 0) 161))
  have XA := T.A
  have XB := T.O
  have K := XA.K
  have HH := heap_alloc_new ((w.alloc (.cells (planC A0 A1 A2 A3 n0 c0 n1 c1 n2 c2 n3 c3 l p t) 42)).alloc (.cells (stC E0 E1 E2 E3 m0 k0 m1 k1 m2 k2 m3 k3 ph co ck bo ba lb gd pr) 46)) (.cells (besC none none none none 0 0 0 0 0 0 0 0 0 0 0 none none none none 0 0 0 0 0 0 0 0 0 false 0 0 0 0 0 0) 161)
  simp only [heap_size_alloc_] at HH
  clear T0 T
  have hi : Hid ((Tryz.prog.info? 161).map (·.size) = some (besC A0 A1 A2 A3 n0 c0 n1 c1 n2 c2 n3 c3 l p t E0 E1 E2 E3 m0 k0 m1 k1 m2 k2 m3 k3 ph co ck bo ba lb gd pr).size) := Lib.hid (by kernel_rfl)
  have h1 : Hid ((besC A0 A1 A2 A3 n0 c0 n1 c1 n2 c2 n3 c3 l p t E0 E1 E2 E3 m0 k0 m1 k1 m2 k2 m3 k3 ph co ck bo ba lb gd pr).all (·.oneCell') = true) := Lib.hid (by simp [Value.oneCell'])
  go_enter Tryz.func118, Tryz.ntmps118
  go_upto_region 1 with fail
  generalize (((w.alloc (.cells (planC A0 A1 A2 A3 n0 c0 n1 c1 n2 c2 n3 c3 l p t) 42)).alloc (.cells (stC E0 E1 E2 E3 m0 k0 m1 k1 m2 k2 m3 k3 ph co ck bo ba lb gd pr) 46)).alloc (.cells (besC none none none none 0 0 0 0 0 0 0 0 0 0 0 none none none none 0 0 0 0 0 0 0 0 0 false 0 0 0 0 0 0) 161)) = w1 at XA XB K HH ⊢
  refine wp_region_noPanic ?_
  refine wp_region_held_drew (S := fun W => (∀ o, W.cell? ⟨w.heap.size, o, none⟩ = (planC A0 A1 A2 A3 n0 c0 n1 c1 n2 c2 n3 c3 l p t)[o]?) ∧ (∀ o, W.cell? ⟨w.heap.size + 1, o, none⟩ = (stC E0 E1 E2 E3 m0 k0 m1 k1 m2 k2 m3 k3 ph co ck bo ba lb gd pr)[o]?)) (by kernel_rfl) (⟨XA.drew.C, XB.drew.C⟩) (fun _ => ?_)
  rw [← heap_drew w1] at HH
  replace K := K.drew
  replace XA := XA.drew
  replace XB := XB.drew
  generalize w1.drew = v0 at K XA XB HH ⊢
  refine wpAnyH_take (i := 0) (v := ?_) rfl (by kernel_rfl) (by kernel_rfl) (by kernel_rfl) (fun _ _ _ h => h) (Or.inl ⟨by rfl, ?_⟩) ⟨XA.C, XB.C⟩ ?_
  rotate_left 1
  · intro w hSw
    obtain ⟨hs6, hs7⟩ := hSw
    go_simp
    try with_reducible rfl
  change wpAnyH _ _ _ _ _ _ _ (Act.put _ (some 5) _) _
  dsimp only [Act.put]
  refine wpAnyH_take (i := 2) (v := ?_) rfl (by kernel_rfl) (by kernel_rfl) (by kernel_rfl) (fun _ _ _ h => h) (Or.inl ⟨by rfl, ?_⟩) ⟨XA.C, XB.C⟩ ?_
  rotate_left 1
  · intro w hSw
    obtain ⟨hs6, hs7⟩ := hSw
    go_simp
    try with_reducible rfl
  change wpAnyH _ _ _ _ _ _ _ (Act.put _ (some 7) _) _
  dsimp only [Act.put]
  refine wpAnyH_take (i := 3) (v := ?_) rfl (by kernel_rfl) (by kernel_rfl) (by kernel_rfl) (fun _ _ _ h => h) (Or.inl ⟨by rfl, ?_⟩) ⟨XA.C, XB.C⟩ ?_
  rotate_left 1
  · intro w hSw
    obtain ⟨hs6, hs7⟩ := hSw
    go_simp
    try with_reducible rfl
  change wpAnyH _ _ _ _ _ _ _ (Act.put _ (some 8) _) _
  dsimp only [Act.put]
  refine wpAnyH_take (i := 4) (v := ?_) rfl (by kernel_rfl) (by kernel_rfl) (by kernel_rfl) (fun _ _ _ h => h) (Or.inl ⟨by rfl, ?_⟩) ⟨XA.C, XB.C⟩ ?_
  rotate_left 1
  · intro w hSw
    obtain ⟨hs6, hs7⟩ := hSw
    go_simp
    try with_reducible rfl
  change wpAnyH _ _ _ _ _ _ _ (Act.put _ (some 9) _) _
  dsimp only [Act.put]
  refine wpAnyH_take (i := 5) (v := ?_) rfl (by kernel_rfl) (by kernel_rfl) (by kernel_rfl) (fun _ _ _ h => h) (Or.inl ⟨by rfl, ?_⟩) ⟨XA.C, XB.C⟩ ?_
  rotate_left 1
  · intro w hSw
    obtain ⟨hs6, hs7⟩ := hSw
    go_simp
    try with_reducible rfl
  change wpAnyH _ _ _ _ _ _ _ (Act.put _ (some 10) _) _
  dsimp only [Act.put]
  refine wpAnyH_take (i := 6) (v := ?_) rfl (by kernel_rfl) (by kernel_rfl) (by kernel_rfl) (fun _ _ _ h => h) (Or.inl ⟨by rfl, ?_⟩) ⟨XA.C, XB.C⟩ ?_
  rotate_left 1
  · intro w hSw
    obtain ⟨hs6, hs7⟩ := hSw
    go_simp
    try with_reducible rfl
  change wpAnyH _ _ _ _ _ _ _ (Act.put _ (some 11) _) _
  dsimp only [Act.put]
  refine wpAnyH_take (i := 7) (v := ?_) rfl (by kernel_rfl) (by kernel_rfl) (by kernel_rfl) (fun _ _ _ h => h) (Or.inl ⟨by rfl, ?_⟩) ⟨XA.C, XB.C⟩ ?_
  rotate_left 1
  · intro w hSw
    obtain ⟨hs6, hs7⟩ := hSw
    go_simp
    try with_reducible rfl
  change wpAnyH _ _ _ _ _ _ _ (Act.put _ (some 12) _) _
  dsimp only [Act.put]
  refine wpAnyH_take (i := 8) (v := ?_) rfl (by kernel_rfl) (by kernel_rfl) (by kernel_rfl) (fun _ _ _ h => h) (Or.inl ⟨by rfl, ?_⟩) ⟨XA.C, XB.C⟩ ?_
  rotate_left 1
  · intro w hSw
    obtain ⟨hs6, hs7⟩ := hSw
    go_simp
    try with_reducible rfl
  change wpAnyH _ _ _ _ _ _ _ (Act.put _ (some 13) _) _
  dsimp only [Act.put]
  refine wpAnyH_take (i := 9) (v := ?_) rfl (by kernel_rfl) (by kernel_rfl) (by kernel_rfl) (fun _ _ _ h => h) (Or.inl ⟨by rfl, ?_⟩) ⟨XA.C, XB.C⟩ ?_
  rotate_left 1
  · intro w hSw
    obtain ⟨hs6, hs7⟩ := hSw
    go_simp
    try with_reducible rfl
  change wpAnyH _ _ _ _ _ _ _ (Act.put _ (some 14) _) _
  dsimp only [Act.put]
  refine wpAnyH_take (i := 10) (v := ?_) rfl (by kernel_rfl) (by kernel_rfl) (by kernel_rfl) (fun _ _ _ h => h) (Or.inl ⟨by rfl, ?_⟩) ⟨XA.C, XB.C⟩ ?_
  rotate_left 1
  · intro w hSw
    obtain ⟨hs6, hs7⟩ := hSw
    go_simp
    try with_reducible rfl
  change wpAnyH _ _ _ _ _ _ _ (Act.put _ (some 15) _) _
  dsimp only [Act.put]
  refine wpAnyH_take (i := 11) (v := ?_) rfl (by kernel_rfl) (by kernel_rfl) (by kernel_rfl) (fun _ _ _ h => h) (Or.inl ⟨by rfl, ?_⟩) ⟨XA.C, XB.C⟩ ?_
  rotate_left 1
  · intro w hSw
    obtain ⟨hs6, hs7⟩ := hSw
    go_simp
    try with_reducible rfl
  change wpAnyH _ _ _ _ _ _ _ (Act.put _ (some 16) _) _
  dsimp only [Act.put]
  refine wpAnyH_take (i := 12) (v := ?_) rfl (by kernel_rfl) (by kernel_rfl) (by kernel_rfl) (fun _ _ _ h => h) (Or.inl ⟨by rfl, ?_⟩) ⟨XA.C, XB.C⟩ ?_
  rotate_left 1
  · intro w hSw
    obtain ⟨hs6, hs7⟩ := hSw
    go_simp
    try with_reducible rfl
  change wpAnyH _ _ _ _ _ _ _ (Act.put _ (some 17) _) _
  dsimp only [Act.put]
  refine wpAnyH_ready (rs := [1]) (by kernel_rfl) (by simp) ?_
  refine AllReadyH.cons rfl (fun K' hK => ?_) AllReadyH.nil
  go_simp
  go_at_call 73
  refine (countersOf_any E0 E1 E2 E3 m0 k0 m1 k1 m2 k2 m3 k3 ph co ck bo ba lb gd pr v0).mono ?_
  rintro e v1 ⟨rfl, hb⟩
  replace K := K.trans (hb.mono K.size)
  replace XA := XA.step hb
  replace XB := XB.step hb
  replace HH := (hb.block _ (Array.getElem?_eq_some_iff.1 HH).1).trans HH
  clear hb
  go_wp2_with fail
  refine hK.out _ _ ⟨XA.C, XB.C⟩ (fun _ => ?_)
  clear hK K'
  try (change wpAnyH _ _ _ _ _ _ _ (Act.put _ (some 6) _) _; dsimp only [Act.put])
  refine wpAnyH_ready (rs := [13]) (by kernel_rfl) (by simp) ?_
  refine AllReadyH.cons rfl (fun K' hK => ?_) AllReadyH.nil
  go_simp
  refine hK.out _ _ ⟨XA.C, XB.C⟩ (fun _ => ?_)
  clear hK K'
  try (change wpAnyH _ _ _ _ _ _ _ (Act.put _ (some 18) _) _; dsimp only [Act.put])
  refine wpAnyH_ready (rs := [14]) (by kernel_rfl) (by simp) ?_
  refine AllReadyH.cons rfl (fun K' hK => ?_) AllReadyH.nil
  rw [if_pos (by rfl)]
  refine wp_store_row 161 (.tmp 4) (.tmp 18) rfl (w.heap.size + 1 + 1) (besC A0 A1 A2 A3 n0 c0 n1 c1 n2 c2 n3 c3 l p t E0 E1 E2 E3 m0 k0 m1 k1 m2 k2 m3 k3 ph co ck bo ba lb gd pr) rfl rfl 161 _ HH hi.out rfl h1.out ?_
  have kk := keepsRowV_ v1 (w.heap.size + 1 + 1) (besC A0 A1 A2 A3 n0 c0 n1 c1 n2 c2 n3 c3 l p t E0 E1 E2 E3 m0 k0 m1 k1 m2 k2 m3 k3 ph co ck bo ba lb gd pr)
  replace K := below_setRow K (g := w.heap.size + 1 + 1) (by omega) (besC A0 A1 A2 A3 n0 c0 n1 c1 n2 c2 n3 c3 l p t E0 E1 E2 E3 m0 k0 m1 k1 m2 k2 m3 k3 ph co ck bo ba lb gd pr)
  replace XA := XA.keeps kk (by rintro b rfl; omega) (by show ¬ w.heap.size = w.heap.size + 1 + 1; omega)
  replace XB := XB.keeps kk (by rintro b rfl; omega) (by show ¬ w.heap.size + 1 = w.heap.size + 1 + 1; omega)
  replace HH := setRow_heap _ _ _ (besC A0 A1 A2 A3 n0 c0 n1 c1 n2 c2 n3 c3 l p t E0 E1 E2 E3 m0 k0 m1 k1 m2 k2 m3 k3 ph co ck bo ba lb gd pr) _ _ HH
  clear kk
  generalize v1.setRow (w.heap.size + 1 + 1) (besC A0 A1 A2 A3 n0 c0 n1 c1 n2 c2 n3 c3 l p t E0 E1 E2 E3 m0 k0 m1 k1 m2 k2 m3 k3 ph co ck bo ba lb gd pr) = v2 at K XA XB HH ⊢
  refine hK.out _ _ ⟨XA.C, XB.C⟩ (fun _ => ?_)
  clear hK K'
  try (change wpAnyH _ _ _ _ _ _ _ (Act.put _ none _) _; dsimp only [Act.put])
  refine wpAnyH_done (by kernel_rfl) ?_ _
  refine NoPanic.normal ?_
  go_wp2_with fail
  exact bodyPost_ret (v := .agg (besC A0 A1 A2 A3 n0 c0 n1 c1 n2 c2 n3 c3 l p t E0 E1 E2 E3 m0 k0 m1 k1 m2 k2 m3 k3 ph co ck bo ba lb gd pr)) (results_cell_row Tryz.results118 _ _ _ _ _ _ _ rfl HH Tryz.underlying161 rfl hi.out) rfl ⟨rfl, K⟩
end
end Go.Proofs.YtkefbmbjkijilaaGreatDoor
