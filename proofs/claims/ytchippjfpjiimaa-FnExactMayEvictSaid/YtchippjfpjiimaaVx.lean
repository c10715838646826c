/-
  The program's StateOk: a state laid beside its plan.
-/
import Derived.Test.YtchippjfpjiimaaUh
import Derived.Test.YtchippjfpjiimaaPc
import Derived.Deep.DeepCutAuto
import Derived.Laws.Tables
import Derived.Laws.CopyOwn
set_option linter.unusedVariables false
namespace Go.Proofs.Ytchippjfpjiimaa
open Go.RowKit

/-- A state beside its plan: its cells. -/
abbrev besC (A0 A1 A2 A3 : Option Addr) (n0 c0 n1 c1 n2 c2 n3 c3 : Nat) (l p t : Int) (E0 E1 E2 E3 : Option Addr) (m0 k0 m1 k1 m2 k2 m3 k3 : Nat) (ph : Int) (co : Bool) (ck bo ba lb gd pr : Int) : Array Value :=
  #[.int .i64 ph, .int .i64 ck, .int .i64 bo, .int .i64 ba, .int .i64 lb, .int .i64 gd, .int .i64 pr,
    .slice A0 n0 c0, .slice A1 n1 c1, .slice A2 n2 c2, .slice A3 n3 c3, .int .i64 l, .int .i64 p, .int .i64 t, .bool co,
    .slice E0 m0 k0, .slice E1 m1 k1, .slice E2 m2 k2, .slice E3 m3 k3]
abbrev cntV (ph ck bo ba lb gd pr : Int) : Value := .agg #[.int .i64 ph, .int .i64 ck, .int .i64 bo, .int .i64 ba, .int .i64 lb, .int .i64 gd, .int .i64 pr]

section
variable (A0 A1 A2 A3 : Option Addr) (n0 c0 n1 c1 n2 c2 n3 c3 : Nat) (l p t : Int) (E0 E1 E2 E3 : Option Addr) (m0 k0 m1 k1 m2 k2 m3 k3 : Nat) (ph : Int) (co : Bool) (ck bo ba lb gd pr : Int)
set_option maxHeartbeats 4000000 in
theorem besidePlan_any (w : World) :
    Calls Try.prog 50 #[planV A0 A1 A2 A3 n0 c0 n1 c1 n2 c2 n3 c3 l p t, .agg (stC E0 E1 E2 E3 m0 k0 m1 k1 m2 k2 m3 k3 ph co ck bo ba lb gd pr)] w fun e w' =>
      e = .returned (.agg (besC A0 A1 A2 A3 n0 c0 n1 c1 n2 c2 n3 c3 l p t E0 E1 E2 E3 m0 k0 m1 k1 m2 k2 m3 k3 ph co ck bo ba lb gd pr)) ∧ Below w.heap.size w w' := by
  have T0 := Two.start w (planC A0 A1 A2 A3 n0 c0 n1 c1 n2 c2 n3 c3 l p t) (stC E0 E1 E2 E3 m0 k0 m1 k1 m2 k2 m3 k3 ph co ck bo ba lb gd pr) 40 45
  go_enter Try.func50, Try.ntmps50
  go_upto_region 1 with fail
  have X := Own.box2 T0.O.K (besC none none none none 0 0 0 0 0 0 0 0 0 0 0 none none none none 0 0 0 0 0 0 0 0 0 false 0 0 0 0 0 0) 102
  have T := T0.step ((Below.refl _ _).alloc (Nat.le_refl _) (.cells (besC none none none none 0 0 0 0 0 0 0 0 0 0 0 none none none none 0 0 0 0 0 0 0 0 0 false 0 0 0 0 0 0) 102))
  have hH := heap_alloc_new ((w.alloc (.cells (planC A0 A1 A2 A3 n0 c0 n1 c1 n2 c2 n3 c3 l p t) 40)).alloc (.cells (stC E0 E1 E2 E3 m0 k0 m1 k1 m2 k2 m3 k3 ph co ck bo ba lb gd pr) 45)) (.cells (besC none none none none 0 0 0 0 0 0 0 0 0 0 0 none none none none 0 0 0 0 0 0 0 0 0 false 0 0 0 0 0 0) 102)
  clear T0
  have hC := T.A.C
  have hD := T.O.C
  have K := X.K
  clear T X
  simp only [heap_size_alloc_] at *
  generalize hW : ((w.alloc _).alloc _).alloc _ = W at *
  clear hW
  have hi : (Try.prog.info? 102).map (·.size) = some (besC A0 A1 A2 A3 n0 c0 n1 c1 n2 c2 n3 c3 l p t E0 E1 E2 E3 m0 k0 m1 k1 m2 k2 m3 k3 ph co ck bo ba lb gd pr).size := by kernel_rfl
  have h1 : (besC A0 A1 A2 A3 n0 c0 n1 c1 n2 c2 n3 c3 l p t E0 E1 E2 E3 m0 k0 m1 k1 m2 k2 m3 k3 ph co ck bo ba lb gd pr).all (·.oneCell') = true := by simp [Value.oneCell']
  go_wp2_with (refine wpList_store_row rfl _ _ _ rfl (w.heap.size + 1 + 1) (besC A0 A1 A2 A3 n0 c0 n1 c1 n2 c2 n3 c3 l p t E0 E1 E2 E3 m0 k0 m1 k1 m2 k2 m3 k3 ph co ck bo ba lb gd pr) rfl rfl _ _ hH hi rfl h1 ?_)
  exact bodyPost_ret (v := .agg (besC A0 A1 A2 A3 n0 c0 n1 c1 n2 c2 n3 c3 l p t E0 E1 E2 E3 m0 k0 m1 k1 m2 k2 m3 k3 ph co ck bo ba lb gd pr)) (results_cell_row Try.results50 _ _ _ _ _ _ _ rfl (setRow_heap W _ _ _ _ _ hH) Try.underlying102 rfl hi) rfl ⟨rfl, below_setRow K (by omega) _⟩
end
end Go.Proofs.Ytchippjfpjiimaa
