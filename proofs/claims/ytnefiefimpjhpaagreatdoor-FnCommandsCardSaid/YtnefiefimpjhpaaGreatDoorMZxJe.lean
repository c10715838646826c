/-
  errors.Is of a refusal and a sentinel.
-/
import Derived.Test.YtnefiefimpjhpaaGreatDoorMZxJa
import Derived.Test.YtnefiefimpjhpaaGreatDoorMZ0
/- Je -/
set_option linter.unusedVariables false
namespace Go.Proofs.YtnefiefimpjhpaaGreatDoor
open Go.RowKit Go.Extern.Stop Go.Stop Go.Extern

theorem unwrapE_any (k : Int) (r : Value) (w : World) :
    Calls Tryz.prog 201 #[.agg #[.int .i64 k, r]] w fun e w' => e = .returned r ∧ w' = w.alloc (.cells #[.int .i64 k, r] 92) := by
  go_enter Tryz.func201, Tryz.ntmps201
  go_wp2
  go_ret
  exact ⟨rfl, rfl⟩

set_option maxRecDepth 10000 in
set_option maxHeartbeats 4000000 in
theorem is_same (k : Int) (b : Addr) (w : World) :
    Calls Tryz.prog 100 #[refV k (sentV b), sentV b, .bool true] w fun e w' => e = .returned (.bool true) ∧ Below w.heap.size w w' := by
  obtain ⟨i, hi, hcmp⟩ := Option.map_eq_some_iff.1 compPtr
  obtain ⟨j, hj, hjs⟩ := Option.map_eq_some_iff.1 sizeStr
  have n2 := fun v xT w => noIs 92 v xT w (.inr (.inl rfl))
  have u3 := hasUnwrap
  have mU := mUnwrap
  have q0 := fun w => run_eql_iface_types (P := Tryz.prog) 92 218 (.agg #[.int .i64 k, (sentV b)]) (.pointer (some b)) Tryz.underlying51 (by decide) w
  have hs : (w.alloc (.cells #[.int .i64 k, sentV b] 92)).heap.size = w.heap.size + 1 := by simp
  clear hs
  have q1 := run_eql_iface_ptr_same (P := Tryz.prog) (w.alloc (.cells #[.int .i64 k, sentV b] 92)) b Tryz.underlying51 Tryz.underlying218 hi hcmp hj
  go_enter Tryz.func100, Tryz.ntmps100
  go_wp2
  refine wp_loop_rounds 2 ?_
  rw [rounds_succ]
  go_wp2_with (go_at_call 201; refine (unwrapE_any _ _ _).mono ?_; rintro e w' ⟨rfl, rfl⟩)
  rw [rounds_succ]
  go_wp2
  go_ret
  exact ⟨rfl, (Below.refl _ _).alloc (Nat.le_refl _) _⟩

theorem Is_same (k : Int) (b : Addr) (w : World) :
    Calls Tryz.prog 39 #[refV k (sentV b), sentV b] w fun e w' => e = .returned (.bool true) ∧ Below w.heap.size w w' := by
  have hT1 := @run_callFunc_extern Tryz.prog 99 _ ReflectliteType.typeOf Tryz.func99 (by kernel_rfl) (by kernel_rfl) (by kernel_rfl) (by kernel_rfl)
  have hC1 := @run_callFunc_extern Tryz.prog 208 _ compE Tryz.func208 (by kernel_rfl) (by kernel_rfl) (by kernel_rfl) (by kernel_rfl)
  have t1 := tPtr
  have c1 := cPtr
  have mC := mComp
  go_enter Tryz.func39, Tryz.ntmps39
  go_wp2_with fail
  refine (is_same k b w).mono ?_
  rintro e w3 ⟨rfl, hb⟩
  go_wp2
  go_ret
  exact ⟨rfl, hb⟩

set_option maxRecDepth 10000 in
set_option maxHeartbeats 4000000 in
theorem is_other (k : Int) (a b : Addr) (w : World) (hne : a ≠ b) (ha : ∃ c t, w.heap[a.block]? = some (.cells c t (0, 0))) (hb : ∃ c t, w.heap[b.block]? = some (.cells c t (0, 0))) :
    Calls Tryz.prog 100 #[refV k (sentV a), sentV b, .bool true] w fun e w' => e = .returned (.bool false) ∧ Below w.heap.size w w' := by
  obtain ⟨i, hi, hcmp⟩ := Option.map_eq_some_iff.1 compPtr
  obtain ⟨j, hj, hjs⟩ := Option.map_eq_some_iff.1 sizeStr
  have n2 := fun v xT w => noIs 92 v xT w (.inr (.inl rfl))
  have u3 := hasUnwrap
  have mU := mUnwrap
  have q0 := fun w => run_eql_iface_types (P := Tryz.prog) 92 218 (.agg #[.int .i64 k, (sentV a)]) (.pointer (some b)) Tryz.underlying51 (by decide) w
  have K1 : Below w.heap.size w (w.alloc (.cells #[.int .i64 k, sentV a] 92)) := (Below.refl _ _).alloc (Nat.le_refl _) _
  obtain ⟨ca, ta, ha⟩ := ha
  obtain ⟨cb, tb, hb⟩ := hb
  have q1 := run_eql_iface_ptr_other (P := Tryz.prog) (w.alloc (.cells #[.int .i64 k, sentV a] 92)) Tryz.underlying51 Tryz.underlying218 hi hcmp hj (by rw [hjs]; decide) hne ((K1.block _ (Array.getElem?_eq_some_iff.1 ha).1).trans ha) ((K1.block _ (Array.getElem?_eq_some_iff.1 hb).1).trans hb)
  have n1 := fun v xT w => noIs 218 v xT w (.inl rfl)
  have u1 := fun v xT w => noUnwrap 218 v xT w (.inl rfl)
  have u2 := fun v xT w => noUnwraps 218 v xT w (.inl rfl)
  clear ha hb K1
  go_enter Tryz.func100, Tryz.ntmps100
  go_wp2
  refine wp_loop_rounds 2 ?_
  rw [rounds_succ]
  go_wp2_with (go_at_call 201; refine (unwrapE_any _ _ _).mono ?_; rintro e w' ⟨rfl, rfl⟩)
  rw [rounds_succ]
  go_wp2
  go_ret
  exact ⟨rfl, (Below.refl _ _).alloc (Nat.le_refl _) _⟩

theorem Is_other (k : Int) (a b : Addr) (w : World) (hne : a ≠ b) (ha : ∃ c t, w.heap[a.block]? = some (.cells c t (0, 0))) (hb : ∃ c t, w.heap[b.block]? = some (.cells c t (0, 0))) :
    Calls Tryz.prog 39 #[refV k (sentV a), sentV b] w fun e w' => e = .returned (.bool false) ∧ Below w.heap.size w w' := by
  have hT1 := @run_callFunc_extern Tryz.prog 99 _ ReflectliteType.typeOf Tryz.func99 (by kernel_rfl) (by kernel_rfl) (by kernel_rfl) (by kernel_rfl)
  have hC1 := @run_callFunc_extern Tryz.prog 208 _ compE Tryz.func208 (by kernel_rfl) (by kernel_rfl) (by kernel_rfl) (by kernel_rfl)
  have t1 := tPtr
  have c1 := cPtr
  have mC := mComp
  go_enter Tryz.func39, Tryz.ntmps39
  go_wp2_with fail
  refine (is_other k a b w hne ha hb).mono ?_
  rintro e w3 ⟨rfl, hb⟩
  go_wp2
  go_ret
  exact ⟨rfl, hb⟩
end Go.Proofs.YtnefiefimpjhpaaGreatDoor
