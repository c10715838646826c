/-
  Chapter 7 as data, at every number (what is spent may have wrapped around); the model's and the program's.
-/
import Derived.Test.YtdphpjnecjofeaaGreatDoorMZ9
import Derived.Test.YtdphpjnecjofeaaGreatDoorMZ11
import Derived.Test.YtdphpjnecjofeaaGreatDoorMZ0
import Derived.ChangeVars
import Derived.LaidLaws
import Derived.LaidHandle
import Derived.OpenShut
import Derived.RowKitTokens
import Derived.WalkSmall
import Derived.Maps.OwnSet
import Derived.Test.YtdphpjnecjofeaaGreatDoorMZ1
import Derived.Test.YtdphpjnecjofeaaGreatDoorMZ10
import Derived.Test.YtdphpjnecjofeaaGreatDoorMZ6
import Derived.BigQuiet
/- Jc -/
set_option linter.unusedVariables false
namespace Go.Proofs.YtdphpjnecjofeaaGreatDoor
open Go.RowKit

theorem index_any (L : List Int) (A : Option Addr) (c : Nat) (a : Int) (w : World) (h : SlV w w.heap.size 1 A L.length (lkCs L)) (hl : L.length ≤ maxLen) :
    Calls Tryz.prog 222 #[.slice A L.length c, .int .i64 a] w fun e w' => (∃ k : Nat, e = .returned (.int .i64 k) ∧ k ≤ 9223372036854775807 ∧ L.contains a = true ∨ e = .returned (.int .i64 (-1)) ∧ L.contains a = false) ∧ w = w' := by
  unfold maxLen at hl
  have H := Lib.hid h
  clear h
  obtain ⟨ans, hans⟩ : ∃ ans, L.contains a = ans := ⟨_, rfl⟩
  rw [hans]
  have HANS := Lib.hid hans
  clear hans
  go_enter Tryz.func222, Tryz.ntmps222
  go_wp2_with fail
  go_loopw [8] (fun j wr => ∃ k : Nat, k ≤ L.length ∧ j = .int .i64 k ∧ (∀ j, j < k → lkA L j ≠ a) ∧ w = wr) (fun j _ => L.length - (intOf j).toNat)
  case atStart => exact ⟨0, Nat.zero_le _, rfl, fun j hj => absurd hj (by omega), rfl⟩
  case round =>
    obtain ⟨k, hk, rfl, hall, rfl⟩ := hrel
    have HALL := Lib.hid hall
    clear hall
    by_cases hlt : k < L.length
    · obtain ⟨b', off', rfl, hb', hc⟩ := H.out.cell hlt
      have p0 := (hc 0 (by decide)).trans (lkCs_at L (i := k * 1 + 0) (by omega))
      rw [Nat.add_zero, Nat.mul_one] at p0
      clear hc
      have HYES : Hid (lkA L k = a → ans = true) := Lib.hid fun h => by rw [← HANS.out]; exact contains_at hlt h
      have HNO : Hid (lkA L k ≠ a → ∀ j, j < k + 1 → lkA L j ≠ a) := Lib.hid fun h j hj => by
        by_cases e : j = k
        · rw [e]; exact h
        · exact HALL.out j (by omega)
      generalize lkA L k = x at p0 HYES HNO
      cases hx : (a == x)
      · have HX : Hid (x ≠ a) := Lib.hid (by intro e; rw [e] at hx; simp at hx)
        go_wp2
        refine ⟨⟨k + 1, by omega, by go_num, HNO.out HX.out, by trivial⟩, by simp [intOf]; omega⟩
      · have HX : Hid (x = a) := Lib.hid (by have h : a = x := by simpa using hx
                                             exact h.symm)
        go_wp2
        all_goals (go_ret; exact ⟨⟨k, .inl ⟨rfl, by omega, HYES.out HX.out⟩⟩, rfl⟩)
    · obtain rfl : k = L.length := by omega
      go_wp2
      all_goals (go_ret; exact ⟨⟨0, .inr ⟨rfl, by rw [← HANS.out, contains_no HALL.out]⟩⟩, rfl⟩)
theorem contains_any (L : List Int) (A : Option Addr) (c : Nat) (a : Int) (w : World) (h : SlV w w.heap.size 1 A L.length (lkCs L)) (hl : L.length ≤ maxLen) :
    Calls Tryz.prog 203 #[.slice A L.length c, .int .i64 a] w fun e w' => e = .returned (.bool (L.contains a)) ∧ w = w' := by
  have H := Lib.hid h
  clear h
  obtain ⟨ans, hans⟩ : ∃ ans, L.contains a = ans := ⟨_, rfl⟩
  rw [hans]
  have HANS := Lib.hid hans
  clear hans
  go_enter Tryz.func203, Tryz.ntmps203
  go_wp2_with fail
  refine (index_any L A c a w H.out hl).mono ?_
  rw [HANS.out]
  rintro e w1 ⟨⟨k, ⟨rfl, hk, hc⟩ | ⟨rfl, hc⟩⟩, rfl⟩
  · have HC := Lib.hid hc
    clear hc
    go_wp2
    all_goals (go_ret; exact ⟨by rw [HC.out]; rfl, rfl⟩)
  · have HC := Lib.hid hc
    clear hc
    go_wp2
    all_goals (go_ret; exact ⟨by rw [HC.out]; rfl, rfl⟩)
end Go.Proofs.YtdphpjnecjofeaaGreatDoor
/- Je -/
set_option linter.unusedVariables false
namespace Go.Proofs.YtdphpjnecjofeaaGreatDoor
open Go.RowKit Go.Extern.Stop Go.Stop Go.Extern

theorem unwrapE_any (k : Int) (r : Value) (w : World) :
    Calls Tryz.prog 276 #[.agg #[.int .i64 k, r]] w fun e w' => e = .returned r ∧ w' = w.alloc (.cells #[.int .i64 k, r] 180) := by
  go_enter Tryz.func276, Tryz.ntmps276
  go_wp2
  go_ret
  exact ⟨rfl, rfl⟩

set_option maxRecDepth 10000 in
set_option maxHeartbeats 4000000 in
theorem is_same (k : Int) (b : Addr) (w : World) :
    Calls Tryz.prog 182 #[refV k (sentV b), sentV b, .bool true] w fun e w' => e = .returned (.bool true) ∧ Below w.heap.size w w' := by
  obtain ⟨i, hi, hcmp⟩ := Option.map_eq_some_iff.1 compPtr
  obtain ⟨j, hj, hjs⟩ := Option.map_eq_some_iff.1 sizeStr
  have n2 := fun v xT w => noIs 180 v xT w (.inr (.inl rfl))
  have u3 := hasUnwrap
  have mU := mUnwrap
  have q0 := fun w => run_eql_iface_types (P := Tryz.prog) 180 281 (.agg #[.int .i64 k, (sentV b)]) (.pointer (some b)) Tryz.underlying117 (by decide) w
  have hs : (w.alloc (.cells #[.int .i64 k, sentV b] 180)).heap.size = w.heap.size + 1 := by simp
  clear hs
  have q1 := run_eql_iface_ptr_same (P := Tryz.prog) (w.alloc (.cells #[.int .i64 k, sentV b] 180)) b Tryz.underlying117 Tryz.underlying281 hi hcmp hj
  go_enter Tryz.func182, Tryz.ntmps182
  go_wp2
  refine wp_loop_rounds 2 ?_
  rw [rounds_succ]
  go_wp2_with (go_at_call 276; refine (unwrapE_any _ _ _).mono ?_; rintro e w' ⟨rfl, rfl⟩)
  rw [rounds_succ]
  go_wp2
  go_ret
  exact ⟨rfl, (Below.refl _ _).alloc (Nat.le_refl _) _⟩

theorem Is_same (k : Int) (b : Addr) (w : World) :
    Calls Tryz.prog 135 #[refV k (sentV b), sentV b] w fun e w' => e = .returned (.bool true) ∧ Below w.heap.size w w' := by
  have hT1 := @run_callFunc_extern Tryz.prog 181 _ ReflectliteType.typeOf Tryz.func181 (by kernel_rfl) (by kernel_rfl) (by kernel_rfl) (by kernel_rfl)
  have hC1 := @run_callFunc_extern Tryz.prog 283 _ compE Tryz.func283 (by kernel_rfl) (by kernel_rfl) (by kernel_rfl) (by kernel_rfl)
  have t1 := tPtr
  have c1 := cPtr
  have mC := mComp
  go_enter Tryz.func135, Tryz.ntmps135
  go_wp2_with fail
  refine (is_same k b w).mono ?_
  rintro e w3 ⟨rfl, hb⟩
  go_wp2
  go_ret
  exact ⟨rfl, hb⟩

set_option maxRecDepth 10000 in
set_option maxHeartbeats 4000000 in
theorem is_other (k : Int) (a b : Addr) (w : World) (hne : a ≠ b) (ha : ∃ c t, w.heap[a.block]? = some (.cells c t (0, 0))) (hb : ∃ c t, w.heap[b.block]? = some (.cells c t (0, 0))) :
    Calls Tryz.prog 182 #[refV k (sentV a), sentV b, .bool true] w fun e w' => e = .returned (.bool false) ∧ Below w.heap.size w w' := by
  obtain ⟨i, hi, hcmp⟩ := Option.map_eq_some_iff.1 compPtr
  obtain ⟨j, hj, hjs⟩ := Option.map_eq_some_iff.1 sizeStr
  have n2 := fun v xT w => noIs 180 v xT w (.inr (.inl rfl))
  have u3 := hasUnwrap
  have mU := mUnwrap
  have q0 := fun w => run_eql_iface_types (P := Tryz.prog) 180 281 (.agg #[.int .i64 k, (sentV a)]) (.pointer (some b)) Tryz.underlying117 (by decide) w
  have K1 : Below w.heap.size w (w.alloc (.cells #[.int .i64 k, sentV a] 180)) := (Below.refl _ _).alloc (Nat.le_refl _) _
  obtain ⟨ca, ta, ha⟩ := ha
  obtain ⟨cb, tb, hb⟩ := hb
  have q1 := run_eql_iface_ptr_other (P := Tryz.prog) (w.alloc (.cells #[.int .i64 k, sentV a] 180)) Tryz.underlying117 Tryz.underlying281 hi hcmp hj (by rw [hjs]; decide) hne ((K1.block _ (Array.getElem?_eq_some_iff.1 ha).1).trans ha) ((K1.block _ (Array.getElem?_eq_some_iff.1 hb).1).trans hb)
  have n1 := fun v xT w => noIs 281 v xT w (.inl rfl)
  have u1 := fun v xT w => noUnwrap 281 v xT w (.inl rfl)
  have u2 := fun v xT w => noUnwraps 281 v xT w (.inl rfl)
  clear ha hb K1
  go_enter Tryz.func182, Tryz.ntmps182
  go_wp2
  refine wp_loop_rounds 2 ?_
  rw [rounds_succ]
  go_wp2_with (go_at_call 276; refine (unwrapE_any _ _ _).mono ?_; rintro e w' ⟨rfl, rfl⟩)
  rw [rounds_succ]
  go_wp2
  go_ret
  exact ⟨rfl, (Below.refl _ _).alloc (Nat.le_refl _) _⟩

theorem Is_other (k : Int) (a b : Addr) (w : World) (hne : a ≠ b) (ha : ∃ c t, w.heap[a.block]? = some (.cells c t (0, 0))) (hb : ∃ c t, w.heap[b.block]? = some (.cells c t (0, 0))) :
    Calls Tryz.prog 135 #[refV k (sentV a), sentV b] w fun e w' => e = .returned (.bool false) ∧ Below w.heap.size w w' := by
  have hT1 := @run_callFunc_extern Tryz.prog 181 _ ReflectliteType.typeOf Tryz.func181 (by kernel_rfl) (by kernel_rfl) (by kernel_rfl) (by kernel_rfl)
  have hC1 := @run_callFunc_extern Tryz.prog 283 _ compE Tryz.func283 (by kernel_rfl) (by kernel_rfl) (by kernel_rfl) (by kernel_rfl)
  have t1 := tPtr
  have c1 := cPtr
  have mC := mComp
  go_enter Tryz.func135, Tryz.ntmps135
  go_wp2_with fail
  refine (is_other k a b w hne ha hb).mono ?_
  rintro e w3 ⟨rfl, hb⟩
  go_wp2
  go_ret
  exact ⟨rfl, hb⟩
end Go.Proofs.YtdphpjnecjofeaaGreatDoor
/- Jl -/
set_option linter.unusedVariables false
namespace Go.Proofs.YtdphpjnecjofeaaGreatDoor
open Go.ChangeShapes Go.WideShapes Go.ChangeAt Go.RowKit Go.Deep

theorem globalKind : Tryz.prog.globalNamed "loop.example/g00767/impl.errKind" = some 4 := by kernel_rfl
theorem typeKind : (Tryz.prog.globals[4]?).map (·.type) = some 117 := by kernel_rfl
theorem globalOften : Tryz.prog.globalNamed "loop.example/g00767/impl.errOften" = some 6 := by kernel_rfl
theorem typeOften : (Tryz.prog.globals[6]?).map (·.type) = some 117 := by kernel_rfl
theorem globalPhase : Tryz.prog.globalNamed "loop.example/g00767/impl.errPhase" = some 0 := by kernel_rfl
theorem typePhase : (Tryz.prog.globals[0]?).map (·.type) = some 117 := by kernel_rfl
theorem globalState : Tryz.prog.globalNamed "loop.example/g00767/impl.errState" = some 1 := by kernel_rfl
theorem typeState : (Tryz.prog.globals[1]?).map (·.type) = some 117 := by kernel_rfl
theorem globalBudget : Tryz.prog.globalNamed "loop.example/g00767/impl.errBudget" = some 2 := by kernel_rfl
theorem typeBudget : (Tryz.prog.globals[2]?).map (·.type) = some 117 := by kernel_rfl
theorem globalType : Tryz.prog.globalNamed "errors.errorType" = some 5 := by kernel_rfl
set_option maxRecDepth 100000 in
theorem rowPtr (u : TypeId) (h : Tryz.prog.typeName? 3 u = some "*errors.errorString") : u = 281 :=
  typeName_ptr_named (nm := "errors.errorString") (by kernel_rfl) (by kernel_rfl) (by decide) u h
theorem cellsE : Tryz.prog.cellsOf 301 = 1 := by kernel_rfl
theorem cellsS : Tryz.prog.cellsOf 9 = 1 := by kernel_rfl
theorem rtypeRow : (Tryz.prog.cutTypes.find? (·.1 == "internal/reflectlite.rtype")).map (·.2) = some 231 := by kernel_rfl
theorem errorRows : ((List.range 313).filter fun t => Tryz.prog.rowNamed t [101, 114, 114, 111, 114]) = [117] := by kernel_rfl
theorem typesSize : Tryz.prog.types.size = 313 := by kernel_rfl

theorem handle_cell {W : World} (h : handlesMet Tryz.prog [("errors.errorType", Rows.laid_errors_errorType)] W) : W.cell? ⟨5, 0, none⟩ = some (.iface 231 (.agg #[.pointer (some ⟨7, 117, none⟩)])) := by
  obtain ⟨name, u, ty, e1, e2, e3, e4, e5⟩ := h _ (List.mem_singleton.2 rfl)
  obtain rfl : [101, 114, 114, 111, 114] = name := Option.some.inj e1
  obtain rfl := Option.some.inj (rtypeRow.symm.trans e2)
  have hm : ty ∈ (List.range 313).filter fun t => Tryz.prog.rowNamed t [101, 114, 114, 111, 114] := List.mem_filter.2 ⟨List.mem_range.2 (by rw [← typesSize]; exact e3), e4⟩
  rw [errorRows] at hm
  obtain rfl := List.mem_singleton.1 hm
  rw [show typeHandle Tryz.prog 117 = .pointer (some ⟨7, 117, none⟩) by kernel_rfl] at e5
  simpa using World.var?_cell globalType e5 0

set_option maxRecDepth 100000 in
set_option maxHeartbeats 2000000 in
theorem errs_of {W : World} (h : laidMet Tryz.prog [("loop.example/g00767/impl.errKind", Rows.laid_loop_example_g00767_impl_errKind), ("loop.example/g00767/impl.errOften", Rows.laid_loop_example_g00767_impl_errOften), ("loop.example/g00767/impl.errPhase", Rows.laid_loop_example_g00767_impl_errPhase), ("loop.example/g00767/impl.errState", Rows.laid_loop_example_g00767_impl_errState), ("loop.example/g00767/impl.errBudget", Rows.laid_loop_example_g00767_impl_errBudget)] W) (he : handlesMet Tryz.prog [("errors.errorType", Rows.laid_errors_errorType)] W) : ∃ K O P S B, Errs W K O P S B := by
  obtain ⟨ps, ⟨g0, t0, cs0, f0, p0, q0, hg0, ht0, hv0, hd0, ⟨g1, t1, cs1, f1, p1, q1, hg1, ht1, hv1, hd1, ⟨g2, t2, cs2, f2, p2, q2, hg2, ht2, hv2, hd2, ⟨g3, t3, cs3, f3, p3, q3, hg3, ht3, hv3, hd3, ⟨g4, t4, cs4, f4, p4, q4, hg4, ht4, hv4, hd4, _, e4⟩, e3⟩, e2⟩, e1⟩, e0⟩, hnd, hrows⟩ := h
  subst e4
  subst e3
  subst e2
  subst e1
  subst e0
  obtain rfl := Option.some.inj (globalKind.symm.trans hg0)
  obtain rfl := Option.some.inj (typeKind.symm.trans ht0)
  obtain ⟨l0⟩ := cs0
  have ok0 : ∀ u v, l0 = [.iface u v] → Value.okWide Tryz.prog W .any 0 u v := fun u v e => by
    subst e
    exact (hrows 4 0 (by simp [MemPlace.row])).2 u v (by simpa using World.var?_cell hg0 hv0 0)
  obtain rfl := Option.some.inj (globalOften.symm.trans hg1)
  obtain rfl := Option.some.inj (typeOften.symm.trans ht1)
  obtain ⟨l1⟩ := cs1
  have ok1 : ∀ u v, l1 = [.iface u v] → Value.okWide Tryz.prog W .any 0 u v := fun u v e => by
    subst e
    exact (hrows 6 0 (by simp [MemPlace.row])).2 u v (by simpa using World.var?_cell hg1 hv1 0)
  obtain rfl := Option.some.inj (globalPhase.symm.trans hg2)
  obtain rfl := Option.some.inj (typePhase.symm.trans ht2)
  obtain ⟨l2⟩ := cs2
  have ok2 : ∀ u v, l2 = [.iface u v] → Value.okWide Tryz.prog W .any 0 u v := fun u v e => by
    subst e
    exact (hrows 0 0 (by simp [MemPlace.row])).2 u v (by simpa using World.var?_cell hg2 hv2 0)
  obtain rfl := Option.some.inj (globalState.symm.trans hg3)
  obtain rfl := Option.some.inj (typeState.symm.trans ht3)
  obtain ⟨l3⟩ := cs3
  have ok3 : ∀ u v, l3 = [.iface u v] → Value.okWide Tryz.prog W .any 0 u v := fun u v e => by
    subst e
    exact (hrows 1 0 (by simp [MemPlace.row])).2 u v (by simpa using World.var?_cell hg3 hv3 0)
  obtain rfl := Option.some.inj (globalBudget.symm.trans hg4)
  obtain rfl := Option.some.inj (typeBudget.symm.trans ht4)
  obtain ⟨l4⟩ := cs4
  have ok4 : ∀ u v, l4 = [.iface u v] → Value.okWide Tryz.prog W .any 0 u v := fun u v e => by
    subst e
    exact (hrows 2 0 (by simp [MemPlace.row])).2 u v (by simpa using World.var?_cell hg4 hv4 0)
  obtain ⟨a0, s0, rfl, -, -, -, rfl⟩ := errorString_of_trod (text := _) Tryz.underlying117 rowPtr Tryz.underlying281 Tryz.underlying301 rfl rfl Tryz.underlying9 cellsE cellsS hd0 ok0
  obtain ⟨a1, s1, rfl, -, -, -, rfl⟩ := errorString_of_trod (text := _) Tryz.underlying117 rowPtr Tryz.underlying281 Tryz.underlying301 rfl rfl Tryz.underlying9 cellsE cellsS hd1 ok1
  obtain ⟨a2, s2, rfl, -, -, -, rfl⟩ := errorString_of_trod (text := _) Tryz.underlying117 rowPtr Tryz.underlying281 Tryz.underlying301 rfl rfl Tryz.underlying9 cellsE cellsS hd2 ok2
  obtain ⟨a3, s3, rfl, -, -, -, rfl⟩ := errorString_of_trod (text := _) Tryz.underlying117 rowPtr Tryz.underlying281 Tryz.underlying301 rfl rfl Tryz.underlying9 cellsE cellsS hd3 ok3
  obtain ⟨a4, s4, rfl, -, -, -, rfl⟩ := errorString_of_trod (text := _) Tryz.underlying117 rowPtr Tryz.underlying281 Tryz.underlying301 rfl rfl Tryz.underlying9 cellsE cellsS hd4 ok4
  have b0 := (hrows a0.block a0.off (by simp [MemPlace.row])).1
  have b1 := (hrows a1.block a1.off (by simp [MemPlace.row])).1
  have b2 := (hrows a2.block a2.off (by simp [MemPlace.row])).1
  have b3 := (hrows a3.block a3.off (by simp [MemPlace.row])).1
  have b4 := (hrows a4.block a4.off (by simp [MemPlace.row])).1
  have n01 : a0 ≠ a1 := by
    rintro rfl
    simp [MemPlace.row] at hnd
  have n02 : a0 ≠ a2 := by
    rintro rfl
    simp [MemPlace.row] at hnd
  have n03 : a0 ≠ a3 := by
    rintro rfl
    simp [MemPlace.row] at hnd
  have n04 : a0 ≠ a4 := by
    rintro rfl
    simp [MemPlace.row] at hnd
  have n12 : a1 ≠ a2 := by
    rintro rfl
    simp [MemPlace.row] at hnd
  have n13 : a1 ≠ a3 := by
    rintro rfl
    simp [MemPlace.row] at hnd
  have n14 : a1 ≠ a4 := by
    rintro rfl
    simp [MemPlace.row] at hnd
  have n23 : a2 ≠ a3 := by
    rintro rfl
    simp [MemPlace.row] at hnd
  have n24 : a2 ≠ a4 := by
    rintro rfl
    simp [MemPlace.row] at hnd
  have n34 : a3 ≠ a4 := by
    rintro rfl
    simp [MemPlace.row] at hnd
  exact ⟨a0, a1, a2, a3, a4, ⟨by simpa using World.var?_cell hg0 hv0 0, b0⟩, ⟨by simpa using World.var?_cell hg1 hv1 0, b1⟩, ⟨by simpa using World.var?_cell hg2 hv2 0, b2⟩, ⟨by simpa using World.var?_cell hg3 hv3 0, b3⟩, ⟨by simpa using World.var?_cell hg4 hv4 0, b4⟩, handle_cell he, ⟨n02, n12, n23.symm, n24.symm⟩, ⟨n03, n13, n23, n34.symm⟩, ⟨n04, n14, n24, n34⟩⟩

theorem errs_of_laid {W : World} (h : laidMetH Tryz.prog [("errors.errorType", Rows.laid_errors_errorType), ("loop.example/g00767/impl.errKind", Rows.laid_loop_example_g00767_impl_errKind), ("loop.example/g00767/impl.errOften", Rows.laid_loop_example_g00767_impl_errOften), ("loop.example/g00767/impl.errPhase", Rows.laid_loop_example_g00767_impl_errPhase), ("loop.example/g00767/impl.errState", Rows.laid_loop_example_g00767_impl_errState), ("loop.example/g00767/impl.errBudget", Rows.laid_loop_example_g00767_impl_errBudget)] W) : ∃ K O P S B, Errs W K O P S B := by
  have h' : laidMet Tryz.prog [("loop.example/g00767/impl.errKind", Rows.laid_loop_example_g00767_impl_errKind), ("loop.example/g00767/impl.errOften", Rows.laid_loop_example_g00767_impl_errOften), ("loop.example/g00767/impl.errPhase", Rows.laid_loop_example_g00767_impl_errPhase), ("loop.example/g00767/impl.errState", Rows.laid_loop_example_g00767_impl_errState), ("loop.example/g00767/impl.errBudget", Rows.laid_loop_example_g00767_impl_errBudget)] W ∧ handlesMet Tryz.prog [("errors.errorType", Rows.laid_errors_errorType)] W := h
  exact errs_of h'.1 h'.2

/-- How many blocks a settled world has. -/
noncomputable def lowest : Nat := (World.holding Tryz.prog default ⟨#[], #[], []⟩).heap.size
/-- A world in which the variables lie as they are listed. -/
noncomputable def laidWorldE (os : Os) : World :=
  let w0 := World.holding Tryz.prog os ⟨#[.cells #[.string ⟨#[116, 104, 101, 114, 101, 32, 105, 115, 32, 110, 111, 32, 115, 117, 99, 104, 32, 99, 111, 109, 109, 97, 110, 100]⟩] 301, .cells #[.string ⟨#[105, 116, 32, 99, 97, 110, 110, 111, 116, 32, 98, 101, 32, 98, 117, 115, 121, 32, 115, 111, 32, 111, 102, 116, 101, 110]⟩] 301, .cells #[.string ⟨#[110, 111, 116, 32, 110, 111, 119]⟩] 301, .cells #[.string ⟨#[105, 116, 32, 105, 115, 32, 110, 111, 116, 32, 115, 111]⟩] 301, .cells #[.string ⟨#[116, 111, 111, 32, 102, 101, 119, 32, 119, 111, 117, 108, 100, 32, 98, 101, 32, 108, 101, 102, 116]⟩] 301], #[], []⟩
  let put (h : Array Obj) (g : Nat) (cs : Array Value) : Array Obj := h.modify g fun
    | .cells _ t frozen => .cells cs t frozen
    | o => o
  { w0 with heap := (put (put (put (put (put (put w0.heap 4 #[.iface 281 (.pointer (some ⟨lowest + 0, 0, none⟩))]) 6 #[.iface 281 (.pointer (some ⟨lowest + 1, 0, none⟩))]) 0 #[.iface 281 (.pointer (some ⟨lowest + 2, 0, none⟩))]) 1 #[.iface 281 (.pointer (some ⟨lowest + 3, 0, none⟩))]) 2 #[.iface 281 (.pointer (some ⟨lowest + 4, 0, none⟩))]) 5 #[.iface 231 (.agg #[.pointer (some ⟨7, 117, none⟩)])]) }
theorem laidWorldE_met (os : Os) (args : Array Value) : laidMetH Tryz.prog [("errors.errorType", Rows.laid_errors_errorType), ("loop.example/g00767/impl.errKind", Rows.laid_loop_example_g00767_impl_errKind), ("loop.example/g00767/impl.errOften", Rows.laid_loop_example_g00767_impl_errOften), ("loop.example/g00767/impl.errPhase", Rows.laid_loop_example_g00767_impl_errPhase), ("loop.example/g00767/impl.errState", Rows.laid_loop_example_g00767_impl_errState), ("loop.example/g00767/impl.errBudget", Rows.laid_loop_example_g00767_impl_errBudget)] ((laidWorldE os).forCall (fun _ _ => 0) ⟨#[], args, []⟩).memory :=
  laidMetH_of_parts (laidMet_of_run' 8 (by kernel_rfl) (by kernel_rfl)) (by kernel_rfl)
end Go.Proofs.YtdphpjnecjofeaaGreatDoor
/- Ma -/
set_option linter.unusedVariables false
namespace Go.Proofs.YtdphpjnecjofeaaGreatDoor
open Go.RowKit Go.Maps

theorem plainElem_bool_is {H : Type} {P : Program} {e : TypeId} (he : P.underlying e = some .bool) {v : Value} {z : DataW H × List MemPlace} (h : plainElem P e v = some z) : ∃ x, v = .bool x ∧ z = (.lit (.bool x), []) := by
  unfold plainElem at h
  rw [he] at h
  cases v <;> simp at h
  subst h
  exact ⟨_, rfl, rfl⟩

/-- A map of whole numbers to true: those at which f is, n of them. -/
structure SetD (D : DataW Unit) (f : Int → Bool) (n : Nat) : Prop where
  tidy : Tidy D
  at_ : ∀ i : Int, D.atKey (.int .i64 i) (.lit (.bool false)) = .lit (.bool (f i))
  has_ : ∀ i : Int, Go.Maps.has D (.int .i64 i) = f i
  size_ : Go.Maps.size D = n
theorem SetD.empty : SetD (.map []) (fun _ => false) 0 := ⟨tidy_empty, fun _ => rfl, fun _ => rfl, rfl⟩
theorem SetD.congr {D : DataW Unit} {f g : Int → Bool} {n m : Nat} (h : SetD D f n) (hf : ∀ i, f i = g i) (hn : n = m) : SetD D g m :=
  ⟨h.tidy, fun i => by rw [h.at_, hf], fun i => by rw [h.has_, hf], by rw [h.size_, hn]⟩
theorem SetD.put {D : DataW Unit} {f : Int → Bool} {n : Nat} (h : SetD D f n) (j : Int) (hj : f j = false) : SetD (D.put (.int .i64 j) (.lit (.bool true))) (fun i => f i || decide (i = j)) (n + 1) := by
  have hk : WideAt.IsKeyLit (.int .i64 j) := trivial
  refine ⟨h.tidy.put hk _, fun i => ?_, fun i => ?_, ?_⟩
  · by_cases e : i = j
    · subst e
      rw [atKey_put_same h.tidy.isMap hk]; simp
    · rw [atKey_put_other (fun e2 => e (by cases e2; rfl)), h.at_]; simp [e]
  · by_cases e : i = j
    · subst e
      rw [has_put_same h.tidy.isMap hk]; simp
    · rw [has_put_other (fun e2 => e (by cases e2; rfl)), h.has_]; simp [e]
  · rw [size_put h.tidy, h.has_, hj, h.size_]; rfl
theorem SetD.del {D : DataW Unit} {f : Int → Bool} {n : Nat} (h : SetD D f n) (j : Int) : SetD (D.del (.int .i64 j)) (fun i => f i && !decide (i = j)) (n - if f j then 1 else 0) := by
  refine ⟨h.tidy.del _, fun i => ?_, fun i => ?_, ?_⟩
  · by_cases e : i = j
    · subst e
      rw [atKey_del_same]; simp
    · rw [atKey_del_other (fun e2 => e (by cases e2; rfl)), h.at_]; simp [e]
  · by_cases e : i = j
    · subst e
      rw [has_del_same]; simp
    · rw [has_del_other (fun e2 => e (by cases e2; rfl)), h.has_]; simp [e]
  · have := size_del (k := .int .i64 j) h.tidy
    rw [h.has_, h.size_] at this
    omega
end Go.Proofs.YtdphpjnecjofeaaGreatDoor
/- Mb -/
set_option linter.unusedVariables false
namespace Go.Proofs.YtdphpjnecjofeaaGreatDoor
open Go.RowKit Go.Maps

theorem mem_hits {n : Nat} {f : Nat → Int} {b x : Int} : x ∈ hits n f b ↔ (0 ≤ x ∧ x < n) ∧ f x.toNat = b := by
  constructor
  · intro h
    obtain ⟨i, hi, rfl, e⟩ := hits_mem h
    exact ⟨by omega, by simpa using e⟩
  · rintro ⟨⟨h0, h1⟩, e⟩
    have := hits_in (f := f) (n := n) (i := x.toNat) (by omega)
    rw [e] at this
    rwa [Int.toNat_of_nonneg h0] at this
theorem hits_rise (n : Nat) (f : Nat → Int) (b : Int) : (hits n f b).Pairwise (· < ·) := picks_rise n fun i => f i == b
theorem take_one {L : List Int} {k : Nat} (hk : k < L.length) : L.take (k + 1) = L.take k ++ [L.getD k 0] := by
  rw [List.take_add_one]
  simp [List.getD, hk]
theorem not_taken {L : List Int} (hp : L.Pairwise (· < ·)) {k : Nat} (hk : k < L.length) : L.getD k 0 ∉ L.take k := by
  intro hm
  have e := take_one hk
  have h2 : (L.take (k + 1)).Pairwise (· < ·) := hp.sublist (List.take_sublist _ _)
  rw [e, List.pairwise_append] at h2
  have := h2.2.2 _ hm _ (List.mem_singleton.2 rfl)
  omega
theorem SetD.one {D : DataW Unit} {L : List Int} (hp : L.Pairwise (· < ·)) {k : Nat} (hk : k < L.length) (h : SetD D (fun i => decide (i ∈ L.take k)) k) :
    SetD (D.put (.int .i64 (L.getD k 0)) (.lit (.bool true))) (fun i => decide (i ∈ L.take (k + 1))) (k + 1) := by
  refine (h.put (L.getD k 0) (by simpa using not_taken hp hk)).congr (fun i => ?_) rfl
  rw [take_one hk]
  simp [List.mem_append]

def leftQ (d : PlanD) (s : StD) (g : Int) (k i : Nat) : Bool := decide (d.x0 (i * 4) = g) && (decide (k ≤ i) || decide ((podA s.pods i).1 = 0))
def leftF (d : PlanD) (s : StD) (g : Int) (k : Nat) (i : Int) : Bool := (decide (0 ≤ i) && decide (i < d.n0)) && leftQ d s g k i.toNat
def leftN (d : PlanD) (s : StD) (g : Int) (k : Nat) : Nat := (List.range d.n0).countP (leftQ d s g k)
theorem left_start {D : DataW Unit} {d : PlanD} {s : StD} {g : Int} {L : List Int} (hL : L = hits d.n0 (fun i => d.x0 (i * 4)) g) (h : SetD D (fun i => decide (i ∈ L.take L.length)) L.length) : SetD D (leftF d s g 0) (leftN d s g 0) := by
  subst hL
  refine h.congr (fun i => ?_) ?_
  · rw [List.take_length]
    unfold leftF leftQ
    rw [Bool.eq_iff_iff]
    simp [mem_hits]
  · unfold leftN leftQ
    simp [hits, List.countP_eq_length_filter, BEq.beq]
theorem leftQ_next {d : PlanD} {s : StD} {g : Int} {k i : Nat} (h : i = k → (podA s.pods k).1 = 0) : leftQ d s g k i = leftQ d s g (k + 1) i := by
  unfold leftQ
  by_cases e : i = k
  · subst e
    simp [h rfl]
  · have : (k ≤ i) ↔ (k + 1 ≤ i) := by omega
    simp only [this]
theorem left_stay {D : DataW Unit} {d : PlanD} {s : StD} {g : Int} {k : Nat} (h : SetD D (leftF d s g k) (leftN d s g k)) (hr : (podA s.pods k).1 = 0) : SetD D (leftF d s g (k + 1)) (leftN d s g (k + 1)) := by
  have e : leftQ d s g k = leftQ d s g (k + 1) := funext fun i => leftQ_next fun _ => hr
  refine h.congr (fun i => ?_) ?_
  · unfold leftF; rw [e]
  · unfold leftN; rw [e]
theorem left_drop {D : DataW Unit} {d : PlanD} {s : StD} {g : Int} {k : Nat} (h : SetD D (leftF d s g k) (leftN d s g k)) (hk : k < d.n0) (hr : (podA s.pods k).1 ≠ 0) : SetD (D.del (.int .i64 k)) (leftF d s g (k + 1)) (leftN d s g (k + 1)) := by
  have h0 : leftQ d s g (k + 1) k = false := by
    unfold leftQ
    have : ¬ (k + 1 ≤ k) := by omega
    simp [this, hr]
  refine (h.del k).congr (fun i => ?_) ?_
  · unfold leftF
    by_cases e : i = (k : Int)
    · subst e
      rw [Int.toNat_natCast, h0]
      simp
    · by_cases e2 : 0 ≤ i
      · rw [leftQ_next (k := k) (i := i.toNat) (fun e3 => absurd (by omega) e)]
        simp [e]
      · simp [e2]
  · have hF : leftF d s g k k = leftQ d s g k k := by
      unfold leftF
      rw [Int.toNat_natCast]
      have : (k : Int) < d.n0 := by omega
      simp [this]
    rw [hF]
    unfold leftN
    cases hq : leftQ d s g k k
    · have e : ∀ i, leftQ d s g k i = leftQ d s g (k + 1) i := fun i => by
        by_cases e : i = k
        · rw [e, hq, h0]
        · exact leftQ_next fun e2 => absurd e2 e
      rw [show leftQ d s g k = leftQ d s g (k + 1) from funext e]
      simp
    · have := count_flip hq h0 (fun j hj => leftQ_next fun e2 => absurd e2 hj) d.n0
      rw [if_pos hk] at this
      rw [this]
      simp
theorem left_end {D : DataW Unit} {d : PlanD} {s : StD} {g : Int} (h : SetD D (leftF d s g d.n0) (leftN d s g d.n0)) : (∀ i : Nat, i < d.n0 → D.atKey (.int .i64 i) (.lit (.bool false)) = .lit (.bool (hP d s g i))) ∧ (Go.Maps.size D : Int) = healthyN d s g := by
  have e : ∀ i, i < d.n0 → leftQ d s g d.n0 i = hP d s g i := fun i hi => by
    unfold leftQ hP
    have : ¬ (d.n0 ≤ i) := by omega
    simp [this]
  refine ⟨fun i hi => ?_, ?_⟩
  · rw [h.at_]
    unfold leftF
    rw [Int.toNat_natCast, e i hi]
    have : (i : Int) < d.n0 := by omega
    simp [this]
  · rw [h.size_, healthyN_count]
    unfold leftN
    congr 1
    exact List.countP_congr fun i hi => by rw [e i (List.mem_range.1 hi)]
end Go.Proofs.YtdphpjnecjofeaaGreatDoor
/- Mc -/
set_option linter.unusedVariables false
namespace Go.Proofs.YtdphpjnecjofeaaGreatDoor
open Go.RowKit Go.Maps

theorem law64 : Keyed Tryz.prog 2 := int_keyed Tryz.underlying2
theorem zero_bool (w : World) : (zeroValue 4).run Tryz.prog w = .ok (.bool false) w := by kernel_rfl
theorem Keeps.of_grownM {w w' : World} {b : Nat} (h : w.grownBy w' (some b)) : Keeps (fun x => x = b) w w' := by
  obtain ⟨h1, h2, h3, h4, h5⟩ := h
  exact ⟨h1, h2, h3, h4, fun i hi hn => h5 i hi (fun e => hn (by cases e; rfl))⟩
theorem Two.keepB {w w1 w2 : World} {cs os : Array Value} {b : Nat} (h : Two w w1 cs os) (hg : w1.grownBy w2 (some b)) (hb : w.heap.size + 2 ≤ b) : Two w w2 cs os :=
  ⟨h.A.keeps (Keeps.of_grownM hg) (by intro x hx; omega) (by omega), h.O.keeps (Keeps.of_grownM hg) (by intro x hx; omega) (by omega)⟩
/-- What leftIn answers: a map of the call's own. -/
def LeftIn (w : World) (d : PlanD) (s : StD) (g : Int) (e : Ending) (w' : World) : Prop :=
  ∃ B n D, e = .returned (.map (some B)) ∧ w'.ownsMap Tryz.prog 2 (plainElem (H := Unit) Tryz.prog 4) B n D ∧ (∀ i : Nat, i < d.n0 → D.atKey (.int .i64 i) (.lit (.bool false)) = .lit (.bool (hP d s g i))) ∧
    (Go.Maps.size D : Int) = healthyN d s g ∧ Below w.heap.size w w'

set_option maxRecDepth 100000 in
set_option maxHeartbeats 4000000 in
theorem implLeftIn_any (pv sv : Value) (d : PlanD) (s : StD) (g : Int) (w : World) (hp : IsPlan w w.heap.size pv d) (hs : IsSt w w.heap.size sv s) (hok : StOk d s) :
    Calls Tryz.prog 220 #[pv, sv, .int .i64 g] w (LeftIn w d s g) := by
  have HP := Lib.hid hp
  have HS := Lib.hid hs
  have OK := Lib.hid hok
  have HL := Lib.hid (planOk_lock hok.plan)
  obtain ⟨⟨P0, P1, P2, P3, k0, k1, k2, k3, rfl, -, -, -, -⟩, b0, b1, b2, b3⟩ := hp
  obtain ⟨⟨A0, A1, A2, A3, c0, c1, c2, c3, rfl, t0, -, -, -⟩, f0, f1, f2, f3⟩ := hs
  have R0 := Lib.hid t0
  clear t0 hok
  unfold maxLen at b0 b1 b2 b3 f0 f1 f2 f3
  have T0 := Two.start w (planC P0 P1 P2 P3 d.n0 k0 d.n1 k1 d.n2 k2 d.n3 k3 d.l d.p d.t) (stC A0 A1 A2 A3 s.pods.length c0 s.mnts.length c1 s.devs.length c2 s.lks.length c3 s.ph s.co s.ck s.bo s.ba s.lb s.gd s.pr) 47 40
  have hmm := @run_makeMap Tryz.prog
  go_enter Tryz.func220, Tryz.ntmps220
  go_wp2_with fail
  have T1 := T0.step ((Below.refl _ _).alloc (Nat.le_refl _) (.map #[] 0))
  have M1 := World.ownsMap_made ((w.alloc (.cells (planC P0 P1 P2 P3 d.n0 k0 d.n1 k1 d.n2 k2 d.n3 k3 d.l d.p d.t) 47)).alloc (.cells (stC A0 A1 A2 A3 s.pods.length c0 s.mnts.length c1 s.devs.length c2 s.lks.length c3 s.ph s.co s.ck s.bo s.ba s.lb s.gd s.pr) 40)) Tryz.prog 2 (plainElem (H := Unit) Tryz.prog 4)
  simp only [heap_size_alloc_] at M1
  refine (implPodsIn_any _ d g _ ((HP.out.below T1.A.K (Nat.le_refl _)).more T1.A.K.size) (by have := HL.out; omega)).mono ?_
  rintro e w2 ⟨v, rfl, O, hb⟩
  rw [found_yes OK.out.plan] at O
  obtain ⟨L, hL⟩ : ∃ L, hits d.n0 (fun i => d.x0 (i * 4)) g = L := ⟨_, rfl⟩
  rw [hL] at O
  obtain ⟨Q, c, r0, rfl, hQ, hB, hz, R⟩ := open_list O
  have T2 := T1.step hb
  have M2 := M1.kept (row := none) ⟨hb.os, hb.tape, hb.output, hb.size, fun k hk _ => hb.block k hk⟩ (by simp)
  have HQ := Lib.hid hQ
  have HR := Lib.hid R
  have HB := Lib.hid hB
  have HLn : Hid (L.length ≤ 12) := Lib.hid (by rw [← hL]; have := hits_le d.n0 (fun i => d.x0 (i * 4)) g; have := HL.out; omega)
  have HLR : Hid (L.Pairwise (· < ·)) := Lib.hid (by rw [← hL]; exact hits_rise _ _ _)
  have HLW : Hid (∀ k, k < L.length → (Lit.int .i64 (L.getD k 0)).wf = true) := Lib.hid fun k hk => by
    have hm : L.getD k 0 ∈ hits d.n0 (fun i => d.x0 (i * 4)) g := by
      rw [hL]
      simp [List.getD, hk]
    have := mem_hits.1 hm
    have := HL.out
    exact WalkArith.wf_i64 (by omega)
  have HLL := Lib.hid hL.symm
  simp only [heap_size_alloc_] at hB
  have HB := Lib.hid hB
  have HZ := Lib.hid hz
  have HR := Lib.hid R
  clear hL hQ hB hz R O M1 T1 T0 hb
  have hln := HLn.out
  go_wp2_with fail
  go_loopw [17] (fun i wr => ∃ (k : Nat) (D : DataW Unit), k ≤ L.length ∧ i = .int .i64 k ∧ wr.ownsMap Tryz.prog 2 (plainElem Tryz.prog 4) (w.heap.size + 1 + 1) k D ∧ SetD D (fun i => decide (i ∈ L.take k)) k ∧ Keeps (fun x => x = w.heap.size + 1 + 1) w2 wr ∧ Two w wr (planC P0 P1 P2 P3 d.n0 k0 d.n1 k1 d.n2 k2 d.n3 k3 d.l d.p d.t) (stC A0 A1 A2 A3 s.pods.length c0 s.mnts.length c1 s.devs.length c2 s.lks.length c3 s.ph s.co s.ck s.bo s.ba s.lb s.gd s.pr)) (fun i _ => L.length - (intOf i).toNat)
  case atStart => exact ⟨0, _, Nat.zero_le _, rfl, M2, SetD.empty.congr (fun i => by simp) rfl, Keeps.refl _ _, T2⟩
  case round =>
    clear M2 T2
    obtain ⟨k, D, hk, rfl, M, hS, hK, T⟩ := hrel
    have HM := Lib.hid M
    have HSD := Lib.hid hS
    have HK := Lib.hid hK
    clear M hS hK
    have hC := T.A.C
    have hD := T.O.C
    by_cases hlt : k < L.length
    · have e0 := HQ.out (by omega)
      subst e0
      have q0 := ((HR.out.goK HZ.out HK.out (fun hn e => by have := HB.out; omega)) k hlt).1
      have hkey : keyOf Tryz.prog 2 (.int .i64 (L.getD k 0)) = some (.int .i64 (L.getD k 0)) := keyOf_int_mk Tryz.underlying2 (HLW.out k hlt)
      have HKEY := Lib.hid hkey
      have HSN := Lib.hid (HSD.out.one HLR.out hlt)
      clear hkey
      generalize L.getD k 0 = x at *
      go_wp2_with (first
        | (at_mapUpdate; refine wpList_mapUpdate_own _ rfl _ _ _ 254 rfl 2 4 law64 Tryz.underlying254 _ (w.heap.size + 1 + 1) k _ rfl HM.out (by unfold maxLen; omega) _ _ _ rfl rfl HKEY.out _ [] (plainElem_bool Tryz.underlying4 true) ?_; intro w1 hown1 hgrow1))
      refine ⟨⟨k + 1, _, by omega, by go_num, hown1, HSN.out, HK.out.trans (Keeps.of_grownM hgrow1), T.keepB hgrow1 (by omega)⟩, by simp [intOf]; omega⟩
    · obtain rfl : k = L.length := by omega
      have HST := Lib.hid (left_start (s := s) HLL.out HSD.out)
      clear HSD HK HR HQ HZ HB
      obtain ⟨hp, hnp⟩ : s.pods.length ≤ 12 ∧ s.pods.length = d.n0 := by have := OK.out.np; have := HL.out; omega
      have HNP := Lib.hid hnp
      clear hnp
      go_wp2_with fail
      go_loopw [27] (fun i wr => ∃ (k : Nat) (D : DataW Unit), k ≤ s.pods.length ∧ i = .int .i64 k ∧ wr.ownsMap Tryz.prog 2 (plainElem Tryz.prog 4) (w.heap.size + 1 + 1) L.length D ∧ SetD D (leftF d s g k) (leftN d s g k) ∧ Two w wr (planC P0 P1 P2 P3 d.n0 k0 d.n1 k1 d.n2 k2 d.n3 k3 d.l d.p d.t) (stC A0 A1 A2 A3 s.pods.length c0 s.mnts.length c1 s.devs.length c2 s.lks.length c3 s.ph s.co s.ck s.bo s.ba s.lb s.gd s.pr)) (fun i _ => s.pods.length - (intOf i).toNat)
      case atStart => exact ⟨0, _, Nat.zero_le _, rfl, HM.out, HST.out, T⟩
      case round =>
        clear HM HST T hC hD
        obtain ⟨k, D, hk, rfl, M, hS, T⟩ := hrel
        have HM := Lib.hid M
        have HSD := Lib.hid hS
        clear M hS
        have hC := T.A.C
        have hD := T.O.C
        by_cases hlt : k < s.pods.length
        · obtain ⟨b, off, rfl, hb, hc⟩ := (R0.out.below T.A.K (Nat.le_refl _)).cell hlt
          have hp := podCs_at s.pods (i := k) hlt
          have q0 := (hc 0 (by decide)).trans hp.1
          have q1 := (hc 1 (by decide)).trans hp.2
          rw [Nat.add_zero] at q0
          clear hc hp
          have hk0 : k < d.n0 := by have := HNP.out; omega
          have hkey : keyOf Tryz.prog 2 (.int .i64 k) = some (.int .i64 k) := keyOf_int_mk Tryz.underlying2 (WalkArith.wf_i64 (by omega))
          have HKEY := Lib.hid hkey
          clear hkey
          by_cases hx : (podA s.pods k).1 = 0
          · have HN := Lib.hid (left_stay HSD.out hx)
            generalize podA s.pods k = r at q0 q1 hx
            obtain ⟨x, y⟩ := r
            dsimp only at q0 q1 hx
            subst hx
            go_wp2_with fail
            refine ⟨⟨k + 1, D, by omega, by go_num, HM.out.alloc _, HN.out, T.step ((Below.refl _ _).alloc (Nat.le_refl _) _)⟩, by simp [intOf]; omega⟩
          · have HN := Lib.hid (left_drop HSD.out hk0 hx)
            generalize podA s.pods k = r at q0 q1 hx
            obtain ⟨x, y⟩ := r
            dsimp only at q0 q1 hx
            go_wp2_with (first
              | (at_delete; refine wpList_delete_own _ rfl _ _ 254 2 rfl 4 law64 Tryz.underlying254 _ (w.heap.size + 1 + 1) L.length D rfl (HM.out.alloc _) _ _ rfl HKEY.out ?_; intro w1 hown1 hturn1))
            refine ⟨⟨k + 1, _, by omega, by go_num, hown1, HN.out, (T.step ((Below.refl _ _).alloc (Nat.le_refl _) _)).keepB hturn1.grown (by omega)⟩, by simp [intOf]; omega⟩
        · obtain rfl : k = s.pods.length := by omega
          have HE := Lib.hid (left_end (by have := HSD.out; rw [HNP.out] at this; exact this))
          clear HSD
          go_wp2_with fail
          go_ret
          exact ⟨_, _, D, rfl, HM.out, HE.out.1, HE.out.2, T.A.K⟩

set_option maxRecDepth 100000 in
set_option maxHeartbeats 4000000 in
theorem implMayEvict_any (pv sv : Value) (d : PlanD) (s : StD) (a : Int) (w : World) (hp : IsPlan w w.heap.size pv d) (hs : IsSt w w.heap.size sv s) :
    Calls Tryz.prog 200 #[pv, sv, .int .i64 a] w fun e w' => e = .returned (.bool (stOkB d s && mayEvictB d s a)) ∧ Below w.heap.size w w' := by
  have HP := Lib.hid hp
  have HS := Lib.hid hs
  obtain ⟨⟨P0, P1, P2, P3, k0, k1, k2, k3, rfl, s0, s1, -, -⟩, b0, b1, b2, b3⟩ := hp
  obtain ⟨⟨A0, A1, A2, A3, c0, c1, c2, c3, rfl, -, -, -, -⟩, f0, f1, f2, f3⟩ := hs
  have S0 := Lib.hid s0
  have S1 := Lib.hid s1
  unfold maxLen at b0 b1 b2 b3 f0 f1 f2 f3
  clear s0 s1
  have T0 := Two.start w (planC P0 P1 P2 P3 d.n0 k0 d.n1 k1 d.n2 k2 d.n3 k3 d.l d.p d.t) (stC A0 A1 A2 A3 s.pods.length c0 s.mnts.length c1 s.devs.length c2 s.lks.length c3 s.ph s.co s.ck s.bo s.ba s.lb s.gd s.pr) 47 40
  obtain ⟨ans, hans⟩ : ∃ ans, (stOkB d s && mayEvictB d s a) = ans := ⟨_, rfl⟩
  rw [hans]
  have HANS := Lib.hid hans
  clear hans
  go_enter Tryz.func200, Tryz.ntmps200
  go_wp2_with fail
  refine (implStateOk_any _ _ d s _ ((HP.out.below T0.A.K (Nat.le_refl _)).more T0.A.K.size) ((HS.out.below T0.A.K (Nat.le_refl _)).more T0.A.K.size)).mono ?_
  rintro e w1 ⟨rfl, hb⟩
  have T1 := T0.step hb
  have hC := T1.A.C
  have hD := T1.O.C
  clear hb T0
  cases hok : stOkB d s
  · have OKB := Lib.hid hok
    clear hok
    go_wp2
    all_goals (go_ret; exact ⟨ret_bool (by rw [← HANS.out, OKB.out]; rfl), T1.A.K⟩)
  · have OK := Lib.hid (stOkB_iff.1 hok)
    have OKB := Lib.hid hok
    clear hok
    cases hph : (s.ph != 2)
    case true =>
      have HPH : Hid (¬ s.ph = 2) := Lib.hid (by simpa using hph)
      go_wp2
      all_goals (go_ret; exact ⟨ret_bool (by rw [← HANS.out, OKB.out]; simp [mayEvictB, HPH.out]), T1.A.K⟩)
    case false =>
      have HPH : Hid (s.ph = 2) := Lib.hid (by simpa using hph)
      go_wp2_with fail
      refine (isIndex_any _ _ _).mono ?_
      rintro e w2 ⟨rfl, rfl⟩
      cases hin : inB a 0 (d.n0 - 1)
      · have HIN := Lib.hid hin
        clear hin
        go_wp2
        all_goals (go_ret; exact ⟨ret_bool (by rw [← HANS.out, OKB.out]; simp [mayEvictB, HIN.out]), T1.A.K⟩)
      · have HIN := Lib.hid hin
        obtain ⟨i, rfl, hi⟩ := index_nat (a := a) (n := d.n0) (by rw [hin]; decide)
        clear hin hph
        obtain ⟨m, hm, hml⟩ := pod_group OK.out.plan hi
        have HANS2 : Hid (ans = (hP d s m i && decide (d.x1 m < healthyN d s m))) := Lib.hid (by
          rw [← HANS.out, OKB.out, mayEvictB, HIN.out, HPH.out, Int.toNat_natCast, hm, Int.toNat_natCast]
          simp [podAt, podA, hP, hm])
        obtain ⟨b, off, rfl, hb, q0, -, -, -⟩ := (S0.out.own T1.A).cell4 hi
        rw [hm] at q0
        clear hm
        go_wp2_with fail
        refine (implLeftIn_any _ _ d s m _ ((HP.out.below T1.A.K (Nat.le_refl _)).more T1.A.K.size) ((HS.out.below T1.A.K (Nat.le_refl _)).more T1.A.K.size) OK.out).mono ?_
        rintro e w3 ⟨B, n, D, rfl, hown, hat, hsz, hb3⟩
        have T3 := T1.step hb3
        obtain ⟨b1_, off1, rfl, hb1, r0⟩ := (S1.out.below T3.A.K (Nat.le_refl _)).cell1 hml
        have hi12 : i < 1000 := by have := planOk_lock OK.out.plan; omega
        have hkey : keyOf Tryz.prog 2 (.int .i64 i) = some (.int .i64 i) := keyOf_int_mk Tryz.underlying2 (WalkArith.wf_i64 (by omega))
        have hlk : ∀ q, (Instr.lookup 254 (.map (some B)) (.int .i64 i) false).run Tryz.prog (w3.drewN q) = .ok (.bool (hP d s m i)) (w3.drewN q) := fun q => by
          have hown' : (w3.drewN q).ownsMap Tryz.prog 2 (plainElem (H := Unit) Tryz.prog 4) B n D := hown.kept (row := none) ⟨(below_drewN (Below.refl w3.heap.size w3) q).os, (below_drewN (Below.refl w3.heap.size w3) q).tape, (below_drewN (Below.refl w3.heap.size w3) q).output, (below_drewN (Below.refl w3.heap.size w3) q).size, fun k hk _ => (below_drewN (Below.refl w3.heap.size w3) q).block k hk⟩ (by simp)
          obtain ⟨v, ps, hrun, hv⟩ := hown'.lookup law64 Tryz.underlying254 (zero_bool _) (plainElem_bool Tryz.underlying4 false) hkey
          obtain ⟨x, rfl, hx⟩ := plainElem_bool_is Tryz.underlying4 hv
          rw [hat i hi] at hx
          simp only [Prod.mk.injEq, DataW.lit.injEq, Lit.bool.injEq] at hx
          rw [hx.1]
          exact hrun
        have hlen : ∀ q ty, (Builtin.len_ #[254] ty #[.map (some B)]).run Tryz.prog (w3.drewN q) = .ok (.int .i64 (healthyN d s m)) (w3.drewN q) := fun q ty => by
          have hown' : (w3.drewN q).ownsMap Tryz.prog 2 (plainElem (H := Unit) Tryz.prog 4) B n D := hown.kept (row := none) ⟨(below_drewN (Below.refl w3.heap.size w3) q).os, (below_drewN (Below.refl w3.heap.size w3) q).tape, (below_drewN (Below.refl w3.heap.size w3) q).output, (below_drewN (Below.refl w3.heap.size w3) q).size, fun k hk _ => (below_drewN (Below.refl w3.heap.size w3) q).block k hk⟩ (by simp)
          rw [← hsz]
          exact hown'.len Tryz.underlying254 ty
        clear hown hat hsz hkey hb3 T1 hC hD q0 hb
        have hC := T3.A.C
        have hD := T3.O.C
        generalize healthyN d s m = hn at *
        cases hp : hP d s m i
        · rw [hp] at hlk HANS2
          go_wp2_with fail
          go_quiet (fail)
          go_wp2
          all_goals (go_ret; exact ⟨ret_bool (by rw [HANS2.out]; rfl), below_drewN T3.A.K _⟩)
        · rw [hp] at hlk HANS2
          go_wp2_with fail
          go_quiet (fail)
          go_wp2
          all_goals (go_ret; exact ⟨ret_bool (by rw [HANS2.out]; simp), below_drewN T3.A.K _⟩)
end Go.Proofs.YtdphpjnecjofeaaGreatDoor
/- Ka -/
set_option linter.unusedVariables false
namespace Go.Proofs.YtdphpjnecjofeaaGreatDoor
open Go.RowKit

def stepD (hook grace st sp : Int) : Int := if st = 0 then (if 0 < hook then 1 else 2) else if st = 1 then (if hook ≤ sp then 2 else 1) else if st = 2 then (if grace ≤ sp then 3 else 2) else if st = 3 then 4 else st
def hookD (x : Int) : Int := if x = 1 then 2 else -1
def exitD (x : Int) : Int := if x = 0 ∨ x = 1 then 5 else if x = 2 ∨ x = 3 then 4 else -1

set_option maxHeartbeats 1000000 in
theorem implHook_any (x : Int) (w : World) : Calls Tryz.prog 174 #[.int .i64 x] w fun e w' => e = .returned (.int .i64 (hookD x)) ∧ w = w' := by
  have HH : Hid (hookD x = if x = 1 then 2 else -1) := Lib.hid rfl
  by_cases h1 : x = 1
  · subst h1
    go_enter Tryz.func174, Tryz.ntmps174
    go_wp2
    all_goals (go_ret; exact ⟨by rw [HH.out]; simp [*], rfl⟩)
  · skip
    go_enter Tryz.func174, Tryz.ntmps174
    go_wp2
    all_goals (go_ret; exact ⟨by rw [HH.out]; simp [*], rfl⟩)

set_option maxHeartbeats 1000000 in
theorem implExit_any (x : Int) (w : World) : Calls Tryz.prog 175 #[.int .i64 x] w fun e w' => e = .returned (.int .i64 (exitD x)) ∧ w = w' := by
  have HH : Hid (exitD x = if x = 0 ∨ x = 1 then 5 else if x = 2 ∨ x = 3 then 4 else -1) := Lib.hid rfl
  by_cases h0 : x = 0
  · subst h0
    go_enter Tryz.func175, Tryz.ntmps175
    go_wp2
    all_goals (go_ret; exact ⟨by rw [HH.out]; simp [*], rfl⟩)
  · skip
    by_cases h1 : x = 1
    · subst h1
      go_enter Tryz.func175, Tryz.ntmps175
      go_wp2
      all_goals (go_ret; exact ⟨by rw [HH.out]; simp [*], rfl⟩)
    · skip
      by_cases h2 : x = 2
      · subst h2
        go_enter Tryz.func175, Tryz.ntmps175
        go_wp2
        all_goals (go_ret; exact ⟨by rw [HH.out]; simp [*], rfl⟩)
      · skip
        by_cases h3 : x = 3
        · subst h3
          go_enter Tryz.func175, Tryz.ntmps175
          go_wp2
          all_goals (go_ret; exact ⟨by rw [HH.out]; simp [*], rfl⟩)
        · skip
          go_enter Tryz.func175, Tryz.ntmps175
          go_wp2
          all_goals (go_ret; exact ⟨by rw [HH.out]; simp [*], rfl⟩)

set_option maxHeartbeats 2000000 in
theorem implStep_any (gr ba grace hook st since clock : Int) (w : World) :
    Calls Tryz.prog 212 #[.agg #[.int .i64 gr, .int .i64 ba, .int .i64 grace, .int .i64 hook], .agg #[.int .i64 st, .int .i64 since], .int .i64 clock] w fun e w' =>
      e = .returned (.int .i64 (stepD hook grace st (wrap64 (clock - since)))) ∧ Below w.heap.size w w' := by
  have HH : ∀ sp, Hid (stepD hook grace st sp = if st = 0 then (if 0 < hook then 1 else 2) else if st = 1 then (if hook ≤ sp then 2 else 1) else if st = 2 then (if grace ≤ sp then 3 else 2) else if st = 3 then 4 else st) := fun _ => Lib.hid rfl
  replace HH := HH (wrap64 (clock - since))
  generalize stepD hook grace st (wrap64 (clock - since)) = ans at HH
  have K2 : Below w.heap.size w ((w.alloc (.cells #[.int .i64 gr, .int .i64 ba, .int .i64 grace, .int .i64 hook] 145)).alloc (.cells #[.int .i64 st, .int .i64 since] 140)) := ((Below.refl _ _).alloc (Nat.le_refl _) _).alloc (by simp) _
  by_cases e0 : st = 0
  · subst e0
    by_cases e1 : 0 < hook
    · skip
      go_enter Tryz.func212, Tryz.ntmps212
      go_wp2
      all_goals (go_ret; exact ⟨by rw [HH.out]; simp [*], K2⟩)
    · skip
      go_enter Tryz.func212, Tryz.ntmps212
      go_wp2
      all_goals (go_ret; exact ⟨by rw [HH.out]; simp [*], K2⟩)
  · by_cases e1 : st = 1
    · subst e1
      by_cases e2 : hook ≤ wrap64 (clock - since)
      · skip
        go_enter Tryz.func212, Tryz.ntmps212
        go_wp2
        all_goals (go_ret; exact ⟨by rw [HH.out]; simp [*], K2⟩)
      · skip
        go_enter Tryz.func212, Tryz.ntmps212
        go_wp2
        all_goals (go_ret; exact ⟨by rw [HH.out]; simp [*], K2⟩)
    · by_cases e2 : st = 2
      · subst e2
        by_cases e3 : grace ≤ wrap64 (clock - since)
        · skip
          go_enter Tryz.func212, Tryz.ntmps212
          go_wp2
          all_goals (go_ret; exact ⟨by rw [HH.out]; simp [*], K2⟩)
        · skip
          go_enter Tryz.func212, Tryz.ntmps212
          go_wp2
          all_goals (go_ret; exact ⟨by rw [HH.out]; simp [*], K2⟩)
      · by_cases e3 : st = 3
        · subst e3
          go_enter Tryz.func212, Tryz.ntmps212
          go_wp2
          all_goals (go_ret; exact ⟨by rw [HH.out]; simp [*], K2⟩)
        · skip
          go_enter Tryz.func212, Tryz.ntmps212
          go_wp2
          all_goals (go_ret; exact ⟨by rw [HH.out]; simp [*], K2⟩)
end Go.Proofs.YtdphpjnecjofeaaGreatDoor
