/-
  errors.As, errors.Is of a refusal, and the code of a refusal.
-/
import Derived.Test.YtdphpjnecjofeaaGreatDoorMZ11
import Derived.Test.YtdphpjnecjofeaaGreatDoorMZ0
/- Jb -/
set_option linter.unusedVariables false
namespace Go.Proofs.YtdphpjnecjofeaaGreatDoor
open Go.RowKit Go.Extern.Stop Go.Stop Go.Extern

theorem unwrap_any (k : Int) (r : Value) (w : World) :
    Calls Tryz.prog 276 #[.agg #[.int .i64 k, r]] w fun e w' => e = .returned r ∧ w' = w.alloc (.cells #[.int .i64 k, r] 180) := by
  go_enter Tryz.func276, Tryz.ntmps276
  go_wp2
  go_ret
  exact ⟨rfl, rfl⟩

/-- A Value of reflectlite: of a pointer to a variable of missing. -/
abbrev rlV (p : Addr) : Array Value := #[hT 184, .pointer (some p), .int .u64 150]
set_option maxHeartbeats 4000000 in
theorem as_other (k : Int) (a t p : Addr) (w : World) :
    Calls Tryz.prog 180 #[refV k (sentV a), .iface 184 (.pointer (some t)), .agg (rlV p), tyV 182] w fun e w' => e = .returned (.bool false) ∧ Below w.heap.size w w' := by
  have hT1 := @run_callFunc_extern Tryz.prog 181 _ ReflectliteType.typeOf Tryz.func181 (by kernel_rfl) (by kernel_rfl) (by kernel_rfl) (by kernel_rfl)
  have hA1 := @run_callFunc_extern Tryz.prog 282 _ (ReflectliteType.relation "AssignableTo" ReflectliteType.assignableTo) Tryz.func282 (by kernel_rfl) (by kernel_rfl) (by kernel_rfl) (by kernel_rfl)
  have t1 := tPtr
  have t2 := tRef
  have a1 := aPtr
  have a2 := aRef
  have mA := mAssg
  have mU := mUnwrap
  have n1 := fun v xT w => noAs 281 v xT w (.inl rfl)
  have n2 := fun v xT w => noAs 180 v xT w (.inr (.inl rfl))
  have u1 := fun v xT w => noUnwrap 281 v xT w (.inl rfl)
  have u2 := fun v xT w => noUnwraps 281 v xT w (.inl rfl)
  have u3 := hasUnwrap
  go_enter Tryz.func180, Tryz.ntmps180
  go_wp2
  refine wp_loop_rounds 2 ?_
  rw [rounds_succ]
  go_wp2_with (go_at_call 276; refine (unwrap_any _ _ _).mono ?_; rintro e w' ⟨rfl, rfl⟩)
  rw [rounds_succ]
  go_wp2
  go_ret
  exact ⟨rfl, ((Below.refl _ _).alloc (Nat.le_refl _) _).alloc (by simp) _⟩
set_option maxRecDepth 10000 in
set_option maxHeartbeats 4000000 in
theorem as_missing (k n : Int) (t p : Addr) (old : Value) (w : World) (hp : p.block < w.heap.size) (ht : w.cell? t = some old) (hf : w.frozen? t = false) (hpt : w.cell? p = some (.pointer (some t))) :
    Calls Tryz.prog 180 #[refV k (.iface 182 (.agg #[.int .i64 n])), .iface 184 (.pointer (some t)), .agg (rlV p), tyV 182] w fun e w' => e = .returned (.bool true) ∧ ∃ w1, Below w.heap.size w w1 ∧ w' = w1.setCell t (.int .i64 n) := by
  have hT1 := @run_callFunc_extern Tryz.prog 181 _ ReflectliteType.typeOf Tryz.func181 (by kernel_rfl) (by kernel_rfl) (by kernel_rfl) (by kernel_rfl)
  have hA1 := @run_callFunc_extern Tryz.prog 282 _ (ReflectliteType.relation "AssignableTo" ReflectliteType.assignableTo) Tryz.func282 (by kernel_rfl) (by kernel_rfl) (by kernel_rfl) (by kernel_rfl)
  have hV1 := @run_callFunc_extern Tryz.prog 177 _ (fun args => ReflectliteValue.unpack (args.getD 0 (.tuple #[]))) Tryz.func177 (by kernel_rfl) (by kernel_rfl) (by kernel_rfl) (by kernel_rfl)
  have hE1 := @run_callFunc_extern Tryz.prog 204 _ (ReflectliteValue.method (ReflectliteValue.valueError "reflectlite.Value.Elem" 0) ReflectliteValue.elem) Tryz.func204 (by kernel_rfl) (by kernel_rfl) (by kernel_rfl) (by kernel_rfl)
  have hS1 := @run_callFunc_extern Tryz.prog 205 _ ReflectliteValue.set Tryz.func205 (by kernel_rfl) (by kernel_rfl) (by kernel_rfl) (by kernel_rfl)
  have t1 := tMis
  have t2 := tRef
  have a1 := aMis
  have a2 := aRef
  have v1 := vMis
  have mA := mAssg
  have mU := mUnwrap
  have n2 := fun v xT w => noAs 180 v xT w (.inr (.inl rfl))
  have u3 := hasUnwrap
  have htl := block_lt_of_cell ht
  have K1 : Below w.heap.size w (w.alloc (.cells (rlV p) 208)) := (Below.refl _ _).alloc (Nat.le_refl _) _
  have K2 : Below w.heap.size w ((w.alloc (.cells (rlV p) 208)).alloc (.cells #[.int .i64 k, .iface 182 (.agg #[.int .i64 n])] 180)) := K1.alloc K1.size _
  have K3 : Below w.heap.size w (((w.alloc (.cells (rlV p) 208)).alloc (.cells #[.int .i64 k, .iface 182 (.agg #[.int .i64 n])] 180)).alloc (.cells #[.int .i64 n] 182)) := K2.alloc K2.size _
  have hsz : ((w.alloc (.cells (rlV p) 208)).alloc (.cells #[.int .i64 k, .iface 182 (.agg #[.int .i64 n])] 180)).heap.size = w.heap.size + 1 + 1 := by simp
  have hcn : (((w.alloc (.cells (rlV p) 208)).alloc (.cells #[.int .i64 k, .iface 182 (.agg #[.int .i64 n])] 180)).alloc (.cells #[.int .i64 n] 182)).cell? ⟨w.heap.size + 1 + 1, 0, none⟩ = some (.int .i64 n) := by rw [← hsz]; exact cell_new _ _ _ 0
  clear hsz
  have e2 := elem_ptr p t _ ((K2.cell hp).trans hpt)
  have s2 := set_var t ⟨w.heap.size + 1 + 1, 0, none⟩ n old _ hcn ((K3.cell htl).trans ht) ((K3.frozen htl).trans hf)
  go_enter Tryz.func180, Tryz.ntmps180
  go_wp2
  refine wp_loop_rounds 2 ?_
  rw [rounds_succ]
  go_wp2_with (go_at_call 276; refine (unwrap_any _ _ _).mono ?_; rintro e w' ⟨rfl, rfl⟩)
  rw [rounds_succ]
  go_wp2
  go_ret
  exact ⟨rfl, _, K3, rfl⟩

set_option maxRecDepth 10000 in
set_option maxHeartbeats 4000000 in
theorem As_other (k : Int) (a t : Addr) (w : World) (ht : t.block < w.heap.size) (hg : w.cell? ⟨5, 0, none⟩ = some (.iface 231 (.agg #[.pointer (some ⟨7, 117, none⟩)]))) :
    Calls Tryz.prog 134 #[refV k (sentV a), .iface 184 (.pointer (some t))] w fun e w' => e = .returned (.bool false) ∧ Below w.heap.size w w' := by
  have hV1 := @run_callFunc_extern Tryz.prog 177 _ (fun args => ReflectliteValue.unpack (args.getD 0 (.tuple #[]))) Tryz.func177 (by kernel_rfl) (by kernel_rfl) (by kernel_rfl) (by kernel_rfl)
  have hY1 := @run_callFunc_extern Tryz.prog 178 _ (ReflectliteValue.methodAny (ReflectliteValue.valueError "reflectlite.Value.Type" 0) (fun t _ _ _ => ReflectliteType.toType t)) Tryz.func178 (by kernel_rfl) (by kernel_rfl) (by kernel_rfl) (by kernel_rfl)
  have hN1 := @run_callFunc_extern Tryz.prog 179 _ (ReflectliteValue.method (ReflectliteValue.valueError "reflectlite.Value.IsNil" 0) ReflectliteValue.isNil) Tryz.func179 (by kernel_rfl) (by kernel_rfl) (by kernel_rfl) (by kernel_rfl)
  have hK1 := @run_callFunc_extern Tryz.prog 267 _ (ReflectliteType.abiMethod fun t => do pure (.int .u8 (← Rtype.kind t))) Tryz.func267 (by kernel_rfl) (by kernel_rfl) (by kernel_rfl) (by kernel_rfl)
  have hL1 := @run_callFunc_extern Tryz.prog 284 _ (ReflectliteType.method ReflectliteType.elem) Tryz.func284 (by kernel_rfl) (by kernel_rfl) (by kernel_rfl) (by kernel_rfl)
  have hI1 := @run_callFunc_extern Tryz.prog 285 _ (ReflectliteType.relation "Implements" ReflectliteType.implements_) Tryz.func285 (by kernel_rfl) (by kernel_rfl) (by kernel_rfl) (by kernel_rfl)
  have v1 := vPtr
  have y1 := vType
  have k1 := kPtr
  have k2 := kMis
  have l1 := ePtr
  have i1 := iMis
  have mK := mDepth
  have mE := mElem
  have mI := mImpl
  have K1 : Below w.heap.size w (w.alloc (.cells #[.pointer (some t)] 184)) := (Below.refl _ _).alloc (Nat.le_refl _) _
  have K2 : Below w.heap.size w ((w.alloc (.cells #[.pointer (some t)] 184)).alloc (.cells (rlV ⟨w.heap.size, 0, none⟩) 208)) := K1.alloc K1.size _
  have hc1 : (w.alloc (.cells #[.pointer (some t)] 184)).cell? ⟨w.heap.size, 0, none⟩ = some (.pointer (some t)) := cell_new _ _ _ 0
  have hc2 : ((w.alloc (.cells #[.pointer (some t)] 184)).alloc (.cells (rlV ⟨w.heap.size, 0, none⟩) 208)).cell? ⟨w.heap.size, 0, none⟩ = some (.pointer (some t)) := ((Below.refl (w.alloc (.cells #[.pointer (some t)] 184)).heap.size (w.alloc (.cells #[.pointer (some t)] 184))).alloc (Nat.le_refl _) _ |>.cell (p := ⟨w.heap.size, 0, none⟩) (by simp)).trans hc1
  have n1 := isNil_ptr ⟨w.heap.size, 0, none⟩ t _ hc2
  have hg2 : ((w.alloc (.cells #[.pointer (some t)] 184)).alloc (.cells (rlV ⟨w.heap.size, 0, none⟩) 208)).cell? ⟨5, 0, none⟩ = some (.iface 231 (.agg #[.pointer (some ⟨7, 117, none⟩)])) := (K2.cell (block_lt_of_cell hg)).trans hg
  go_enter Tryz.func134, Tryz.ntmps134
  go_wp2_with fail
  refine (as_other _ _ _ _ _).mono ?_
  rintro e w3 ⟨rfl, hb⟩
  have K3 := K2.trans (hb.mono K2.size)
  go_wp2
  go_ret
  exact ⟨rfl, K3⟩

set_option maxRecDepth 10000 in
set_option maxHeartbeats 4000000 in
theorem As_missing (k : Int) (n : Int) (t : Addr) (old : Value) (w : World) (ht : t.block < w.heap.size) (hg : w.cell? ⟨5, 0, none⟩ = some (.iface 231 (.agg #[.pointer (some ⟨7, 117, none⟩)]))) (htc : w.cell? t = some old) (hf : w.frozen? t = false) :
    Calls Tryz.prog 134 #[refV k (.iface 182 (.agg #[.int .i64 n])), .iface 184 (.pointer (some t))] w fun e w' => e = .returned (.bool true) ∧ ∃ w1, Below w.heap.size w w1 ∧ w' = w1.setCell t (.int .i64 n) := by
  have hV1 := @run_callFunc_extern Tryz.prog 177 _ (fun args => ReflectliteValue.unpack (args.getD 0 (.tuple #[]))) Tryz.func177 (by kernel_rfl) (by kernel_rfl) (by kernel_rfl) (by kernel_rfl)
  have hY1 := @run_callFunc_extern Tryz.prog 178 _ (ReflectliteValue.methodAny (ReflectliteValue.valueError "reflectlite.Value.Type" 0) (fun t _ _ _ => ReflectliteType.toType t)) Tryz.func178 (by kernel_rfl) (by kernel_rfl) (by kernel_rfl) (by kernel_rfl)
  have hN1 := @run_callFunc_extern Tryz.prog 179 _ (ReflectliteValue.method (ReflectliteValue.valueError "reflectlite.Value.IsNil" 0) ReflectliteValue.isNil) Tryz.func179 (by kernel_rfl) (by kernel_rfl) (by kernel_rfl) (by kernel_rfl)
  have hK1 := @run_callFunc_extern Tryz.prog 267 _ (ReflectliteType.abiMethod fun t => do pure (.int .u8 (← Rtype.kind t))) Tryz.func267 (by kernel_rfl) (by kernel_rfl) (by kernel_rfl) (by kernel_rfl)
  have hL1 := @run_callFunc_extern Tryz.prog 284 _ (ReflectliteType.method ReflectliteType.elem) Tryz.func284 (by kernel_rfl) (by kernel_rfl) (by kernel_rfl) (by kernel_rfl)
  have hI1 := @run_callFunc_extern Tryz.prog 285 _ (ReflectliteType.relation "Implements" ReflectliteType.implements_) Tryz.func285 (by kernel_rfl) (by kernel_rfl) (by kernel_rfl) (by kernel_rfl)
  have v1 := vPtr
  have y1 := vType
  have k1 := kPtr
  have k2 := kMis
  have l1 := ePtr
  have i1 := iMis
  have mK := mDepth
  have mE := mElem
  have mI := mImpl
  have K1 : Below w.heap.size w (w.alloc (.cells #[.pointer (some t)] 184)) := (Below.refl _ _).alloc (Nat.le_refl _) _
  have K2 : Below w.heap.size w ((w.alloc (.cells #[.pointer (some t)] 184)).alloc (.cells (rlV ⟨w.heap.size, 0, none⟩) 208)) := K1.alloc K1.size _
  have hc1 : (w.alloc (.cells #[.pointer (some t)] 184)).cell? ⟨w.heap.size, 0, none⟩ = some (.pointer (some t)) := cell_new _ _ _ 0
  have hc2 : ((w.alloc (.cells #[.pointer (some t)] 184)).alloc (.cells (rlV ⟨w.heap.size, 0, none⟩) 208)).cell? ⟨w.heap.size, 0, none⟩ = some (.pointer (some t)) := ((Below.refl (w.alloc (.cells #[.pointer (some t)] 184)).heap.size (w.alloc (.cells #[.pointer (some t)] 184))).alloc (Nat.le_refl _) _ |>.cell (p := ⟨w.heap.size, 0, none⟩) (by simp)).trans hc1
  have n1 := isNil_ptr ⟨w.heap.size, 0, none⟩ t _ hc2
  have hg2 : ((w.alloc (.cells #[.pointer (some t)] 184)).alloc (.cells (rlV ⟨w.heap.size, 0, none⟩) 208)).cell? ⟨5, 0, none⟩ = some (.iface 231 (.agg #[.pointer (some ⟨7, 117, none⟩)])) := (K2.cell (block_lt_of_cell hg)).trans hg
  go_enter Tryz.func134, Tryz.ntmps134
  go_wp2_with fail
  refine (as_missing _ n t ⟨w.heap.size, 0, none⟩ old _ (by show w.heap.size < _; simp; omega) ((K2.cell ht).trans htc) ((K2.frozen ht).trans hf) hc2).mono ?_
  rintro e w3 ⟨rfl, w4, hb, rfl⟩
  have K3 := K2.trans (hb.mono K2.size)
  go_wp2
  go_ret
  exact ⟨rfl, _, K3, rfl⟩
end Go.Proofs.YtdphpjnecjofeaaGreatDoor
