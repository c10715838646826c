/-
  The listed variables, as the row's condition tells them; a world in which they lie so.
-/
import Derived.Test.YtobpjahjahlhpaaGreatDoorMZ0
import Derived.WalkKit
import Derived.LaidEql
import Derived.Stop.Asserts
import Derived.RowKitTokens
import Derived.Lib.Hide
import Derived.Maps.OwnSet
import Derived.Test.YtobpjahjahlhpaaGreatDoorMZ6
import Derived.ChangeVars
import Derived.LaidLaws
import Derived.OpenShut
import Derived.WalkSmall
import Derived.LaidHandle
/- Ja -/
set_option linter.unusedVariables false
namespace Go.Proofs.YtobpjahjahlhpaaGreatDoor
open Go.RowKit Go.Extern.Stop Go.Stop Go.Extern

/-- A reason: which of the five, or the number that there is none of. -/
inductive Why where
  | kind | often | phase | state | budget
  | missing (n : Int)
/-- A sentinel at address a. -/
abbrev sentV (a : Addr) : Value := .iface 244 (.pointer (some a))
def whyV (K O P S B : Addr) : Why → Value
  | .kind => sentV K
  | .often => sentV O
  | .phase => sentV P
  | .state => sentV S
  | .budget => sentV B
  | .missing n => .iface 134 (.agg #[.int .i64 n])
def codeW : Why → Int
  | .kind => 1
  | .often => 1
  | .phase => 3
  | .state => 4
  | .budget => 5
  | .missing _ => 2
abbrev refV (k : Int) (r : Value) : Value := .iface 132 (.agg #[.int .i64 k, r])

/-- A package variable that holds a sentinel; the sentinel's own row. -/
def Sent (w : World) (g : Nat) (a : Addr) : Prop := w.cell? ⟨g, 0, none⟩ = some (sentV a) ∧ ∃ c t, w.heap[a.block]? = some (.cells c t (0, 0))
theorem Sent.below {w w' : World} {g : Nat} {a : Addr} (h : Sent w g a) (hb : Below w.heap.size w w') : Sent w' g a := by
  obtain ⟨h1, c, t, h2⟩ := h
  refine ⟨?_, c, t, ?_⟩
  · rw [hb.cell (p := ⟨g, 0, none⟩) (block_lt_of_cell h1)]; exact h1
  · rw [hb.block _ (Array.getElem?_eq_some_iff.1 h2).1]; exact h2
/-- The five sentinels, and the handle of the type error. -/
structure Errs (w : World) (K O P S B : Addr) : Prop where
  k : Sent w 4 K
  o : Sent w 6 O
  p : Sent w 0 P
  s : Sent w 1 S
  b : Sent w 2 B
  et : w.cell? ⟨5, 0, none⟩ = some (.iface 197 (.agg #[.pointer (some ⟨7, 103, none⟩)]))
  ne : (K ≠ P ∧ O ≠ P ∧ S ≠ P ∧ B ≠ P) ∧ (K ≠ S ∧ O ≠ S ∧ P ≠ S ∧ B ≠ S) ∧ (K ≠ B ∧ O ≠ B ∧ P ≠ B ∧ S ≠ B)
theorem Errs.below {w w' : World} {K O P S B : Addr} (h : Errs w K O P S B) (hb : Below w.heap.size w w') : Errs w' K O P S B :=
  ⟨h.k.below hb, h.o.below hb, h.p.below hb, h.s.below hb, h.b.below hb, by rw [hb.cell (p := ⟨5, 0, none⟩) (block_lt_of_cell h.et)]; exact h.et, h.ne⟩

/-! What the runtime's tables say, at this translation's numbers. -/
theorem mDepth (h : Value) (w : World) : (Go.method 376 197 (.agg #[h]) "Kind").run Tryz.prog w = .ok (230, h) w := by kernel_rfl
theorem mElem (h : Value) (w : World) : (Go.method 376 197 (.agg #[h]) "Elem").run Tryz.prog w = .ok (247, .agg #[h]) w := by kernel_rfl
theorem mImpl (h : Value) (w : World) : (Go.method 376 197 (.agg #[h]) "Implements").run Tryz.prog w = .ok (248, .agg #[h]) w := by kernel_rfl
theorem mAssg (h : Value) (w : World) : (Go.method 376 197 (.agg #[h]) "AssignableTo").run Tryz.prog w = .ok (245, .agg #[h]) w := by kernel_rfl
theorem mComp (h : Value) (w : World) : (Go.method 376 197 (.agg #[h]) "Comparable").run Tryz.prog w = .ok (246, .agg #[h]) w := by kernel_rfl
theorem mUnwrap (k : Int) (r : Value) (w : World) : (Go.method 376 132 (.agg #[.int .i64 k, r]) "Unwrap").run Tryz.prog w = .ok (239, .agg #[.int .i64 k, r]) w := by kernel_rfl
/-- The handle of a type. -/
abbrev hT (t : Nat) : Value := .pointer (some ⟨7, t, none⟩)
abbrev tyV (t : Nat) : Value := .iface 197 (.agg #[hT t])
theorem tPtr (v : Value) (w : World) : (ReflectliteType.typeOf #[.iface 244 v]).run Tryz.prog w = .ok (tyV 244) w := by kernel_rfl
theorem tRef (v : Value) (w : World) : (ReflectliteType.typeOf #[.iface 132 v]).run Tryz.prog w = .ok (tyV 132) w := by kernel_rfl
theorem tMis (v : Value) (w : World) : (ReflectliteType.typeOf #[.iface 134 v]).run Tryz.prog w = .ok (tyV 134) w := by kernel_rfl
/-- The model's entry for (rtype).Comparable, by a name that stays shut. -/
noncomputable def compE : Array Value → Sem Value := ReflectliteType.method fun t => do Rtype.noPackHeld "Comparable" t; pure (.bool (← typeInfo t).comparable)
theorem cPtr (w : World) : (compE #[.agg #[hT 244]]).run Tryz.prog w = .ok (.bool true) w := by kernel_rfl
theorem aPtr (w : World) : (ReflectliteType.relation "AssignableTo" ReflectliteType.assignableTo #[.agg #[hT 244], tyV 134]).run Tryz.prog w = .ok (.bool false) w := by kernel_rfl
theorem aRef (w : World) : (ReflectliteType.relation "AssignableTo" ReflectliteType.assignableTo #[.agg #[hT 132], tyV 134]).run Tryz.prog w = .ok (.bool false) w := by kernel_rfl
theorem aMis (w : World) : (ReflectliteType.relation "AssignableTo" ReflectliteType.assignableTo #[.agg #[hT 134], tyV 134]).run Tryz.prog w = .ok (.bool true) w := by kernel_rfl
/-! The three assertions. -/
theorem noAs (t : Nat) (v : Value) (xT : TypeId) (w : World) (ht : t = 244 ∨ t = 132 ∨ t = 134) : (Instr.typeAssert (.iface t v) xT 201 true).run Tryz.prog w = .ok (.tuple #[.nilIface, .bool false]) w := by
  rcases ht with rfl | rfl | rfl <;> exact run_typeAssert_lacksB Tryz.underlying201 (by kernel_rfl) (by kernel_rfl) v xT w
theorem noIs (t : Nat) (v : Value) (xT : TypeId) (w : World) (ht : t = 244 ∨ t = 132 ∨ t = 134) : (Instr.typeAssert (.iface t v) xT 209 true).run Tryz.prog w = .ok (.tuple #[.nilIface, .bool false]) w := by
  rcases ht with rfl | rfl | rfl <;> exact run_typeAssert_lacksB Tryz.underlying209 (by kernel_rfl) (by kernel_rfl) v xT w
theorem noUnwrap (t : Nat) (v : Value) (xT : TypeId) (w : World) (ht : t = 244 ∨ t = 134) : (Instr.typeAssert (.iface t v) xT 204 true).run Tryz.prog w = .ok (.tuple #[.nilIface, .bool false]) w := by
  rcases ht with rfl | rfl <;> exact run_typeAssert_lacksB Tryz.underlying204 (by kernel_rfl) (by kernel_rfl) v xT w
theorem noUnwraps (t : Nat) (v : Value) (xT : TypeId) (w : World) (ht : t = 244 ∨ t = 134) : (Instr.typeAssert (.iface t v) xT 206 true).run Tryz.prog w = .ok (.tuple #[.nilIface, .bool false]) w := by
  rcases ht with rfl | rfl <;> exact run_typeAssert_lacksB Tryz.underlying206 (by kernel_rfl) (by kernel_rfl) v xT w
theorem hasUnwrap (v : Value) (xT : TypeId) (w : World) : (Instr.typeAssert (.iface 132 v) xT 204 true).run Tryz.prog w = .ok (.tuple #[.iface 132 v, .bool true]) w := run_typeAssert_hasB Tryz.underlying204 (by kernel_rfl) v xT w
theorem compPtr : (Tryz.prog.info? 244).map (·.comparable) = some true := by kernel_rfl
theorem sizeStr : (Tryz.prog.info? 264).map (·.size) = some 1 := by kernel_rfl
/-! Values of reflectlite: a pointer to a variable of missing. -/
theorem vPtr (t : Addr) (w : World) : (ReflectliteValue.unpack (.iface 136 (.pointer (some t)))).run Tryz.prog w
    = .ok (.agg #[hT 136, .pointer (some ⟨w.heap.size, 0, none⟩), .int .u64 150]) (w.alloc (.cells #[.pointer (some t)] 136)) := by kernel_rfl
theorem vMis (n : Int) (w : World) : (ReflectliteValue.unpack (.iface 134 (.agg #[.int .i64 n]))).run Tryz.prog w
    = .ok (.agg #[hT 134, .pointer (some ⟨w.heap.size, 0, none⟩), .int .u64 153]) (w.alloc (.cells #[.int .i64 n] 134)) := by kernel_rfl
theorem vType (a : Addr) (w : World) : (ReflectliteValue.methodAny (ReflectliteValue.valueError "reflectlite.Value.Type" 0) (fun t _ _ _ => ReflectliteType.toType t) #[.agg #[hT 136, .pointer (some a), .int .u64 150]]).run Tryz.prog w
    = .ok (tyV 136) w := by kernel_rfl
theorem kPtr (w : World) : ((ReflectliteType.abiMethod fun t => (fun a : Nat => Value.int IntKind.u8 (a : Int)) <$> Rtype.kind t) #[hT 136]).run Tryz.prog w = .ok (.int .u8 22) w := by kernel_rfl
theorem kMis (w : World) : ((ReflectliteType.abiMethod fun t => (fun a : Nat => Value.int IntKind.u8 (a : Int)) <$> Rtype.kind t) #[hT 134]).run Tryz.prog w = .ok (.int .u8 25) w := by kernel_rfl
theorem ePtr (w : World) : (ReflectliteType.method ReflectliteType.elem #[.agg #[hT 136]]).run Tryz.prog w = .ok (tyV 134) w := by kernel_rfl
theorem iMis (w : World) : (ReflectliteType.relation "Implements" ReflectliteType.implements_ #[.agg #[hT 134], tyV 103]).run Tryz.prog w = .ok (.bool true) w := by kernel_rfl

theorem pPtr (a : Addr) (w : World) : (ReflectliteValue.parts (.agg #[hT 136, .pointer (some a), .int .u64 150])).run Tryz.prog w = .ok (some (136, a, 150)) w := by kernel_rfl
theorem pMis (a : Addr) (w : World) : (ReflectliteValue.parts (.agg #[hT 134, .pointer (some a), .int .u64 153])).run Tryz.prog w = .ok (some (134, a, 153)) w := by kernel_rfl
theorem pVar (a : Addr) (w : World) : (ReflectliteValue.parts (.agg #[hT 134, .pointer (some a), .int .u64 409])).run Tryz.prog w = .ok (some (134, a, 409)) w := by kernel_rfl
theorem ePtr? (w : World) : (Rtype.elem? 136).run Tryz.prog w = .ok (some 134) w := by kernel_rfl
theorem mkVar (p : Addr) (w : World) : (ReflectliteValue.mk 134 p ReflectliteValue.flagAddr).run Tryz.prog w = .ok (.agg #[hT 134, .pointer (some p), .int .u64 409]) w := by kernel_rfl
theorem dMis (w : World) : (Rtype.directlyAssignable 134 134).run Tryz.prog w = .ok true w := by kernel_rfl
theorem rl_method (z : Sem Value) (f : TypeId → Addr → Nat → Nat → Sem Value) (v : Value) :
    ReflectliteValue.method z f #[v] = (ReflectliteValue.parts v >>= fun r => match r with | none => z | some (t, a, fl) => f t a fl (fl % 32)) := rfl
theorem isNil_ptr (a p : Addr) (W : World) (ha : W.cell? a = some (.pointer (some p))) :
    (ReflectliteValue.method (ReflectliteValue.valueError "reflectlite.Value.IsNil" 0) ReflectliteValue.isNil #[.agg #[hT 136, .pointer (some a), .int .u64 150]]).run Tryz.prog W = .ok (.bool false) W := by
  rw [rl_method]
  simp only [Sem.run_bind, pPtr, Result.andThen]
  simp [ReflectliteValue.isNil, loadVar, isAgg, underlying, Tryz.underlying136, ha, Result.andThen]
theorem elem_ptr (a p : Addr) (W : World) (ha : W.cell? a = some (.pointer (some p))) :
    (ReflectliteValue.method (ReflectliteValue.valueError "reflectlite.Value.Elem" 0) ReflectliteValue.elem #[.agg #[hT 136, .pointer (some a), .int .u64 150]]).run Tryz.prog W
      = .ok (.agg #[hT 134, .pointer (some p), .int .u64 409]) W := by
  rw [rl_method]
  simp only [Sem.run_bind, pPtr, Result.andThen]
  simp [ReflectliteValue.elem, loadVar, isAgg, underlying, Tryz.underlying136, ha, Result.andThen, ePtr?, mkVar]
theorem load_mis {b : Addr} {n : Int} {W : World} (hb : W.cell? b = some (.int .i64 n)) : (loadVar 134 b).run Tryz.prog W = .ok (.agg #[.int .i64 n]) W := by
  have e : b.add 0 = b := by cases b; simp [Addr.add]
  simp [loadVar, isAgg, underlying, Tryz.underlying134, loadCells, loadCellsFrom, e, hb, Result.andThen]
theorem store_mis {a : Addr} {n : Int} {old : Value} {W : World} (ha : W.cell? a = some old) (hf : W.frozen? a = false) : (storeVar 134 a (.agg #[.int .i64 n])).run Tryz.prog W = .ok () (W.setCell a (.int .i64 n)) := by
  have e : a.add 0 = a := by cases a; simp [Addr.add]
  simp [storeVar, Value.cells, storeCells, e, Result.andThen]
  rw [run_store Tryz.prog W a _ _ (by rfl)]
  simp [ha, hf]
theorem set_parts (v x : Value) : ∃ k : Option (TypeId × Addr × Nat) → Option (TypeId × Addr × Nat) → Sem Value,
    ReflectliteValue.set #[v, x] = (ReflectliteValue.parts v >>= fun p => ReflectliteValue.parts x >>= fun q => k p q) ∧
    ∀ a b n old W, W.cell? b = some (.int .i64 n) → W.cell? a = some old → W.frozen? a = false →
      (k (some (134, a, 409)) (some (134, b, 153))).run Tryz.prog W = .ok (.tuple #[]) (W.setCell a (.int .i64 n)) := by
  refine ⟨_, rfl, fun a b n old W hb ha hf => ?_⟩
  simp [ReflectliteValue.flagAddr, load_mis hb, store_mis ha hf, dMis, Result.andThen]
theorem set_var (ta b : Addr) (n : Int) (old : Value) (W : World) (hb : W.cell? b = some (.int .i64 n)) (ht : W.cell? ta = some old) (hf : W.frozen? ta = false) :
    (ReflectliteValue.set #[.agg #[hT 134, .pointer (some ta), .int .u64 409], .agg #[hT 134, .pointer (some b), .int .u64 153]]).run Tryz.prog W
      = .ok (.tuple #[]) (W.setCell ta (.int .i64 n)) := by
  obtain ⟨k, hk, hz⟩ := set_parts (.agg #[hT 134, .pointer (some ta), .int .u64 409]) (.agg #[hT 134, .pointer (some b), .int .u64 153])
  rw [hk]
  simp only [Sem.run_bind, pVar, pMis, Result.andThen]
  exact hz _ _ _ _ _ hb ht hf
end Go.Proofs.YtobpjahjahlhpaaGreatDoor
/- Je -/
set_option linter.unusedVariables false
namespace Go.Proofs.YtobpjahjahlhpaaGreatDoor
open Go.RowKit Go.Extern.Stop Go.Stop Go.Extern

theorem unwrapE_any (k : Int) (r : Value) (w : World) :
    Calls Tryz.prog 239 #[.agg #[.int .i64 k, r]] w fun e w' => e = .returned r ∧ w' = w.alloc (.cells #[.int .i64 k, r] 132) := by
  go_enter Tryz.func239, Tryz.ntmps239
  go_wp2
  go_ret
  exact ⟨rfl, rfl⟩

set_option maxRecDepth 10000 in
set_option maxHeartbeats 4000000 in
theorem is_same (k : Int) (b : Addr) (w : World) :
    Calls Tryz.prog 137 #[refV k (sentV b), sentV b, .bool true] w fun e w' => e = .returned (.bool true) ∧ Below w.heap.size w w' := by
  obtain ⟨i, hi, hcmp⟩ := Option.map_eq_some_iff.1 compPtr
  obtain ⟨j, hj, hjs⟩ := Option.map_eq_some_iff.1 sizeStr
  have n2 := fun v xT w => noIs 132 v xT w (.inr (.inl rfl))
  have u3 := hasUnwrap
  have mU := mUnwrap
  have q0 := fun w => run_eql_iface_types (P := Tryz.prog) 132 244 (.agg #[.int .i64 k, (sentV b)]) (.pointer (some b)) Tryz.underlying103 (by decide) w
  have hs : (w.alloc (.cells #[.int .i64 k, sentV b] 132)).heap.size = w.heap.size + 1 := by simp
  clear hs
  have q1 := run_eql_iface_ptr_same (P := Tryz.prog) (w.alloc (.cells #[.int .i64 k, sentV b] 132)) b Tryz.underlying103 Tryz.underlying244 hi hcmp hj
  go_enter Tryz.func137, Tryz.ntmps137
  go_wp2
  refine wp_loop_rounds 2 ?_
  rw [rounds_succ]
  go_wp2_with (go_at_call 239; refine (unwrapE_any _ _ _).mono ?_; rintro e w' ⟨rfl, rfl⟩)
  rw [rounds_succ]
  go_wp2
  go_ret
  exact ⟨rfl, (Below.refl _ _).alloc (Nat.le_refl _) _⟩

theorem Is_same (k : Int) (b : Addr) (w : World) :
    Calls Tryz.prog 91 #[refV k (sentV b), sentV b] w fun e w' => e = .returned (.bool true) ∧ Below w.heap.size w w' := by
  have hT1 := @run_callFunc_extern Tryz.prog 136 _ ReflectliteType.typeOf Tryz.func136 (by kernel_rfl) (by kernel_rfl) (by kernel_rfl) (by kernel_rfl)
  have hC1 := @run_callFunc_extern Tryz.prog 246 _ compE Tryz.func246 (by kernel_rfl) (by kernel_rfl) (by kernel_rfl) (by kernel_rfl)
  have t1 := tPtr
  have c1 := cPtr
  have mC := mComp
  go_enter Tryz.func91, Tryz.ntmps91
  go_wp2_with fail
  refine (is_same k b w).mono ?_
  rintro e w3 ⟨rfl, hb⟩
  go_wp2
  go_ret
  exact ⟨rfl, hb⟩

set_option maxRecDepth 10000 in
set_option maxHeartbeats 4000000 in
theorem is_other (k : Int) (a b : Addr) (w : World) (hne : a ≠ b) (ha : ∃ c t, w.heap[a.block]? = some (.cells c t (0, 0))) (hb : ∃ c t, w.heap[b.block]? = some (.cells c t (0, 0))) :
    Calls Tryz.prog 137 #[refV k (sentV a), sentV b, .bool true] w fun e w' => e = .returned (.bool false) ∧ Below w.heap.size w w' := by
  obtain ⟨i, hi, hcmp⟩ := Option.map_eq_some_iff.1 compPtr
  obtain ⟨j, hj, hjs⟩ := Option.map_eq_some_iff.1 sizeStr
  have n2 := fun v xT w => noIs 132 v xT w (.inr (.inl rfl))
  have u3 := hasUnwrap
  have mU := mUnwrap
  have q0 := fun w => run_eql_iface_types (P := Tryz.prog) 132 244 (.agg #[.int .i64 k, (sentV a)]) (.pointer (some b)) Tryz.underlying103 (by decide) w
  have K1 : Below w.heap.size w (w.alloc (.cells #[.int .i64 k, sentV a] 132)) := (Below.refl _ _).alloc (Nat.le_refl _) _
  obtain ⟨ca, ta, ha⟩ := ha
  obtain ⟨cb, tb, hb⟩ := hb
  have q1 := run_eql_iface_ptr_other (P := Tryz.prog) (w.alloc (.cells #[.int .i64 k, sentV a] 132)) Tryz.underlying103 Tryz.underlying244 hi hcmp hj (by rw [hjs]; decide) hne ((K1.block _ (Array.getElem?_eq_some_iff.1 ha).1).trans ha) ((K1.block _ (Array.getElem?_eq_some_iff.1 hb).1).trans hb)
  have n1 := fun v xT w => noIs 244 v xT w (.inl rfl)
  have u1 := fun v xT w => noUnwrap 244 v xT w (.inl rfl)
  have u2 := fun v xT w => noUnwraps 244 v xT w (.inl rfl)
  clear ha hb K1
  go_enter Tryz.func137, Tryz.ntmps137
  go_wp2
  refine wp_loop_rounds 2 ?_
  rw [rounds_succ]
  go_wp2_with (go_at_call 239; refine (unwrapE_any _ _ _).mono ?_; rintro e w' ⟨rfl, rfl⟩)
  rw [rounds_succ]
  go_wp2
  go_ret
  exact ⟨rfl, (Below.refl _ _).alloc (Nat.le_refl _) _⟩

theorem Is_other (k : Int) (a b : Addr) (w : World) (hne : a ≠ b) (ha : ∃ c t, w.heap[a.block]? = some (.cells c t (0, 0))) (hb : ∃ c t, w.heap[b.block]? = some (.cells c t (0, 0))) :
    Calls Tryz.prog 91 #[refV k (sentV a), sentV b] w fun e w' => e = .returned (.bool false) ∧ Below w.heap.size w w' := by
  have hT1 := @run_callFunc_extern Tryz.prog 136 _ ReflectliteType.typeOf Tryz.func136 (by kernel_rfl) (by kernel_rfl) (by kernel_rfl) (by kernel_rfl)
  have hC1 := @run_callFunc_extern Tryz.prog 246 _ compE Tryz.func246 (by kernel_rfl) (by kernel_rfl) (by kernel_rfl) (by kernel_rfl)
  have t1 := tPtr
  have c1 := cPtr
  have mC := mComp
  go_enter Tryz.func91, Tryz.ntmps91
  go_wp2_with fail
  refine (is_other k a b w hne ha hb).mono ?_
  rintro e w3 ⟨rfl, hb⟩
  go_wp2
  go_ret
  exact ⟨rfl, hb⟩
end Go.Proofs.YtobpjahjahlhpaaGreatDoor
/- Ma -/
set_option linter.unusedVariables false
namespace Go.Proofs.YtobpjahjahlhpaaGreatDoor
open Go.RowKit Go.Maps

theorem plainElem_bool_is {H : Type} {P : Program} {e : TypeId} (he : P.underlying e = some .bool) {v : Value} {z : DataW H × List MemPlace} (h : plainElem P e v = some z) : ∃ x, v = .bool x ∧ z = (.lit (.bool x), []) := by
  unfold plainElem at h
  rw [he] at h
  cases v <;> simp at h
  subst h
  exact ⟨_, rfl, rfl⟩

/-- A map of whole numbers to true: those at which f is, n of them. -/
structure SetD (D : DataW Unit) (f : Int → Bool) (n : Nat) : Prop where
  tidy : Tidy D
  at_ : ∀ i : Int, D.atKey (.int .i64 i) (.lit (.bool false)) = .lit (.bool (f i))
  has_ : ∀ i : Int, Go.Maps.has D (.int .i64 i) = f i
  size_ : Go.Maps.size D = n
theorem SetD.empty : SetD (.map []) (fun _ => false) 0 := ⟨tidy_empty, fun _ => rfl, fun _ => rfl, rfl⟩
theorem SetD.congr {D : DataW Unit} {f g : Int → Bool} {n m : Nat} (h : SetD D f n) (hf : ∀ i, f i = g i) (hn : n = m) : SetD D g m :=
  ⟨h.tidy, fun i => by rw [h.at_, hf], fun i => by rw [h.has_, hf], by rw [h.size_, hn]⟩
theorem SetD.put {D : DataW Unit} {f : Int → Bool} {n : Nat} (h : SetD D f n) (j : Int) (hj : f j = false) : SetD (D.put (.int .i64 j) (.lit (.bool true))) (fun i => f i || decide (i = j)) (n + 1) := by
  have hk : WideAt.IsKeyLit (.int .i64 j) := trivial
  refine ⟨h.tidy.put hk _, fun i => ?_, fun i => ?_, ?_⟩
  · by_cases e : i = j
    · subst e
      rw [atKey_put_same h.tidy.isMap hk]; simp
    · rw [atKey_put_other (fun e2 => e (by cases e2; rfl)), h.at_]; simp [e]
  · by_cases e : i = j
    · subst e
      rw [has_put_same h.tidy.isMap hk]; simp
    · rw [has_put_other (fun e2 => e (by cases e2; rfl)), h.has_]; simp [e]
  · rw [size_put h.tidy, h.has_, hj, h.size_]; rfl
theorem SetD.del {D : DataW Unit} {f : Int → Bool} {n : Nat} (h : SetD D f n) (j : Int) : SetD (D.del (.int .i64 j)) (fun i => f i && !decide (i = j)) (n - if f j then 1 else 0) := by
  refine ⟨h.tidy.del _, fun i => ?_, fun i => ?_, ?_⟩
  · by_cases e : i = j
    · subst e
      rw [atKey_del_same]; simp
    · rw [atKey_del_other (fun e2 => e (by cases e2; rfl)), h.at_]; simp [e]
  · by_cases e : i = j
    · subst e
      rw [has_del_same]; simp
    · rw [has_del_other (fun e2 => e (by cases e2; rfl)), h.has_]; simp [e]
  · have := size_del (k := .int .i64 j) h.tidy
    rw [h.has_, h.size_] at this
    omega
end Go.Proofs.YtobpjahjahlhpaaGreatDoor
/- Ca -/
set_option linter.unusedVariables false
namespace Go.Proofs.YtobpjahjahlhpaaGreatDoor
open Go.ChangeShapes Go.WideShapes Go.ChangeAt Go.RowKit Go.Deep

abbrev namesLaid {H : Type} : DataW H := Rows.laid_loop_example_g00767_impl_kindNames
theorem names_global : Tryz.prog.globalNamed "loop.example/g00767/impl.kindNames" = some 3 := by kernel_rfl
theorem names_type : (Tryz.prog.globals[3]?).map (·.type) = some 152 := by kernel_rfl

set_option maxRecDepth 100000 in
theorem names_of_head {W : World} {r : List (String × DataW Unit)} (h' : laidMet Tryz.prog (("loop.example/g00767/impl.kindNames", namesLaid) :: r) W) : Names W := by
  obtain ⟨ps, ⟨g, t, cs, fuel, p, q, h1, h2, h3, h4, _, _⟩, _, _⟩ := h'
  obtain rfl := Option.some.inj (names_global.symm.trans h1)
  obtain rfl := Option.some.inj (names_type.symm.trans h2)
  obtain ⟨xs, m, rfl, hx, hcl, hxl, hat⟩ := DataW.trod_array Tryz.underlying152 h4
  have hce : Tryz.prog.cellsOf 9 = 1 := by kernel_rfl
  have hc13 : Tryz.prog.cellsOf 152 = 13 := by kernel_rfl
  rw [hc13] at hcl
  have hcell := fun i => World.var?_cell names_global h3 i
  have hsz : cs.size = 13 := by simpa using hcl
  have hlt : 3 < W.heap.size := by
    have h0 := hcell 0
    rw [Array.getElem?_eq_getElem (by omega)] at h0
    exact block_lt_of_cell h0
  refine ⟨hlt, fun i hi => ?_⟩
  rw [hcell i]
  have hi' := hat i hi
  rw [hce, Nat.mul_one] at hi'
  have hone : (cs.toList.drop i).take 1 = [cs[i]'(by omega)] := by
    rw [List.drop_eq_getElem_cons (by simp; omega)]
    simp
  rw [hone] at hi'
  rw [Array.getElem?_eq_getElem (by omega)]
  cases hxi : xs[i]? with
  | none => rw [List.getElem?_eq_none_iff] at hxi; omega
  | some x =>
    rw [hxi] at hi'
    obtain ⟨s, hs, rfl, _⟩ := DataW.trod_string Tryz.underlying9 hi'
    injection hs with hs _
    have hd : (xs.map (·.1))[i]? = some (.lit (.string s.data.toList)) := by simp [hxi]
    have hx1 := congrArg Prod.fst hx
    have hx1 : (namesLaid : DataW Unit) = .agg (xs.map (·.1)) := hx1
    have hx2 : xs.map (·.1) = _ := (DataW.agg.inj hx1).symm
    rw [hx2] at hd
    rw [hs]
    congr 2
    rcases (by omega : i = 0 ∨ i = 1 ∨ i = 2 ∨ i = 3 ∨ i = 4 ∨ i = 5 ∨ i = 6 ∨ i = 7 ∨ i = 8 ∨ i = 9 ∨ i = 10 ∨ i = 11 ∨ i = 12) with rfl | rfl | rfl | rfl | rfl | rfl | rfl | rfl | rfl | rfl | rfl | rfl | rfl
    all_goals
      apply ByteArray.ext
      apply Array.toList_inj.1
      exact (Lit.string.inj (DataW.lit.inj (Option.some.inj hd))).symm

theorem names_of_laid {W : World} (h : laidMetH Tryz.prog [("loop.example/g00767/impl.kindNames", namesLaid)] W) : Names W := by
  have h' : laidMet Tryz.prog [("loop.example/g00767/impl.kindNames", namesLaid)] W := h
  exact names_of_head h'

/-- A world in which the variable lies as it is listed. -/
noncomputable def laidWorld (os : Os) : World :=
  let w0 := World.holding Tryz.prog os ⟨#[], #[], []⟩
  { w0 with heap := w0.heap.modify 3 fun
      | .cells _ t frozen => .cells #[.string (nameOf 0), .string (nameOf 1), .string (nameOf 2), .string (nameOf 3), .string (nameOf 4), .string (nameOf 5), .string (nameOf 6), .string (nameOf 7), .string (nameOf 8), .string (nameOf 9), .string (nameOf 10), .string (nameOf 11), .string (nameOf 12)] t frozen
      | o => o }
theorem laidWorld_met (os : Os) (args : Array Value) : laidMetH Tryz.prog [("loop.example/g00767/impl.kindNames", namesLaid)] ((laidWorld os).forCall (fun _ _ => 0) ⟨#[], args, []⟩).memory :=
  laidMet_of_run' 8 (by kernel_rfl) (by kernel_rfl)
end Go.Proofs.YtobpjahjahlhpaaGreatDoor
/- Jlb -/
set_option linter.unusedVariables false
namespace Go.Proofs.YtobpjahjahlhpaaGreatDoor
open Go.ChangeShapes Go.WideShapes Go.ChangeAt Go.RowKit Go.Deep

theorem globalKind : Tryz.prog.globalNamed "loop.example/g00767/impl.errKind" = some 4 := by kernel_rfl
theorem typeKind : (Tryz.prog.globals[4]?).map (·.type) = some 103 := by kernel_rfl
theorem globalOften : Tryz.prog.globalNamed "loop.example/g00767/impl.errOften" = some 6 := by kernel_rfl
theorem typeOften : (Tryz.prog.globals[6]?).map (·.type) = some 103 := by kernel_rfl
theorem globalPhase : Tryz.prog.globalNamed "loop.example/g00767/impl.errPhase" = some 0 := by kernel_rfl
theorem typePhase : (Tryz.prog.globals[0]?).map (·.type) = some 103 := by kernel_rfl
theorem globalState : Tryz.prog.globalNamed "loop.example/g00767/impl.errState" = some 1 := by kernel_rfl
theorem typeState : (Tryz.prog.globals[1]?).map (·.type) = some 103 := by kernel_rfl
theorem globalBudget : Tryz.prog.globalNamed "loop.example/g00767/impl.errBudget" = some 2 := by kernel_rfl
theorem typeBudget : (Tryz.prog.globals[2]?).map (·.type) = some 103 := by kernel_rfl
theorem globalType : Tryz.prog.globalNamed "errors.errorType" = some 5 := by kernel_rfl
set_option maxRecDepth 100000 in
theorem rowPtr (u : TypeId) (h : Tryz.prog.typeName? 3 u = some "*errors.errorString") : u = 244 :=
  typeName_ptr_named (nm := "errors.errorString") (by kernel_rfl) (by kernel_rfl) (by decide) u h
theorem cellsE : Tryz.prog.cellsOf 264 = 1 := by kernel_rfl
theorem cellsS : Tryz.prog.cellsOf 9 = 1 := by kernel_rfl
theorem rtypeRow : (Tryz.prog.cutTypes.find? (·.1 == "internal/reflectlite.rtype")).map (·.2) = some 197 := by kernel_rfl
theorem errorRows : ((List.range 276).filter fun t => Tryz.prog.rowNamed t [101, 114, 114, 111, 114]) = [103] := by kernel_rfl
theorem typesSize : Tryz.prog.types.size = 276 := by kernel_rfl

theorem handle_cell {W : World} (h : handlesMet Tryz.prog [("errors.errorType", Rows.laid_errors_errorType)] W) : W.cell? ⟨5, 0, none⟩ = some (.iface 197 (.agg #[.pointer (some ⟨7, 103, none⟩)])) := by
  obtain ⟨name, u, ty, e1, e2, e3, e4, e5⟩ := h _ (List.mem_singleton.2 rfl)
  obtain rfl : [101, 114, 114, 111, 114] = name := Option.some.inj e1
  obtain rfl := Option.some.inj (rtypeRow.symm.trans e2)
  have hm : ty ∈ (List.range 276).filter fun t => Tryz.prog.rowNamed t [101, 114, 114, 111, 114] := List.mem_filter.2 ⟨List.mem_range.2 (by rw [← typesSize]; exact e3), e4⟩
  rw [errorRows] at hm
  obtain rfl := List.mem_singleton.1 hm
  rw [show typeHandle Tryz.prog 103 = .pointer (some ⟨7, 103, none⟩) by kernel_rfl] at e5
  simpa using World.var?_cell globalType e5 0

set_option maxRecDepth 100000 in
set_option maxHeartbeats 2000000 in
theorem errs_of {W : World} (h : laidMet Tryz.prog [("loop.example/g00767/impl.errKind", Rows.laid_loop_example_g00767_impl_errKind), ("loop.example/g00767/impl.errOften", Rows.laid_loop_example_g00767_impl_errOften), ("loop.example/g00767/impl.errPhase", Rows.laid_loop_example_g00767_impl_errPhase), ("loop.example/g00767/impl.errState", Rows.laid_loop_example_g00767_impl_errState), ("loop.example/g00767/impl.errBudget", Rows.laid_loop_example_g00767_impl_errBudget)] W) (he : handlesMet Tryz.prog [("errors.errorType", Rows.laid_errors_errorType)] W) : ∃ K O P S B, Errs W K O P S B := by
  obtain ⟨ps, ⟨g0, t0, cs0, f0, p0, q0, hg0, ht0, hv0, hd0, ⟨g1, t1, cs1, f1, p1, q1, hg1, ht1, hv1, hd1, ⟨g2, t2, cs2, f2, p2, q2, hg2, ht2, hv2, hd2, ⟨g3, t3, cs3, f3, p3, q3, hg3, ht3, hv3, hd3, ⟨g4, t4, cs4, f4, p4, q4, hg4, ht4, hv4, hd4, _, e4⟩, e3⟩, e2⟩, e1⟩, e0⟩, hnd, hrows⟩ := h
  subst e4
  subst e3
  subst e2
  subst e1
  subst e0
  obtain rfl := Option.some.inj (globalKind.symm.trans hg0)
  obtain rfl := Option.some.inj (typeKind.symm.trans ht0)
  obtain ⟨l0⟩ := cs0
  have ok0 : ∀ u v, l0 = [.iface u v] → Value.okWide Tryz.prog W .any 0 u v := fun u v e => by
    subst e
    exact (hrows 4 0 (by simp [MemPlace.row])).2 u v (by simpa using World.var?_cell hg0 hv0 0)
  obtain rfl := Option.some.inj (globalOften.symm.trans hg1)
  obtain rfl := Option.some.inj (typeOften.symm.trans ht1)
  obtain ⟨l1⟩ := cs1
  have ok1 : ∀ u v, l1 = [.iface u v] → Value.okWide Tryz.prog W .any 0 u v := fun u v e => by
    subst e
    exact (hrows 6 0 (by simp [MemPlace.row])).2 u v (by simpa using World.var?_cell hg1 hv1 0)
  obtain rfl := Option.some.inj (globalPhase.symm.trans hg2)
  obtain rfl := Option.some.inj (typePhase.symm.trans ht2)
  obtain ⟨l2⟩ := cs2
  have ok2 : ∀ u v, l2 = [.iface u v] → Value.okWide Tryz.prog W .any 0 u v := fun u v e => by
    subst e
    exact (hrows 0 0 (by simp [MemPlace.row])).2 u v (by simpa using World.var?_cell hg2 hv2 0)
  obtain rfl := Option.some.inj (globalState.symm.trans hg3)
  obtain rfl := Option.some.inj (typeState.symm.trans ht3)
  obtain ⟨l3⟩ := cs3
  have ok3 : ∀ u v, l3 = [.iface u v] → Value.okWide Tryz.prog W .any 0 u v := fun u v e => by
    subst e
    exact (hrows 1 0 (by simp [MemPlace.row])).2 u v (by simpa using World.var?_cell hg3 hv3 0)
  obtain rfl := Option.some.inj (globalBudget.symm.trans hg4)
  obtain rfl := Option.some.inj (typeBudget.symm.trans ht4)
  obtain ⟨l4⟩ := cs4
  have ok4 : ∀ u v, l4 = [.iface u v] → Value.okWide Tryz.prog W .any 0 u v := fun u v e => by
    subst e
    exact (hrows 2 0 (by simp [MemPlace.row])).2 u v (by simpa using World.var?_cell hg4 hv4 0)
  obtain ⟨a0, s0, rfl, -, -, -, rfl⟩ := errorString_of_trod (text := _) Tryz.underlying103 rowPtr Tryz.underlying244 Tryz.underlying264 rfl rfl Tryz.underlying9 cellsE cellsS hd0 ok0
  obtain ⟨a1, s1, rfl, -, -, -, rfl⟩ := errorString_of_trod (text := _) Tryz.underlying103 rowPtr Tryz.underlying244 Tryz.underlying264 rfl rfl Tryz.underlying9 cellsE cellsS hd1 ok1
  obtain ⟨a2, s2, rfl, -, -, -, rfl⟩ := errorString_of_trod (text := _) Tryz.underlying103 rowPtr Tryz.underlying244 Tryz.underlying264 rfl rfl Tryz.underlying9 cellsE cellsS hd2 ok2
  obtain ⟨a3, s3, rfl, -, -, -, rfl⟩ := errorString_of_trod (text := _) Tryz.underlying103 rowPtr Tryz.underlying244 Tryz.underlying264 rfl rfl Tryz.underlying9 cellsE cellsS hd3 ok3
  obtain ⟨a4, s4, rfl, -, -, -, rfl⟩ := errorString_of_trod (text := _) Tryz.underlying103 rowPtr Tryz.underlying244 Tryz.underlying264 rfl rfl Tryz.underlying9 cellsE cellsS hd4 ok4
  have b0 := (hrows a0.block a0.off (by simp [MemPlace.row])).1
  have b1 := (hrows a1.block a1.off (by simp [MemPlace.row])).1
  have b2 := (hrows a2.block a2.off (by simp [MemPlace.row])).1
  have b3 := (hrows a3.block a3.off (by simp [MemPlace.row])).1
  have b4 := (hrows a4.block a4.off (by simp [MemPlace.row])).1
  have n01 : a0 ≠ a1 := by
    rintro rfl
    simp [MemPlace.row] at hnd
  have n02 : a0 ≠ a2 := by
    rintro rfl
    simp [MemPlace.row] at hnd
  have n03 : a0 ≠ a3 := by
    rintro rfl
    simp [MemPlace.row] at hnd
  have n04 : a0 ≠ a4 := by
    rintro rfl
    simp [MemPlace.row] at hnd
  have n12 : a1 ≠ a2 := by
    rintro rfl
    simp [MemPlace.row] at hnd
  have n13 : a1 ≠ a3 := by
    rintro rfl
    simp [MemPlace.row] at hnd
  have n14 : a1 ≠ a4 := by
    rintro rfl
    simp [MemPlace.row] at hnd
  have n23 : a2 ≠ a3 := by
    rintro rfl
    simp [MemPlace.row] at hnd
  have n24 : a2 ≠ a4 := by
    rintro rfl
    simp [MemPlace.row] at hnd
  have n34 : a3 ≠ a4 := by
    rintro rfl
    simp [MemPlace.row] at hnd
  exact ⟨a0, a1, a2, a3, a4, ⟨by simpa using World.var?_cell hg0 hv0 0, b0⟩, ⟨by simpa using World.var?_cell hg1 hv1 0, b1⟩, ⟨by simpa using World.var?_cell hg2 hv2 0, b2⟩, ⟨by simpa using World.var?_cell hg3 hv3 0, b3⟩, ⟨by simpa using World.var?_cell hg4 hv4 0, b4⟩, handle_cell he, ⟨n02, n12, n23.symm, n24.symm⟩, ⟨n03, n13, n23, n34.symm⟩, ⟨n04, n14, n24, n34⟩⟩

theorem errs_of_laid {W : World} (h : laidMetH Tryz.prog [("errors.errorType", Rows.laid_errors_errorType), ("loop.example/g00767/impl.kindNames", namesLaid), ("loop.example/g00767/impl.errKind", Rows.laid_loop_example_g00767_impl_errKind), ("loop.example/g00767/impl.errOften", Rows.laid_loop_example_g00767_impl_errOften), ("loop.example/g00767/impl.errPhase", Rows.laid_loop_example_g00767_impl_errPhase), ("loop.example/g00767/impl.errState", Rows.laid_loop_example_g00767_impl_errState), ("loop.example/g00767/impl.errBudget", Rows.laid_loop_example_g00767_impl_errBudget)] W) : ∃ K O P S B, Errs W K O P S B := by
  have h' : laidMet Tryz.prog [("loop.example/g00767/impl.kindNames", namesLaid), ("loop.example/g00767/impl.errKind", Rows.laid_loop_example_g00767_impl_errKind), ("loop.example/g00767/impl.errOften", Rows.laid_loop_example_g00767_impl_errOften), ("loop.example/g00767/impl.errPhase", Rows.laid_loop_example_g00767_impl_errPhase), ("loop.example/g00767/impl.errState", Rows.laid_loop_example_g00767_impl_errState), ("loop.example/g00767/impl.errBudget", Rows.laid_loop_example_g00767_impl_errBudget)] W ∧ handlesMet Tryz.prog [("errors.errorType", Rows.laid_errors_errorType)] W := h
  obtain ⟨⟨ps, ⟨_, _, _, _, p, q, _, _, _, _, hq, rfl⟩, hnd, hrows⟩, he⟩ := h'
  exact errs_of ⟨q, hq, List.Nodup.sublist (List.sublist_append_right _ _) hnd, fun b off hm => hrows b off (List.mem_append_right _ hm)⟩ he
theorem names_of_laidH {W : World} (h : laidMetH Tryz.prog [("errors.errorType", Rows.laid_errors_errorType), ("loop.example/g00767/impl.kindNames", namesLaid), ("loop.example/g00767/impl.errKind", Rows.laid_loop_example_g00767_impl_errKind), ("loop.example/g00767/impl.errOften", Rows.laid_loop_example_g00767_impl_errOften), ("loop.example/g00767/impl.errPhase", Rows.laid_loop_example_g00767_impl_errPhase), ("loop.example/g00767/impl.errState", Rows.laid_loop_example_g00767_impl_errState), ("loop.example/g00767/impl.errBudget", Rows.laid_loop_example_g00767_impl_errBudget)] W) : Names W := by
  have h' : laidMet Tryz.prog [("loop.example/g00767/impl.kindNames", namesLaid), ("loop.example/g00767/impl.errKind", Rows.laid_loop_example_g00767_impl_errKind), ("loop.example/g00767/impl.errOften", Rows.laid_loop_example_g00767_impl_errOften), ("loop.example/g00767/impl.errPhase", Rows.laid_loop_example_g00767_impl_errPhase), ("loop.example/g00767/impl.errState", Rows.laid_loop_example_g00767_impl_errState), ("loop.example/g00767/impl.errBudget", Rows.laid_loop_example_g00767_impl_errBudget)] W ∧ handlesMet Tryz.prog [("errors.errorType", Rows.laid_errors_errorType)] W := h
  exact names_of_head h'.1

/-- How many blocks a settled world has. -/
noncomputable def lowest : Nat := (World.holding Tryz.prog default ⟨#[], #[], []⟩).heap.size
/-- A world in which the variables lie as they are listed. -/
noncomputable def laidWorldE (os : Os) : World :=
  let w0 := World.holding Tryz.prog os ⟨#[.cells #[.string ⟨#[116, 104, 101, 114, 101, 32, 105, 115, 32, 110, 111, 32, 115, 117, 99, 104, 32, 99, 111, 109, 109, 97, 110, 100]⟩] 264, .cells #[.string ⟨#[105, 116, 32, 99, 97, 110, 110, 111, 116, 32, 98, 101, 32, 98, 117, 115, 121, 32, 115, 111, 32, 111, 102, 116, 101, 110]⟩] 264, .cells #[.string ⟨#[110, 111, 116, 32, 110, 111, 119]⟩] 264, .cells #[.string ⟨#[105, 116, 32, 105, 115, 32, 110, 111, 116, 32, 115, 111]⟩] 264, .cells #[.string ⟨#[116, 111, 111, 32, 102, 101, 119, 32, 119, 111, 117, 108, 100, 32, 98, 101, 32, 108, 101, 102, 116]⟩] 264], #[], []⟩
  let put (h : Array Obj) (g : Nat) (cs : Array Value) : Array Obj := h.modify g fun
    | .cells _ t frozen => .cells cs t frozen
    | o => o
  { w0 with heap := (put (put (put (put (put (put (put w0.heap 4 #[.iface 244 (.pointer (some ⟨lowest + 0, 0, none⟩))]) 6 #[.iface 244 (.pointer (some ⟨lowest + 1, 0, none⟩))]) 0 #[.iface 244 (.pointer (some ⟨lowest + 2, 0, none⟩))]) 1 #[.iface 244 (.pointer (some ⟨lowest + 3, 0, none⟩))]) 2 #[.iface 244 (.pointer (some ⟨lowest + 4, 0, none⟩))]) 5 #[.iface 197 (.agg #[.pointer (some ⟨7, 103, none⟩)])]) 3 #[.string (nameOf 0), .string (nameOf 1), .string (nameOf 2), .string (nameOf 3), .string (nameOf 4), .string (nameOf 5), .string (nameOf 6), .string (nameOf 7), .string (nameOf 8), .string (nameOf 9), .string (nameOf 10), .string (nameOf 11), .string (nameOf 12)]) }
theorem laidWorldE_met (os : Os) (args : Array Value) : laidMetH Tryz.prog [("errors.errorType", Rows.laid_errors_errorType), ("loop.example/g00767/impl.kindNames", namesLaid), ("loop.example/g00767/impl.errKind", Rows.laid_loop_example_g00767_impl_errKind), ("loop.example/g00767/impl.errOften", Rows.laid_loop_example_g00767_impl_errOften), ("loop.example/g00767/impl.errPhase", Rows.laid_loop_example_g00767_impl_errPhase), ("loop.example/g00767/impl.errState", Rows.laid_loop_example_g00767_impl_errState), ("loop.example/g00767/impl.errBudget", Rows.laid_loop_example_g00767_impl_errBudget)] ((laidWorldE os).forCall (fun _ _ => 0) ⟨#[], args, []⟩).memory :=
  laidMetH_of_parts (laidMet_of_run' 8 (by kernel_rfl) (by kernel_rfl)) (by kernel_rfl)
end Go.Proofs.YtobpjahjahlhpaaGreatDoor
