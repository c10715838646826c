/-
  Chapter 10's reasons as values; errors.As and errors.Is of a refusal that wraps one of them.
-/
import Derived.Test.YtnefiefimpjhpaaGreatDoorMZ0
import Derived.WalkKit
import Derived.LaidEql
import Derived.Stop.Asserts
import Derived.RowKitTokens
import Derived.Lib.Hide
/- Ja -/
set_option linter.unusedVariables false
namespace Go.Proofs.YtnefiefimpjhpaaGreatDoor
open Go.RowKit Go.Extern.Stop Go.Stop Go.Extern

/-- A reason: which of the five, or the number that there is none of. -/
inductive Why where
  | kind | often | phase | state | budget
  | missing (n : Int)
/-- A sentinel at address a. -/
abbrev sentV (a : Addr) : Value := .iface 218 (.pointer (some a))
def whyV (K O P S B : Addr) : Why → Value
  | .kind => sentV K
  | .often => sentV O
  | .phase => sentV P
  | .state => sentV S
  | .budget => sentV B
  | .missing n => .iface 94 (.agg #[.int .i64 n])
def codeW : Why → Int
  | .kind => 1
  | .often => 1
  | .phase => 3
  | .state => 4
  | .budget => 5
  | .missing _ => 2
abbrev refV (k : Int) (r : Value) : Value := .iface 92 (.agg #[.int .i64 k, r])

/-- A package variable that holds a sentinel; the sentinel's own row. -/
def Sent (w : World) (g : Nat) (a : Addr) : Prop := w.cell? ⟨g, 0, none⟩ = some (sentV a) ∧ ∃ c t, w.heap[a.block]? = some (.cells c t (0, 0))
theorem Sent.below {w w' : World} {g : Nat} {a : Addr} (h : Sent w g a) (hb : Below w.heap.size w w') : Sent w' g a := by
  obtain ⟨h1, c, t, h2⟩ := h
  refine ⟨?_, c, t, ?_⟩
  · rw [hb.cell (p := ⟨g, 0, none⟩) (block_lt_of_cell h1)]; exact h1
  · rw [hb.block _ (Array.getElem?_eq_some_iff.1 h2).1]; exact h2
/-- The five sentinels, and the handle of the type error. -/
structure Errs (w : World) (K O P S B : Addr) : Prop where
  k : Sent w 3 K
  o : Sent w 6 O
  p : Sent w 0 P
  s : Sent w 1 S
  b : Sent w 2 B
  et : w.cell? ⟨4, 0, none⟩ = some (.iface 155 (.agg #[.pointer (some ⟨7, 51, none⟩)]))
  ne : (K ≠ P ∧ O ≠ P ∧ S ≠ P ∧ B ≠ P) ∧ (K ≠ S ∧ O ≠ S ∧ P ≠ S ∧ B ≠ S) ∧ (K ≠ B ∧ O ≠ B ∧ P ≠ B ∧ S ≠ B)
theorem Errs.below {w w' : World} {K O P S B : Addr} (h : Errs w K O P S B) (hb : Below w.heap.size w w') : Errs w' K O P S B :=
  ⟨h.k.below hb, h.o.below hb, h.p.below hb, h.s.below hb, h.b.below hb, by rw [hb.cell (p := ⟨4, 0, none⟩) (block_lt_of_cell h.et)]; exact h.et, h.ne⟩

/-! What the runtime's tables say, at this translation's numbers. -/
theorem mDepth (h : Value) (w : World) : (Go.method 351 155 (.agg #[h]) "Kind").run Tryz.prog w = .ok (196, h) w := by kernel_rfl
theorem mElem (h : Value) (w : World) : (Go.method 351 155 (.agg #[h]) "Elem").run Tryz.prog w = .ok (209, .agg #[h]) w := by kernel_rfl
theorem mImpl (h : Value) (w : World) : (Go.method 351 155 (.agg #[h]) "Implements").run Tryz.prog w = .ok (210, .agg #[h]) w := by kernel_rfl
theorem mAssg (h : Value) (w : World) : (Go.method 351 155 (.agg #[h]) "AssignableTo").run Tryz.prog w = .ok (207, .agg #[h]) w := by kernel_rfl
theorem mComp (h : Value) (w : World) : (Go.method 351 155 (.agg #[h]) "Comparable").run Tryz.prog w = .ok (208, .agg #[h]) w := by kernel_rfl
theorem mUnwrap (k : Int) (r : Value) (w : World) : (Go.method 351 92 (.agg #[.int .i64 k, r]) "Unwrap").run Tryz.prog w = .ok (201, .agg #[.int .i64 k, r]) w := by kernel_rfl
/-- The handle of a type. -/
abbrev hT (t : Nat) : Value := .pointer (some ⟨7, t, none⟩)
abbrev tyV (t : Nat) : Value := .iface 155 (.agg #[hT t])
theorem tPtr (v : Value) (w : World) : (ReflectliteType.typeOf #[.iface 218 v]).run Tryz.prog w = .ok (tyV 218) w := by kernel_rfl
theorem tRef (v : Value) (w : World) : (ReflectliteType.typeOf #[.iface 92 v]).run Tryz.prog w = .ok (tyV 92) w := by kernel_rfl
theorem tMis (v : Value) (w : World) : (ReflectliteType.typeOf #[.iface 94 v]).run Tryz.prog w = .ok (tyV 94) w := by kernel_rfl
/-- The model's entry for (rtype).Comparable, by a name that stays shut. -/
noncomputable def compE : Array Value → Sem Value := ReflectliteType.method fun t => do Rtype.noPackHeld "Comparable" t; pure (.bool (← typeInfo t).comparable)
theorem cPtr (w : World) : (compE #[.agg #[hT 218]]).run Tryz.prog w = .ok (.bool true) w := by kernel_rfl
theorem aPtr (w : World) : (ReflectliteType.relation "AssignableTo" ReflectliteType.assignableTo #[.agg #[hT 218], tyV 94]).run Tryz.prog w = .ok (.bool false) w := by kernel_rfl
theorem aRef (w : World) : (ReflectliteType.relation "AssignableTo" ReflectliteType.assignableTo #[.agg #[hT 92], tyV 94]).run Tryz.prog w = .ok (.bool false) w := by kernel_rfl
theorem aMis (w : World) : (ReflectliteType.relation "AssignableTo" ReflectliteType.assignableTo #[.agg #[hT 94], tyV 94]).run Tryz.prog w = .ok (.bool true) w := by kernel_rfl
/-! The three assertions. -/
theorem noAs (t : Nat) (v : Value) (xT : TypeId) (w : World) (ht : t = 218 ∨ t = 92 ∨ t = 94) : (Instr.typeAssert (.iface t v) xT 159 true).run Tryz.prog w = .ok (.tuple #[.nilIface, .bool false]) w := by
  rcases ht with rfl | rfl | rfl <;> exact run_typeAssert_lacksB Tryz.underlying159 (by kernel_rfl) (by kernel_rfl) v xT w
theorem noIs (t : Nat) (v : Value) (xT : TypeId) (w : World) (ht : t = 218 ∨ t = 92 ∨ t = 94) : (Instr.typeAssert (.iface t v) xT 167 true).run Tryz.prog w = .ok (.tuple #[.nilIface, .bool false]) w := by
  rcases ht with rfl | rfl | rfl <;> exact run_typeAssert_lacksB Tryz.underlying167 (by kernel_rfl) (by kernel_rfl) v xT w
theorem noUnwrap (t : Nat) (v : Value) (xT : TypeId) (w : World) (ht : t = 218 ∨ t = 94) : (Instr.typeAssert (.iface t v) xT 162 true).run Tryz.prog w = .ok (.tuple #[.nilIface, .bool false]) w := by
  rcases ht with rfl | rfl <;> exact run_typeAssert_lacksB Tryz.underlying162 (by kernel_rfl) (by kernel_rfl) v xT w
theorem noUnwraps (t : Nat) (v : Value) (xT : TypeId) (w : World) (ht : t = 218 ∨ t = 94) : (Instr.typeAssert (.iface t v) xT 164 true).run Tryz.prog w = .ok (.tuple #[.nilIface, .bool false]) w := by
  rcases ht with rfl | rfl <;> exact run_typeAssert_lacksB Tryz.underlying164 (by kernel_rfl) (by kernel_rfl) v xT w
theorem hasUnwrap (v : Value) (xT : TypeId) (w : World) : (Instr.typeAssert (.iface 92 v) xT 162 true).run Tryz.prog w = .ok (.tuple #[.iface 92 v, .bool true]) w := run_typeAssert_hasB Tryz.underlying162 (by kernel_rfl) v xT w
theorem compPtr : (Tryz.prog.info? 218).map (·.comparable) = some true := by kernel_rfl
theorem sizeStr : (Tryz.prog.info? 239).map (·.size) = some 1 := by kernel_rfl
/-! Values of reflectlite: a pointer to a variable of missing. -/
theorem vPtr (t : Addr) (w : World) : (ReflectliteValue.unpack (.iface 96 (.pointer (some t)))).run Tryz.prog w
    = .ok (.agg #[hT 96, .pointer (some ⟨w.heap.size, 0, none⟩), .int .u64 150]) (w.alloc (.cells #[.pointer (some t)] 96)) := by kernel_rfl
theorem vMis (n : Int) (w : World) : (ReflectliteValue.unpack (.iface 94 (.agg #[.int .i64 n]))).run Tryz.prog w
    = .ok (.agg #[hT 94, .pointer (some ⟨w.heap.size, 0, none⟩), .int .u64 153]) (w.alloc (.cells #[.int .i64 n] 94)) := by kernel_rfl
theorem vType (a : Addr) (w : World) : (ReflectliteValue.methodAny (ReflectliteValue.valueError "reflectlite.Value.Type" 0) (fun t _ _ _ => ReflectliteType.toType t) #[.agg #[hT 96, .pointer (some a), .int .u64 150]]).run Tryz.prog w
    = .ok (tyV 96) w := by kernel_rfl
theorem kPtr (w : World) : ((ReflectliteType.abiMethod fun t => (fun a : Nat => Value.int IntKind.u8 (a : Int)) <$> Rtype.kind t) #[hT 96]).run Tryz.prog w = .ok (.int .u8 22) w := by kernel_rfl
theorem kMis (w : World) : ((ReflectliteType.abiMethod fun t => (fun a : Nat => Value.int IntKind.u8 (a : Int)) <$> Rtype.kind t) #[hT 94]).run Tryz.prog w = .ok (.int .u8 25) w := by kernel_rfl
theorem ePtr (w : World) : (ReflectliteType.method ReflectliteType.elem #[.agg #[hT 96]]).run Tryz.prog w = .ok (tyV 94) w := by kernel_rfl
theorem iMis (w : World) : (ReflectliteType.relation "Implements" ReflectliteType.implements_ #[.agg #[hT 94], tyV 51]).run Tryz.prog w = .ok (.bool true) w := by kernel_rfl

theorem pPtr (a : Addr) (w : World) : (ReflectliteValue.parts (.agg #[hT 96, .pointer (some a), .int .u64 150])).run Tryz.prog w = .ok (some (96, a, 150)) w := by kernel_rfl
theorem pMis (a : Addr) (w : World) : (ReflectliteValue.parts (.agg #[hT 94, .pointer (some a), .int .u64 153])).run Tryz.prog w = .ok (some (94, a, 153)) w := by kernel_rfl
theorem pVar (a : Addr) (w : World) : (ReflectliteValue.parts (.agg #[hT 94, .pointer (some a), .int .u64 409])).run Tryz.prog w = .ok (some (94, a, 409)) w := by kernel_rfl
theorem ePtr? (w : World) : (Rtype.elem? 96).run Tryz.prog w = .ok (some 94) w := by kernel_rfl
theorem mkVar (p : Addr) (w : World) : (ReflectliteValue.mk 94 p ReflectliteValue.flagAddr).run Tryz.prog w = .ok (.agg #[hT 94, .pointer (some p), .int .u64 409]) w := by kernel_rfl
theorem dMis (w : World) : (Rtype.directlyAssignable 94 94).run Tryz.prog w = .ok true w := by kernel_rfl
theorem rl_method (z : Sem Value) (f : TypeId → Addr → Nat → Nat → Sem Value) (v : Value) :
    ReflectliteValue.method z f #[v] = (ReflectliteValue.parts v >>= fun r => match r with | none => z | some (t, a, fl) => f t a fl (fl % 32)) := rfl
theorem isNil_ptr (a p : Addr) (W : World) (ha : W.cell? a = some (.pointer (some p))) :
    (ReflectliteValue.method (ReflectliteValue.valueError "reflectlite.Value.IsNil" 0) ReflectliteValue.isNil #[.agg #[hT 96, .pointer (some a), .int .u64 150]]).run Tryz.prog W = .ok (.bool false) W := by
  rw [rl_method]
  simp only [Sem.run_bind, pPtr, Result.andThen]
  simp [ReflectliteValue.isNil, loadVar, isAgg, underlying, Tryz.underlying96, ha, Result.andThen]
theorem elem_ptr (a p : Addr) (W : World) (ha : W.cell? a = some (.pointer (some p))) :
    (ReflectliteValue.method (ReflectliteValue.valueError "reflectlite.Value.Elem" 0) ReflectliteValue.elem #[.agg #[hT 96, .pointer (some a), .int .u64 150]]).run Tryz.prog W
      = .ok (.agg #[hT 94, .pointer (some p), .int .u64 409]) W := by
  rw [rl_method]
  simp only [Sem.run_bind, pPtr, Result.andThen]
  simp [ReflectliteValue.elem, loadVar, isAgg, underlying, Tryz.underlying96, ha, Result.andThen, ePtr?, mkVar]
theorem load_mis {b : Addr} {n : Int} {W : World} (hb : W.cell? b = some (.int .i64 n)) : (loadVar 94 b).run Tryz.prog W = .ok (.agg #[.int .i64 n]) W := by
  have e : b.add 0 = b := by cases b; simp [Addr.add]
  simp [loadVar, isAgg, underlying, Tryz.underlying94, loadCells, loadCellsFrom, e, hb, Result.andThen]
theorem store_mis {a : Addr} {n : Int} {old : Value} {W : World} (ha : W.cell? a = some old) (hf : W.frozen? a = false) : (storeVar 94 a (.agg #[.int .i64 n])).run Tryz.prog W = .ok () (W.setCell a (.int .i64 n)) := by
  have e : a.add 0 = a := by cases a; simp [Addr.add]
  simp [storeVar, Value.cells, storeCells, e, Result.andThen]
  rw [run_store Tryz.prog W a _ _ (by rfl)]
  simp [ha, hf]
theorem set_parts (v x : Value) : ∃ k : Option (TypeId × Addr × Nat) → Option (TypeId × Addr × Nat) → Sem Value,
    ReflectliteValue.set #[v, x] = (ReflectliteValue.parts v >>= fun p => ReflectliteValue.parts x >>= fun q => k p q) ∧
    ∀ a b n old W, W.cell? b = some (.int .i64 n) → W.cell? a = some old → W.frozen? a = false →
      (k (some (94, a, 409)) (some (94, b, 153))).run Tryz.prog W = .ok (.tuple #[]) (W.setCell a (.int .i64 n)) := by
  refine ⟨_, rfl, fun a b n old W hb ha hf => ?_⟩
  simp [ReflectliteValue.flagAddr, load_mis hb, store_mis ha hf, dMis, Result.andThen]
theorem set_var (ta b : Addr) (n : Int) (old : Value) (W : World) (hb : W.cell? b = some (.int .i64 n)) (ht : W.cell? ta = some old) (hf : W.frozen? ta = false) :
    (ReflectliteValue.set #[.agg #[hT 94, .pointer (some ta), .int .u64 409], .agg #[hT 94, .pointer (some b), .int .u64 153]]).run Tryz.prog W
      = .ok (.tuple #[]) (W.setCell ta (.int .i64 n)) := by
  obtain ⟨k, hk, hz⟩ := set_parts (.agg #[hT 94, .pointer (some ta), .int .u64 409]) (.agg #[hT 94, .pointer (some b), .int .u64 153])
  rw [hk]
  simp only [Sem.run_bind, pVar, pMis, Result.andThen]
  exact hz _ _ _ _ _ hb ht hf
end Go.Proofs.YtnefiefimpjhpaaGreatDoor
