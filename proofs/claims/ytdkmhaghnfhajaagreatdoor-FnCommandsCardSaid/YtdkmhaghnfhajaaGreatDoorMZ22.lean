/-
  How many are left, as data (chapter 8): the pods of a group, those struck out that do not run.
-/
import Derived.Test.YtdkmhaghnfhajaaGreatDoorMZ0
import Derived.WalkKit
import Derived.LaidEql
import Derived.Stop.Asserts
import Derived.RowKitTokens
import Derived.Lib.Hide
import Derived.Test.YtdkmhaghnfhajaaGreatDoorMZ8
import Derived.Test.YtdkmhaghnfhajaaGreatDoorMZ7
import Derived.ChangeVars
import Derived.LaidLaws
import Derived.LaidHandle
import Derived.OpenShut
import Derived.WalkSmall
import Derived.Maps.OwnSet
import Derived.Test.YtdkmhaghnfhajaaGreatDoorMZ3
import Derived.Test.YtdkmhaghnfhajaaGreatDoorMZ2
/- Ja -/
set_option linter.unusedVariables false
namespace Go.Proofs.YtdkmhaghnfhajaaGreatDoor
open Go.RowKit Go.Extern.Stop Go.Stop Go.Extern

/-- A reason: which of the five, or the number that there is none of. -/
inductive Why where
  | kind | often | phase | state | budget
  | missing (n : Int)
/-- A sentinel at address a. -/
abbrev sentV (a : Addr) : Value := .iface 266 (.pointer (some a))
def whyV (K O P S B : Addr) : Why → Value
  | .kind => sentV K
  | .often => sentV O
  | .phase => sentV P
  | .state => sentV S
  | .budget => sentV B
  | .missing n => .iface 161 (.agg #[.int .i64 n])
def codeW : Why → Int
  | .kind => 1
  | .often => 1
  | .phase => 3
  | .state => 4
  | .budget => 5
  | .missing _ => 2
abbrev refV (k : Int) (r : Value) : Value := .iface 159 (.agg #[.int .i64 k, r])

/-- A package variable that holds a sentinel; the sentinel's own row. -/
def Sent (w : World) (g : Nat) (a : Addr) : Prop := w.cell? ⟨g, 0, none⟩ = some (sentV a) ∧ ∃ c t, w.heap[a.block]? = some (.cells c t (0, 0))
theorem Sent.below {w w' : World} {g : Nat} {a : Addr} (h : Sent w g a) (hb : Below w.heap.size w w') : Sent w' g a := by
  obtain ⟨h1, c, t, h2⟩ := h
  refine ⟨?_, c, t, ?_⟩
  · rw [hb.cell (p := ⟨g, 0, none⟩) (block_lt_of_cell h1)]; exact h1
  · rw [hb.block _ (Array.getElem?_eq_some_iff.1 h2).1]; exact h2
/-- The five sentinels, and the handle of the type error. -/
structure Errs (w : World) (K O P S B : Addr) : Prop where
  k : Sent w 4 K
  o : Sent w 6 O
  p : Sent w 0 P
  s : Sent w 1 S
  b : Sent w 2 B
  et : w.cell? ⟨5, 0, none⟩ = some (.iface 223 (.agg #[.pointer (some ⟨7, 110, none⟩)]))
  ne : (K ≠ P ∧ O ≠ P ∧ S ≠ P ∧ B ≠ P) ∧ (K ≠ S ∧ O ≠ S ∧ P ≠ S ∧ B ≠ S) ∧ (K ≠ B ∧ O ≠ B ∧ P ≠ B ∧ S ≠ B)
theorem Errs.below {w w' : World} {K O P S B : Addr} (h : Errs w K O P S B) (hb : Below w.heap.size w w') : Errs w' K O P S B :=
  ⟨h.k.below hb, h.o.below hb, h.p.below hb, h.s.below hb, h.b.below hb, by rw [hb.cell (p := ⟨5, 0, none⟩) (block_lt_of_cell h.et)]; exact h.et, h.ne⟩

/-! What the runtime's tables say, at this translation's numbers. -/
theorem mDepth (h : Value) (w : World) : (Go.method 398 223 (.agg #[h]) "Kind").run Tryz.prog w = .ok (270, h) w := by kernel_rfl
theorem mElem (h : Value) (w : World) : (Go.method 398 223 (.agg #[h]) "Elem").run Tryz.prog w = .ok (287, .agg #[h]) w := by kernel_rfl
theorem mImpl (h : Value) (w : World) : (Go.method 398 223 (.agg #[h]) "Implements").run Tryz.prog w = .ok (288, .agg #[h]) w := by kernel_rfl
theorem mAssg (h : Value) (w : World) : (Go.method 398 223 (.agg #[h]) "AssignableTo").run Tryz.prog w = .ok (285, .agg #[h]) w := by kernel_rfl
theorem mComp (h : Value) (w : World) : (Go.method 398 223 (.agg #[h]) "Comparable").run Tryz.prog w = .ok (286, .agg #[h]) w := by kernel_rfl
theorem mUnwrap (k : Int) (r : Value) (w : World) : (Go.method 398 159 (.agg #[.int .i64 k, r]) "Unwrap").run Tryz.prog w = .ok (279, .agg #[.int .i64 k, r]) w := by kernel_rfl
/-- The handle of a type. -/
abbrev hT (t : Nat) : Value := .pointer (some ⟨7, t, none⟩)
abbrev tyV (t : Nat) : Value := .iface 223 (.agg #[hT t])
theorem tPtr (v : Value) (w : World) : (ReflectliteType.typeOf #[.iface 266 v]).run Tryz.prog w = .ok (tyV 266) w := by kernel_rfl
theorem tRef (v : Value) (w : World) : (ReflectliteType.typeOf #[.iface 159 v]).run Tryz.prog w = .ok (tyV 159) w := by kernel_rfl
theorem tMis (v : Value) (w : World) : (ReflectliteType.typeOf #[.iface 161 v]).run Tryz.prog w = .ok (tyV 161) w := by kernel_rfl
/-- The model's entry for (rtype).Comparable, by a name that stays shut. -/
noncomputable def compE : Array Value → Sem Value := ReflectliteType.method fun t => do Rtype.noPackHeld "Comparable" t; pure (.bool (← typeInfo t).comparable)
theorem cPtr (w : World) : (compE #[.agg #[hT 266]]).run Tryz.prog w = .ok (.bool true) w := by kernel_rfl
theorem aPtr (w : World) : (ReflectliteType.relation "AssignableTo" ReflectliteType.assignableTo #[.agg #[hT 266], tyV 161]).run Tryz.prog w = .ok (.bool false) w := by kernel_rfl
theorem aRef (w : World) : (ReflectliteType.relation "AssignableTo" ReflectliteType.assignableTo #[.agg #[hT 159], tyV 161]).run Tryz.prog w = .ok (.bool false) w := by kernel_rfl
theorem aMis (w : World) : (ReflectliteType.relation "AssignableTo" ReflectliteType.assignableTo #[.agg #[hT 161], tyV 161]).run Tryz.prog w = .ok (.bool true) w := by kernel_rfl
/-! The three assertions. -/
theorem noAs (t : Nat) (v : Value) (xT : TypeId) (w : World) (ht : t = 266 ∨ t = 159 ∨ t = 161) : (Instr.typeAssert (.iface t v) xT 227 true).run Tryz.prog w = .ok (.tuple #[.nilIface, .bool false]) w := by
  rcases ht with rfl | rfl | rfl <;> exact run_typeAssert_lacksB Tryz.underlying227 (by kernel_rfl) (by kernel_rfl) v xT w
theorem noIs (t : Nat) (v : Value) (xT : TypeId) (w : World) (ht : t = 266 ∨ t = 159 ∨ t = 161) : (Instr.typeAssert (.iface t v) xT 235 true).run Tryz.prog w = .ok (.tuple #[.nilIface, .bool false]) w := by
  rcases ht with rfl | rfl | rfl <;> exact run_typeAssert_lacksB Tryz.underlying235 (by kernel_rfl) (by kernel_rfl) v xT w
theorem noUnwrap (t : Nat) (v : Value) (xT : TypeId) (w : World) (ht : t = 266 ∨ t = 161) : (Instr.typeAssert (.iface t v) xT 230 true).run Tryz.prog w = .ok (.tuple #[.nilIface, .bool false]) w := by
  rcases ht with rfl | rfl <;> exact run_typeAssert_lacksB Tryz.underlying230 (by kernel_rfl) (by kernel_rfl) v xT w
theorem noUnwraps (t : Nat) (v : Value) (xT : TypeId) (w : World) (ht : t = 266 ∨ t = 161) : (Instr.typeAssert (.iface t v) xT 232 true).run Tryz.prog w = .ok (.tuple #[.nilIface, .bool false]) w := by
  rcases ht with rfl | rfl <;> exact run_typeAssert_lacksB Tryz.underlying232 (by kernel_rfl) (by kernel_rfl) v xT w
theorem hasUnwrap (v : Value) (xT : TypeId) (w : World) : (Instr.typeAssert (.iface 159 v) xT 230 true).run Tryz.prog w = .ok (.tuple #[.iface 159 v, .bool true]) w := run_typeAssert_hasB Tryz.underlying230 (by kernel_rfl) v xT w
theorem compPtr : (Tryz.prog.info? 266).map (·.comparable) = some true := by kernel_rfl
theorem sizeStr : (Tryz.prog.info? 286).map (·.size) = some 1 := by kernel_rfl
/-! Values of reflectlite: a pointer to a variable of missing. -/
theorem vPtr (t : Addr) (w : World) : (ReflectliteValue.unpack (.iface 163 (.pointer (some t)))).run Tryz.prog w
    = .ok (.agg #[hT 163, .pointer (some ⟨w.heap.size, 0, none⟩), .int .u64 150]) (w.alloc (.cells #[.pointer (some t)] 163)) := by kernel_rfl
theorem vMis (n : Int) (w : World) : (ReflectliteValue.unpack (.iface 161 (.agg #[.int .i64 n]))).run Tryz.prog w
    = .ok (.agg #[hT 161, .pointer (some ⟨w.heap.size, 0, none⟩), .int .u64 153]) (w.alloc (.cells #[.int .i64 n] 161)) := by kernel_rfl
theorem vType (a : Addr) (w : World) : (ReflectliteValue.methodAny (ReflectliteValue.valueError "reflectlite.Value.Type" 0) (fun t _ _ _ => ReflectliteType.toType t) #[.agg #[hT 163, .pointer (some a), .int .u64 150]]).run Tryz.prog w
    = .ok (tyV 163) w := by kernel_rfl
theorem kPtr (w : World) : ((ReflectliteType.abiMethod fun t => (fun a : Nat => Value.int IntKind.u8 (a : Int)) <$> Rtype.kind t) #[hT 163]).run Tryz.prog w = .ok (.int .u8 22) w := by kernel_rfl
theorem kMis (w : World) : ((ReflectliteType.abiMethod fun t => (fun a : Nat => Value.int IntKind.u8 (a : Int)) <$> Rtype.kind t) #[hT 161]).run Tryz.prog w = .ok (.int .u8 25) w := by kernel_rfl
theorem ePtr (w : World) : (ReflectliteType.method ReflectliteType.elem #[.agg #[hT 163]]).run Tryz.prog w = .ok (tyV 161) w := by kernel_rfl
theorem iMis (w : World) : (ReflectliteType.relation "Implements" ReflectliteType.implements_ #[.agg #[hT 161], tyV 110]).run Tryz.prog w = .ok (.bool true) w := by kernel_rfl

theorem pPtr (a : Addr) (w : World) : (ReflectliteValue.parts (.agg #[hT 163, .pointer (some a), .int .u64 150])).run Tryz.prog w = .ok (some (163, a, 150)) w := by kernel_rfl
theorem pMis (a : Addr) (w : World) : (ReflectliteValue.parts (.agg #[hT 161, .pointer (some a), .int .u64 153])).run Tryz.prog w = .ok (some (161, a, 153)) w := by kernel_rfl
theorem pVar (a : Addr) (w : World) : (ReflectliteValue.parts (.agg #[hT 161, .pointer (some a), .int .u64 409])).run Tryz.prog w = .ok (some (161, a, 409)) w := by kernel_rfl
theorem ePtr? (w : World) : (Rtype.elem? 163).run Tryz.prog w = .ok (some 161) w := by kernel_rfl
theorem mkVar (p : Addr) (w : World) : (ReflectliteValue.mk 161 p ReflectliteValue.flagAddr).run Tryz.prog w = .ok (.agg #[hT 161, .pointer (some p), .int .u64 409]) w := by kernel_rfl
theorem dMis (w : World) : (Rtype.directlyAssignable 161 161).run Tryz.prog w = .ok true w := by kernel_rfl
theorem rl_method (z : Sem Value) (f : TypeId → Addr → Nat → Nat → Sem Value) (v : Value) :
    ReflectliteValue.method z f #[v] = (ReflectliteValue.parts v >>= fun r => match r with | none => z | some (t, a, fl) => f t a fl (fl % 32)) := rfl
theorem isNil_ptr (a p : Addr) (W : World) (ha : W.cell? a = some (.pointer (some p))) :
    (ReflectliteValue.method (ReflectliteValue.valueError "reflectlite.Value.IsNil" 0) ReflectliteValue.isNil #[.agg #[hT 163, .pointer (some a), .int .u64 150]]).run Tryz.prog W = .ok (.bool false) W := by
  rw [rl_method]
  simp only [Sem.run_bind, pPtr, Result.andThen]
  simp [ReflectliteValue.isNil, loadVar, isAgg, underlying, Tryz.underlying163, ha, Result.andThen]
theorem elem_ptr (a p : Addr) (W : World) (ha : W.cell? a = some (.pointer (some p))) :
    (ReflectliteValue.method (ReflectliteValue.valueError "reflectlite.Value.Elem" 0) ReflectliteValue.elem #[.agg #[hT 163, .pointer (some a), .int .u64 150]]).run Tryz.prog W
      = .ok (.agg #[hT 161, .pointer (some p), .int .u64 409]) W := by
  rw [rl_method]
  simp only [Sem.run_bind, pPtr, Result.andThen]
  simp [ReflectliteValue.elem, loadVar, isAgg, underlying, Tryz.underlying163, ha, Result.andThen, ePtr?, mkVar]
theorem load_mis {b : Addr} {n : Int} {W : World} (hb : W.cell? b = some (.int .i64 n)) : (loadVar 161 b).run Tryz.prog W = .ok (.agg #[.int .i64 n]) W := by
  have e : b.add 0 = b := by cases b; simp [Addr.add]
  simp [loadVar, isAgg, underlying, Tryz.underlying161, loadCells, loadCellsFrom, e, hb, Result.andThen]
theorem store_mis {a : Addr} {n : Int} {old : Value} {W : World} (ha : W.cell? a = some old) (hf : W.frozen? a = false) : (storeVar 161 a (.agg #[.int .i64 n])).run Tryz.prog W = .ok () (W.setCell a (.int .i64 n)) := by
  have e : a.add 0 = a := by cases a; simp [Addr.add]
  simp [storeVar, Value.cells, storeCells, e, Result.andThen]
  rw [run_store Tryz.prog W a _ _ (by rfl)]
  simp [ha, hf]
theorem set_parts (v x : Value) : ∃ k : Option (TypeId × Addr × Nat) → Option (TypeId × Addr × Nat) → Sem Value,
    ReflectliteValue.set #[v, x] = (ReflectliteValue.parts v >>= fun p => ReflectliteValue.parts x >>= fun q => k p q) ∧
    ∀ a b n old W, W.cell? b = some (.int .i64 n) → W.cell? a = some old → W.frozen? a = false →
      (k (some (161, a, 409)) (some (161, b, 153))).run Tryz.prog W = .ok (.tuple #[]) (W.setCell a (.int .i64 n)) := by
  refine ⟨_, rfl, fun a b n old W hb ha hf => ?_⟩
  simp [ReflectliteValue.flagAddr, load_mis hb, store_mis ha hf, dMis, Result.andThen]
theorem set_var (ta b : Addr) (n : Int) (old : Value) (W : World) (hb : W.cell? b = some (.int .i64 n)) (ht : W.cell? ta = some old) (hf : W.frozen? ta = false) :
    (ReflectliteValue.set #[.agg #[hT 161, .pointer (some ta), .int .u64 409], .agg #[hT 161, .pointer (some b), .int .u64 153]]).run Tryz.prog W
      = .ok (.tuple #[]) (W.setCell ta (.int .i64 n)) := by
  obtain ⟨k, hk, hz⟩ := set_parts (.agg #[hT 161, .pointer (some ta), .int .u64 409]) (.agg #[hT 161, .pointer (some b), .int .u64 153])
  rw [hk]
  simp only [Sem.run_bind, pVar, pMis, Result.andThen]
  exact hz _ _ _ _ _ hb ht hf
end Go.Proofs.YtdkmhaghnfhajaaGreatDoor
/- Jc -/
set_option linter.unusedVariables false
namespace Go.Proofs.YtdkmhaghnfhajaaGreatDoor
open Go.RowKit

theorem index_any (L : List Int) (A : Option Addr) (c : Nat) (a : Int) (w : World) (h : SlV w w.heap.size 1 A L.length (lkCs L)) (hl : L.length ≤ maxLen) :
    Calls Tryz.prog 228 #[.slice A L.length c, .int .i64 a] w fun e w' => (∃ k : Nat, e = .returned (.int .i64 k) ∧ k ≤ 9223372036854775807 ∧ L.contains a = true ∨ e = .returned (.int .i64 (-1)) ∧ L.contains a = false) ∧ w = w' := by
  unfold maxLen at hl
  have H := Lib.hid h
  clear h
  obtain ⟨ans, hans⟩ : ∃ ans, L.contains a = ans := ⟨_, rfl⟩
  rw [hans]
  have HANS := Lib.hid hans
  clear hans
  go_enter Tryz.func228, Tryz.ntmps228
  go_wp2_with fail
  go_loopw [8] (fun j wr => ∃ k : Nat, k ≤ L.length ∧ j = .int .i64 k ∧ (∀ j, j < k → lkA L j ≠ a) ∧ w = wr) (fun j _ => L.length - (intOf j).toNat)
  case atStart => exact ⟨0, Nat.zero_le _, rfl, fun j hj => absurd hj (by omega), rfl⟩
  case round =>
    obtain ⟨k, hk, rfl, hall, rfl⟩ := hrel
    have HALL := Lib.hid hall
    clear hall
    by_cases hlt : k < L.length
    · obtain ⟨b', off', rfl, hb', hc⟩ := H.out.cell hlt
      have p0 := (hc 0 (by decide)).trans (lkCs_at L (i := k * 1 + 0) (by omega))
      rw [Nat.add_zero, Nat.mul_one] at p0
      clear hc
      have HYES : Hid (lkA L k = a → ans = true) := Lib.hid fun h => by rw [← HANS.out]; exact contains_at hlt h
      have HNO : Hid (lkA L k ≠ a → ∀ j, j < k + 1 → lkA L j ≠ a) := Lib.hid fun h j hj => by
        by_cases e : j = k
        · rw [e]; exact h
        · exact HALL.out j (by omega)
      generalize lkA L k = x at p0 HYES HNO
      cases hx : (a == x)
      · have HX : Hid (x ≠ a) := Lib.hid (by intro e; rw [e] at hx; simp at hx)
        go_wp2
        refine ⟨⟨k + 1, by omega, by go_num, HNO.out HX.out, by trivial⟩, by simp [intOf]; omega⟩
      · have HX : Hid (x = a) := Lib.hid (by have h : a = x := by simpa using hx
                                             exact h.symm)
        go_wp2
        all_goals (go_ret; exact ⟨⟨k, .inl ⟨rfl, by omega, HYES.out HX.out⟩⟩, rfl⟩)
    · obtain rfl : k = L.length := by omega
      go_wp2
      all_goals (go_ret; exact ⟨⟨0, .inr ⟨rfl, by rw [← HANS.out, contains_no HALL.out]⟩⟩, rfl⟩)
theorem contains_any (L : List Int) (A : Option Addr) (c : Nat) (a : Int) (w : World) (h : SlV w w.heap.size 1 A L.length (lkCs L)) (hl : L.length ≤ maxLen) :
    Calls Tryz.prog 217 #[.slice A L.length c, .int .i64 a] w fun e w' => e = .returned (.bool (L.contains a)) ∧ w = w' := by
  have H := Lib.hid h
  clear h
  obtain ⟨ans, hans⟩ : ∃ ans, L.contains a = ans := ⟨_, rfl⟩
  rw [hans]
  have HANS := Lib.hid hans
  clear hans
  go_enter Tryz.func217, Tryz.ntmps217
  go_wp2_with fail
  refine (index_any L A c a w H.out hl).mono ?_
  rw [HANS.out]
  rintro e w1 ⟨⟨k, ⟨rfl, hk, hc⟩ | ⟨rfl, hc⟩⟩, rfl⟩
  · have HC := Lib.hid hc
    clear hc
    go_wp2
    all_goals (go_ret; exact ⟨by rw [HC.out]; rfl, rfl⟩)
  · have HC := Lib.hid hc
    clear hc
    go_wp2
    all_goals (go_ret; exact ⟨by rw [HC.out]; rfl, rfl⟩)
end Go.Proofs.YtdkmhaghnfhajaaGreatDoor
/- Je -/
set_option linter.unusedVariables false
namespace Go.Proofs.YtdkmhaghnfhajaaGreatDoor
open Go.RowKit Go.Extern.Stop Go.Stop Go.Extern

theorem unwrapE_any (k : Int) (r : Value) (w : World) :
    Calls Tryz.prog 279 #[.agg #[.int .i64 k, r]] w fun e w' => e = .returned r ∧ w' = w.alloc (.cells #[.int .i64 k, r] 159) := by
  go_enter Tryz.func279, Tryz.ntmps279
  go_wp2
  go_ret
  exact ⟨rfl, rfl⟩

set_option maxRecDepth 10000 in
set_option maxHeartbeats 4000000 in
theorem is_same (k : Int) (b : Addr) (w : World) :
    Calls Tryz.prog 189 #[refV k (sentV b), sentV b, .bool true] w fun e w' => e = .returned (.bool true) ∧ Below w.heap.size w w' := by
  obtain ⟨i, hi, hcmp⟩ := Option.map_eq_some_iff.1 compPtr
  obtain ⟨j, hj, hjs⟩ := Option.map_eq_some_iff.1 sizeStr
  have n2 := fun v xT w => noIs 159 v xT w (.inr (.inl rfl))
  have u3 := hasUnwrap
  have mU := mUnwrap
  have q0 := fun w => run_eql_iface_types (P := Tryz.prog) 159 266 (.agg #[.int .i64 k, (sentV b)]) (.pointer (some b)) Tryz.underlying110 (by decide) w
  have hs : (w.alloc (.cells #[.int .i64 k, sentV b] 159)).heap.size = w.heap.size + 1 := by simp
  clear hs
  have q1 := run_eql_iface_ptr_same (P := Tryz.prog) (w.alloc (.cells #[.int .i64 k, sentV b] 159)) b Tryz.underlying110 Tryz.underlying266 hi hcmp hj
  go_enter Tryz.func189, Tryz.ntmps189
  go_wp2
  refine wp_loop_rounds 2 ?_
  rw [rounds_succ]
  go_wp2_with (go_at_call 279; refine (unwrapE_any _ _ _).mono ?_; rintro e w' ⟨rfl, rfl⟩)
  rw [rounds_succ]
  go_wp2
  go_ret
  exact ⟨rfl, (Below.refl _ _).alloc (Nat.le_refl _) _⟩

theorem Is_same (k : Int) (b : Addr) (w : World) :
    Calls Tryz.prog 142 #[refV k (sentV b), sentV b] w fun e w' => e = .returned (.bool true) ∧ Below w.heap.size w w' := by
  have hT1 := @run_callFunc_extern Tryz.prog 188 _ ReflectliteType.typeOf Tryz.func188 (by kernel_rfl) (by kernel_rfl) (by kernel_rfl) (by kernel_rfl)
  have hC1 := @run_callFunc_extern Tryz.prog 286 _ compE Tryz.func286 (by kernel_rfl) (by kernel_rfl) (by kernel_rfl) (by kernel_rfl)
  have t1 := tPtr
  have c1 := cPtr
  have mC := mComp
  go_enter Tryz.func142, Tryz.ntmps142
  go_wp2_with fail
  refine (is_same k b w).mono ?_
  rintro e w3 ⟨rfl, hb⟩
  go_wp2
  go_ret
  exact ⟨rfl, hb⟩

set_option maxRecDepth 10000 in
set_option maxHeartbeats 4000000 in
theorem is_other (k : Int) (a b : Addr) (w : World) (hne : a ≠ b) (ha : ∃ c t, w.heap[a.block]? = some (.cells c t (0, 0))) (hb : ∃ c t, w.heap[b.block]? = some (.cells c t (0, 0))) :
    Calls Tryz.prog 189 #[refV k (sentV a), sentV b, .bool true] w fun e w' => e = .returned (.bool false) ∧ Below w.heap.size w w' := by
  obtain ⟨i, hi, hcmp⟩ := Option.map_eq_some_iff.1 compPtr
  obtain ⟨j, hj, hjs⟩ := Option.map_eq_some_iff.1 sizeStr
  have n2 := fun v xT w => noIs 159 v xT w (.inr (.inl rfl))
  have u3 := hasUnwrap
  have mU := mUnwrap
  have q0 := fun w => run_eql_iface_types (P := Tryz.prog) 159 266 (.agg #[.int .i64 k, (sentV a)]) (.pointer (some b)) Tryz.underlying110 (by decide) w
  have K1 : Below w.heap.size w (w.alloc (.cells #[.int .i64 k, sentV a] 159)) := (Below.refl _ _).alloc (Nat.le_refl _) _
  obtain ⟨ca, ta, ha⟩ := ha
  obtain ⟨cb, tb, hb⟩ := hb
  have q1 := run_eql_iface_ptr_other (P := Tryz.prog) (w.alloc (.cells #[.int .i64 k, sentV a] 159)) Tryz.underlying110 Tryz.underlying266 hi hcmp hj (by rw [hjs]; decide) hne ((K1.block _ (Array.getElem?_eq_some_iff.1 ha).1).trans ha) ((K1.block _ (Array.getElem?_eq_some_iff.1 hb).1).trans hb)
  have n1 := fun v xT w => noIs 266 v xT w (.inl rfl)
  have u1 := fun v xT w => noUnwrap 266 v xT w (.inl rfl)
  have u2 := fun v xT w => noUnwraps 266 v xT w (.inl rfl)
  clear ha hb K1
  go_enter Tryz.func189, Tryz.ntmps189
  go_wp2
  refine wp_loop_rounds 2 ?_
  rw [rounds_succ]
  go_wp2_with (go_at_call 279; refine (unwrapE_any _ _ _).mono ?_; rintro e w' ⟨rfl, rfl⟩)
  rw [rounds_succ]
  go_wp2
  go_ret
  exact ⟨rfl, (Below.refl _ _).alloc (Nat.le_refl _) _⟩

theorem Is_other (k : Int) (a b : Addr) (w : World) (hne : a ≠ b) (ha : ∃ c t, w.heap[a.block]? = some (.cells c t (0, 0))) (hb : ∃ c t, w.heap[b.block]? = some (.cells c t (0, 0))) :
    Calls Tryz.prog 142 #[refV k (sentV a), sentV b] w fun e w' => e = .returned (.bool false) ∧ Below w.heap.size w w' := by
  have hT1 := @run_callFunc_extern Tryz.prog 188 _ ReflectliteType.typeOf Tryz.func188 (by kernel_rfl) (by kernel_rfl) (by kernel_rfl) (by kernel_rfl)
  have hC1 := @run_callFunc_extern Tryz.prog 286 _ compE Tryz.func286 (by kernel_rfl) (by kernel_rfl) (by kernel_rfl) (by kernel_rfl)
  have t1 := tPtr
  have c1 := cPtr
  have mC := mComp
  go_enter Tryz.func142, Tryz.ntmps142
  go_wp2_with fail
  refine (is_other k a b w hne ha hb).mono ?_
  rintro e w3 ⟨rfl, hb⟩
  go_wp2
  go_ret
  exact ⟨rfl, hb⟩
end Go.Proofs.YtdkmhaghnfhajaaGreatDoor
/- Jlb -/
set_option linter.unusedVariables false
namespace Go.Proofs.YtdkmhaghnfhajaaGreatDoor
open Go.ChangeShapes Go.WideShapes Go.ChangeAt Go.RowKit Go.Deep

theorem globalKind : Tryz.prog.globalNamed "loop.example/g00767/impl.errKind" = some 4 := by kernel_rfl
theorem typeKind : (Tryz.prog.globals[4]?).map (·.type) = some 110 := by kernel_rfl
theorem globalOften : Tryz.prog.globalNamed "loop.example/g00767/impl.errOften" = some 6 := by kernel_rfl
theorem typeOften : (Tryz.prog.globals[6]?).map (·.type) = some 110 := by kernel_rfl
theorem globalPhase : Tryz.prog.globalNamed "loop.example/g00767/impl.errPhase" = some 0 := by kernel_rfl
theorem typePhase : (Tryz.prog.globals[0]?).map (·.type) = some 110 := by kernel_rfl
theorem globalState : Tryz.prog.globalNamed "loop.example/g00767/impl.errState" = some 1 := by kernel_rfl
theorem typeState : (Tryz.prog.globals[1]?).map (·.type) = some 110 := by kernel_rfl
theorem globalBudget : Tryz.prog.globalNamed "loop.example/g00767/impl.errBudget" = some 2 := by kernel_rfl
theorem typeBudget : (Tryz.prog.globals[2]?).map (·.type) = some 110 := by kernel_rfl
theorem globalType : Tryz.prog.globalNamed "errors.errorType" = some 5 := by kernel_rfl
set_option maxRecDepth 100000 in
theorem rowPtr (u : TypeId) (h : Tryz.prog.typeName? 3 u = some "*errors.errorString") : u = 266 :=
  typeName_ptr_named (nm := "errors.errorString") (by kernel_rfl) (by kernel_rfl) (by decide) u h
theorem cellsE : Tryz.prog.cellsOf 286 = 1 := by kernel_rfl
theorem cellsS : Tryz.prog.cellsOf 9 = 1 := by kernel_rfl
theorem rtypeRow : (Tryz.prog.cutTypes.find? (·.1 == "internal/reflectlite.rtype")).map (·.2) = some 223 := by kernel_rfl
theorem errorRows : ((List.range 298).filter fun t => Tryz.prog.rowNamed t [101, 114, 114, 111, 114]) = [110] := by kernel_rfl
theorem typesSize : Tryz.prog.types.size = 298 := by kernel_rfl

theorem handle_cell {W : World} (h : handlesMet Tryz.prog [("errors.errorType", Rows.laid_errors_errorType)] W) : W.cell? ⟨5, 0, none⟩ = some (.iface 223 (.agg #[.pointer (some ⟨7, 110, none⟩)])) := by
  obtain ⟨name, u, ty, e1, e2, e3, e4, e5⟩ := h _ (List.mem_singleton.2 rfl)
  obtain rfl : [101, 114, 114, 111, 114] = name := Option.some.inj e1
  obtain rfl := Option.some.inj (rtypeRow.symm.trans e2)
  have hm : ty ∈ (List.range 298).filter fun t => Tryz.prog.rowNamed t [101, 114, 114, 111, 114] := List.mem_filter.2 ⟨List.mem_range.2 (by rw [← typesSize]; exact e3), e4⟩
  rw [errorRows] at hm
  obtain rfl := List.mem_singleton.1 hm
  rw [show typeHandle Tryz.prog 110 = .pointer (some ⟨7, 110, none⟩) by kernel_rfl] at e5
  simpa using World.var?_cell globalType e5 0

set_option maxRecDepth 100000 in
set_option maxHeartbeats 2000000 in
theorem errs_of {W : World} (h : laidMet Tryz.prog [("loop.example/g00767/impl.errKind", Rows.laid_loop_example_g00767_impl_errKind), ("loop.example/g00767/impl.errOften", Rows.laid_loop_example_g00767_impl_errOften), ("loop.example/g00767/impl.errPhase", Rows.laid_loop_example_g00767_impl_errPhase), ("loop.example/g00767/impl.errState", Rows.laid_loop_example_g00767_impl_errState), ("loop.example/g00767/impl.errBudget", Rows.laid_loop_example_g00767_impl_errBudget)] W) (he : handlesMet Tryz.prog [("errors.errorType", Rows.laid_errors_errorType)] W) : ∃ K O P S B, Errs W K O P S B := by
  obtain ⟨ps, ⟨g0, t0, cs0, f0, p0, q0, hg0, ht0, hv0, hd0, ⟨g1, t1, cs1, f1, p1, q1, hg1, ht1, hv1, hd1, ⟨g2, t2, cs2, f2, p2, q2, hg2, ht2, hv2, hd2, ⟨g3, t3, cs3, f3, p3, q3, hg3, ht3, hv3, hd3, ⟨g4, t4, cs4, f4, p4, q4, hg4, ht4, hv4, hd4, _, e4⟩, e3⟩, e2⟩, e1⟩, e0⟩, hnd, hrows⟩ := h
  subst e4
  subst e3
  subst e2
  subst e1
  subst e0
  obtain rfl := Option.some.inj (globalKind.symm.trans hg0)
  obtain rfl := Option.some.inj (typeKind.symm.trans ht0)
  obtain ⟨l0⟩ := cs0
  have ok0 : ∀ u v, l0 = [.iface u v] → Value.okWide Tryz.prog W .any 0 u v := fun u v e => by
    subst e
    exact (hrows 4 0 (by simp [MemPlace.row])).2 u v (by simpa using World.var?_cell hg0 hv0 0)
  obtain rfl := Option.some.inj (globalOften.symm.trans hg1)
  obtain rfl := Option.some.inj (typeOften.symm.trans ht1)
  obtain ⟨l1⟩ := cs1
  have ok1 : ∀ u v, l1 = [.iface u v] → Value.okWide Tryz.prog W .any 0 u v := fun u v e => by
    subst e
    exact (hrows 6 0 (by simp [MemPlace.row])).2 u v (by simpa using World.var?_cell hg1 hv1 0)
  obtain rfl := Option.some.inj (globalPhase.symm.trans hg2)
  obtain rfl := Option.some.inj (typePhase.symm.trans ht2)
  obtain ⟨l2⟩ := cs2
  have ok2 : ∀ u v, l2 = [.iface u v] → Value.okWide Tryz.prog W .any 0 u v := fun u v e => by
    subst e
    exact (hrows 0 0 (by simp [MemPlace.row])).2 u v (by simpa using World.var?_cell hg2 hv2 0)
  obtain rfl := Option.some.inj (globalState.symm.trans hg3)
  obtain rfl := Option.some.inj (typeState.symm.trans ht3)
  obtain ⟨l3⟩ := cs3
  have ok3 : ∀ u v, l3 = [.iface u v] → Value.okWide Tryz.prog W .any 0 u v := fun u v e => by
    subst e
    exact (hrows 1 0 (by simp [MemPlace.row])).2 u v (by simpa using World.var?_cell hg3 hv3 0)
  obtain rfl := Option.some.inj (globalBudget.symm.trans hg4)
  obtain rfl := Option.some.inj (typeBudget.symm.trans ht4)
  obtain ⟨l4⟩ := cs4
  have ok4 : ∀ u v, l4 = [.iface u v] → Value.okWide Tryz.prog W .any 0 u v := fun u v e => by
    subst e
    exact (hrows 2 0 (by simp [MemPlace.row])).2 u v (by simpa using World.var?_cell hg4 hv4 0)
  obtain ⟨a0, s0, rfl, -, -, -, rfl⟩ := errorString_of_trod (text := _) Tryz.underlying110 rowPtr Tryz.underlying266 Tryz.underlying286 rfl rfl Tryz.underlying9 cellsE cellsS hd0 ok0
  obtain ⟨a1, s1, rfl, -, -, -, rfl⟩ := errorString_of_trod (text := _) Tryz.underlying110 rowPtr Tryz.underlying266 Tryz.underlying286 rfl rfl Tryz.underlying9 cellsE cellsS hd1 ok1
  obtain ⟨a2, s2, rfl, -, -, -, rfl⟩ := errorString_of_trod (text := _) Tryz.underlying110 rowPtr Tryz.underlying266 Tryz.underlying286 rfl rfl Tryz.underlying9 cellsE cellsS hd2 ok2
  obtain ⟨a3, s3, rfl, -, -, -, rfl⟩ := errorString_of_trod (text := _) Tryz.underlying110 rowPtr Tryz.underlying266 Tryz.underlying286 rfl rfl Tryz.underlying9 cellsE cellsS hd3 ok3
  obtain ⟨a4, s4, rfl, -, -, -, rfl⟩ := errorString_of_trod (text := _) Tryz.underlying110 rowPtr Tryz.underlying266 Tryz.underlying286 rfl rfl Tryz.underlying9 cellsE cellsS hd4 ok4
  have b0 := (hrows a0.block a0.off (by simp [MemPlace.row])).1
  have b1 := (hrows a1.block a1.off (by simp [MemPlace.row])).1
  have b2 := (hrows a2.block a2.off (by simp [MemPlace.row])).1
  have b3 := (hrows a3.block a3.off (by simp [MemPlace.row])).1
  have b4 := (hrows a4.block a4.off (by simp [MemPlace.row])).1
  have n01 : a0 ≠ a1 := by
    rintro rfl
    simp [MemPlace.row] at hnd
  have n02 : a0 ≠ a2 := by
    rintro rfl
    simp [MemPlace.row] at hnd
  have n03 : a0 ≠ a3 := by
    rintro rfl
    simp [MemPlace.row] at hnd
  have n04 : a0 ≠ a4 := by
    rintro rfl
    simp [MemPlace.row] at hnd
  have n12 : a1 ≠ a2 := by
    rintro rfl
    simp [MemPlace.row] at hnd
  have n13 : a1 ≠ a3 := by
    rintro rfl
    simp [MemPlace.row] at hnd
  have n14 : a1 ≠ a4 := by
    rintro rfl
    simp [MemPlace.row] at hnd
  have n23 : a2 ≠ a3 := by
    rintro rfl
    simp [MemPlace.row] at hnd
  have n24 : a2 ≠ a4 := by
    rintro rfl
    simp [MemPlace.row] at hnd
  have n34 : a3 ≠ a4 := by
    rintro rfl
    simp [MemPlace.row] at hnd
  exact ⟨a0, a1, a2, a3, a4, ⟨by simpa using World.var?_cell hg0 hv0 0, b0⟩, ⟨by simpa using World.var?_cell hg1 hv1 0, b1⟩, ⟨by simpa using World.var?_cell hg2 hv2 0, b2⟩, ⟨by simpa using World.var?_cell hg3 hv3 0, b3⟩, ⟨by simpa using World.var?_cell hg4 hv4 0, b4⟩, handle_cell he, ⟨n02, n12, n23.symm, n24.symm⟩, ⟨n03, n13, n23, n34.symm⟩, ⟨n04, n14, n24, n34⟩⟩

theorem errs_of_laid {W : World} (h : laidMetH Tryz.prog [("errors.errorType", Rows.laid_errors_errorType), ("loop.example/g00767/impl.kindNames", namesLaid), ("loop.example/g00767/impl.errKind", Rows.laid_loop_example_g00767_impl_errKind), ("loop.example/g00767/impl.errOften", Rows.laid_loop_example_g00767_impl_errOften), ("loop.example/g00767/impl.errPhase", Rows.laid_loop_example_g00767_impl_errPhase), ("loop.example/g00767/impl.errState", Rows.laid_loop_example_g00767_impl_errState), ("loop.example/g00767/impl.errBudget", Rows.laid_loop_example_g00767_impl_errBudget)] W) : ∃ K O P S B, Errs W K O P S B := by
  have h' : laidMet Tryz.prog [("loop.example/g00767/impl.kindNames", namesLaid), ("loop.example/g00767/impl.errKind", Rows.laid_loop_example_g00767_impl_errKind), ("loop.example/g00767/impl.errOften", Rows.laid_loop_example_g00767_impl_errOften), ("loop.example/g00767/impl.errPhase", Rows.laid_loop_example_g00767_impl_errPhase), ("loop.example/g00767/impl.errState", Rows.laid_loop_example_g00767_impl_errState), ("loop.example/g00767/impl.errBudget", Rows.laid_loop_example_g00767_impl_errBudget)] W ∧ handlesMet Tryz.prog [("errors.errorType", Rows.laid_errors_errorType)] W := h
  obtain ⟨⟨ps, ⟨_, _, _, _, p, q, _, _, _, _, hq, rfl⟩, hnd, hrows⟩, he⟩ := h'
  exact errs_of ⟨q, hq, List.Nodup.sublist (List.sublist_append_right _ _) hnd, fun b off hm => hrows b off (List.mem_append_right _ hm)⟩ he
theorem names_of_laidH {W : World} (h : laidMetH Tryz.prog [("errors.errorType", Rows.laid_errors_errorType), ("loop.example/g00767/impl.kindNames", namesLaid), ("loop.example/g00767/impl.errKind", Rows.laid_loop_example_g00767_impl_errKind), ("loop.example/g00767/impl.errOften", Rows.laid_loop_example_g00767_impl_errOften), ("loop.example/g00767/impl.errPhase", Rows.laid_loop_example_g00767_impl_errPhase), ("loop.example/g00767/impl.errState", Rows.laid_loop_example_g00767_impl_errState), ("loop.example/g00767/impl.errBudget", Rows.laid_loop_example_g00767_impl_errBudget)] W) : Names W := by
  have h' : laidMet Tryz.prog [("loop.example/g00767/impl.kindNames", namesLaid), ("loop.example/g00767/impl.errKind", Rows.laid_loop_example_g00767_impl_errKind), ("loop.example/g00767/impl.errOften", Rows.laid_loop_example_g00767_impl_errOften), ("loop.example/g00767/impl.errPhase", Rows.laid_loop_example_g00767_impl_errPhase), ("loop.example/g00767/impl.errState", Rows.laid_loop_example_g00767_impl_errState), ("loop.example/g00767/impl.errBudget", Rows.laid_loop_example_g00767_impl_errBudget)] W ∧ handlesMet Tryz.prog [("errors.errorType", Rows.laid_errors_errorType)] W := h
  exact names_of_head h'.1

/-- How many blocks a settled world has. -/
noncomputable def lowest : Nat := (World.holding Tryz.prog default ⟨#[], #[], []⟩).heap.size
/-- A world in which the variables lie as they are listed. -/
noncomputable def laidWorldE (os : Os) : World :=
  let w0 := World.holding Tryz.prog os ⟨#[.cells #[.string ⟨#[116, 104, 101, 114, 101, 32, 105, 115, 32, 110, 111, 32, 115, 117, 99, 104, 32, 99, 111, 109, 109, 97, 110, 100]⟩] 286, .cells #[.string ⟨#[105, 116, 32, 99, 97, 110, 110, 111, 116, 32, 98, 101, 32, 98, 117, 115, 121, 32, 115, 111, 32, 111, 102, 116, 101, 110]⟩] 286, .cells #[.string ⟨#[110, 111, 116, 32, 110, 111, 119]⟩] 286, .cells #[.string ⟨#[105, 116, 32, 105, 115, 32, 110, 111, 116, 32, 115, 111]⟩] 286, .cells #[.string ⟨#[116, 111, 111, 32, 102, 101, 119, 32, 119, 111, 117, 108, 100, 32, 98, 101, 32, 108, 101, 102, 116]⟩] 286], #[], []⟩
  let put (h : Array Obj) (g : Nat) (cs : Array Value) : Array Obj := h.modify g fun
    | .cells _ t frozen => .cells cs t frozen
    | o => o
  { w0 with heap := (put (put (put (put (put (put (put w0.heap 4 #[.iface 266 (.pointer (some ⟨lowest + 0, 0, none⟩))]) 6 #[.iface 266 (.pointer (some ⟨lowest + 1, 0, none⟩))]) 0 #[.iface 266 (.pointer (some ⟨lowest + 2, 0, none⟩))]) 1 #[.iface 266 (.pointer (some ⟨lowest + 3, 0, none⟩))]) 2 #[.iface 266 (.pointer (some ⟨lowest + 4, 0, none⟩))]) 5 #[.iface 223 (.agg #[.pointer (some ⟨7, 110, none⟩)])]) 3 #[.string (nameOf 0), .string (nameOf 1), .string (nameOf 2), .string (nameOf 3), .string (nameOf 4), .string (nameOf 5), .string (nameOf 6), .string (nameOf 7), .string (nameOf 8), .string (nameOf 9), .string (nameOf 10), .string (nameOf 11), .string (nameOf 12)]) }
theorem laidWorldE_met (os : Os) (args : Array Value) : laidMetH Tryz.prog [("errors.errorType", Rows.laid_errors_errorType), ("loop.example/g00767/impl.kindNames", namesLaid), ("loop.example/g00767/impl.errKind", Rows.laid_loop_example_g00767_impl_errKind), ("loop.example/g00767/impl.errOften", Rows.laid_loop_example_g00767_impl_errOften), ("loop.example/g00767/impl.errPhase", Rows.laid_loop_example_g00767_impl_errPhase), ("loop.example/g00767/impl.errState", Rows.laid_loop_example_g00767_impl_errState), ("loop.example/g00767/impl.errBudget", Rows.laid_loop_example_g00767_impl_errBudget)] ((laidWorldE os).forCall (fun _ _ => 0) ⟨#[], args, []⟩).memory :=
  laidMetH_of_parts (laidMet_of_run' 8 (by kernel_rfl) (by kernel_rfl)) (by kernel_rfl)
end Go.Proofs.YtdkmhaghnfhajaaGreatDoor
/- Ma -/
set_option linter.unusedVariables false
namespace Go.Proofs.YtdkmhaghnfhajaaGreatDoor
open Go.RowKit Go.Maps

theorem plainElem_bool_is {H : Type} {P : Program} {e : TypeId} (he : P.underlying e = some .bool) {v : Value} {z : DataW H × List MemPlace} (h : plainElem P e v = some z) : ∃ x, v = .bool x ∧ z = (.lit (.bool x), []) := by
  unfold plainElem at h
  rw [he] at h
  cases v <;> simp at h
  subst h
  exact ⟨_, rfl, rfl⟩

/-- A map of whole numbers to true: those at which f is, n of them. -/
structure SetD (D : DataW Unit) (f : Int → Bool) (n : Nat) : Prop where
  tidy : Tidy D
  at_ : ∀ i : Int, D.atKey (.int .i64 i) (.lit (.bool false)) = .lit (.bool (f i))
  has_ : ∀ i : Int, Go.Maps.has D (.int .i64 i) = f i
  size_ : Go.Maps.size D = n
theorem SetD.empty : SetD (.map []) (fun _ => false) 0 := ⟨tidy_empty, fun _ => rfl, fun _ => rfl, rfl⟩
theorem SetD.congr {D : DataW Unit} {f g : Int → Bool} {n m : Nat} (h : SetD D f n) (hf : ∀ i, f i = g i) (hn : n = m) : SetD D g m :=
  ⟨h.tidy, fun i => by rw [h.at_, hf], fun i => by rw [h.has_, hf], by rw [h.size_, hn]⟩
theorem SetD.put {D : DataW Unit} {f : Int → Bool} {n : Nat} (h : SetD D f n) (j : Int) (hj : f j = false) : SetD (D.put (.int .i64 j) (.lit (.bool true))) (fun i => f i || decide (i = j)) (n + 1) := by
  have hk : WideAt.IsKeyLit (.int .i64 j) := trivial
  refine ⟨h.tidy.put hk _, fun i => ?_, fun i => ?_, ?_⟩
  · by_cases e : i = j
    · subst e
      rw [atKey_put_same h.tidy.isMap hk]; simp
    · rw [atKey_put_other (fun e2 => e (by cases e2; rfl)), h.at_]; simp [e]
  · by_cases e : i = j
    · subst e
      rw [has_put_same h.tidy.isMap hk]; simp
    · rw [has_put_other (fun e2 => e (by cases e2; rfl)), h.has_]; simp [e]
  · rw [size_put h.tidy, h.has_, hj, h.size_]; rfl
theorem SetD.del {D : DataW Unit} {f : Int → Bool} {n : Nat} (h : SetD D f n) (j : Int) : SetD (D.del (.int .i64 j)) (fun i => f i && !decide (i = j)) (n - if f j then 1 else 0) := by
  refine ⟨h.tidy.del _, fun i => ?_, fun i => ?_, ?_⟩
  · by_cases e : i = j
    · subst e
      rw [atKey_del_same]; simp
    · rw [atKey_del_other (fun e2 => e (by cases e2; rfl)), h.at_]; simp [e]
  · by_cases e : i = j
    · subst e
      rw [has_del_same]; simp
    · rw [has_del_other (fun e2 => e (by cases e2; rfl)), h.has_]; simp [e]
  · have := size_del (k := .int .i64 j) h.tidy
    rw [h.has_, h.size_] at this
    omega
end Go.Proofs.YtdkmhaghnfhajaaGreatDoor
/- Tm -/
set_option linter.unusedVariables false
namespace Go.Proofs.YtdkmhaghnfhajaaGreatDoor
open Go.RowKit

theorem count_flip {P Q : Nat → Bool} {i : Nat} (hP : P i = true) (hQ : Q i = false) (h : ∀ j, j ≠ i → P j = Q j) : ∀ n, (List.range n).countP P = (List.range n).countP Q + if i < n then 1 else 0
  | 0 => by simp
  | n + 1 => by
    have ih := count_flip hP hQ h n
    have e1 : (List.range (n + 1)).countP P = (List.range n).countP P + if P n then 1 else 0 := by rw [List.range_succ, List.countP_append, List.countP_singleton]
    have e2 : (List.range (n + 1)).countP Q = (List.range n).countP Q + if Q n then 1 else 0 := by rw [List.range_succ, List.countP_append, List.countP_singleton]
    rw [e1, e2, ih]
    by_cases e : n = i
    · subst e
      have a1 : (if n < n then 1 else 0) = 0 := if_neg (by omega)
      have a2 : (if n < n + 1 then 1 else 0) = 1 := if_pos (by omega)
      rw [a1, a2, hP, hQ]
      simp
    · rw [h n e]
      have a3 : (if i < n + 1 then 1 else 0) = if i < n then 1 else 0 := by
        by_cases e2 : i < n
        · rw [if_pos e2, if_pos (by omega)]
        · rw [if_neg e2, if_neg (by omega)]
      rw [a3]
      omega
end Go.Proofs.YtdkmhaghnfhajaaGreatDoor
/- Mb -/
set_option linter.unusedVariables false
namespace Go.Proofs.YtdkmhaghnfhajaaGreatDoor
open Go.RowKit Go.Maps

theorem mem_hits {n : Nat} {f : Nat → Int} {b x : Int} : x ∈ hits n f b ↔ (0 ≤ x ∧ x < n) ∧ f x.toNat = b := by
  constructor
  · intro h
    obtain ⟨i, hi, rfl, e⟩ := hits_mem h
    exact ⟨by omega, by simpa using e⟩
  · rintro ⟨⟨h0, h1⟩, e⟩
    have := hits_in (f := f) (n := n) (i := x.toNat) (by omega)
    rw [e] at this
    rwa [Int.toNat_of_nonneg h0] at this
theorem hits_rise (n : Nat) (f : Nat → Int) (b : Int) : (hits n f b).Pairwise (· < ·) := picks_rise n fun i => f i == b
theorem take_one {L : List Int} {k : Nat} (hk : k < L.length) : L.take (k + 1) = L.take k ++ [L.getD k 0] := by
  rw [List.take_add_one]
  simp [List.getD, hk]
theorem not_taken {L : List Int} (hp : L.Pairwise (· < ·)) {k : Nat} (hk : k < L.length) : L.getD k 0 ∉ L.take k := by
  intro hm
  have e := take_one hk
  have h2 : (L.take (k + 1)).Pairwise (· < ·) := hp.sublist (List.take_sublist _ _)
  rw [e, List.pairwise_append] at h2
  have := h2.2.2 _ hm _ (List.mem_singleton.2 rfl)
  omega
theorem SetD.one {D : DataW Unit} {L : List Int} (hp : L.Pairwise (· < ·)) {k : Nat} (hk : k < L.length) (h : SetD D (fun i => decide (i ∈ L.take k)) k) :
    SetD (D.put (.int .i64 (L.getD k 0)) (.lit (.bool true))) (fun i => decide (i ∈ L.take (k + 1))) (k + 1) := by
  refine (h.put (L.getD k 0) (by simpa using not_taken hp hk)).congr (fun i => ?_) rfl
  rw [take_one hk]
  simp [List.mem_append]

def leftQ (d : PlanD) (s : StD) (g : Int) (k i : Nat) : Bool := decide (d.x0 (i * 4) = g) && (decide (k ≤ i) || decide ((podA s.pods i).1 = 0))
def leftF (d : PlanD) (s : StD) (g : Int) (k : Nat) (i : Int) : Bool := (decide (0 ≤ i) && decide (i < d.n0)) && leftQ d s g k i.toNat
def leftN (d : PlanD) (s : StD) (g : Int) (k : Nat) : Nat := (List.range d.n0).countP (leftQ d s g k)
theorem left_start {D : DataW Unit} {d : PlanD} {s : StD} {g : Int} {L : List Int} (hL : L = hits d.n0 (fun i => d.x0 (i * 4)) g) (h : SetD D (fun i => decide (i ∈ L.take L.length)) L.length) : SetD D (leftF d s g 0) (leftN d s g 0) := by
  subst hL
  refine h.congr (fun i => ?_) ?_
  · rw [List.take_length]
    unfold leftF leftQ
    rw [Bool.eq_iff_iff]
    simp [mem_hits]
  · unfold leftN leftQ
    simp [hits, List.countP_eq_length_filter, BEq.beq]
theorem leftQ_next {d : PlanD} {s : StD} {g : Int} {k i : Nat} (h : i = k → (podA s.pods k).1 = 0) : leftQ d s g k i = leftQ d s g (k + 1) i := by
  unfold leftQ
  by_cases e : i = k
  · subst e
    simp [h rfl]
  · have : (k ≤ i) ↔ (k + 1 ≤ i) := by omega
    simp only [this]
theorem left_stay {D : DataW Unit} {d : PlanD} {s : StD} {g : Int} {k : Nat} (h : SetD D (leftF d s g k) (leftN d s g k)) (hr : (podA s.pods k).1 = 0) : SetD D (leftF d s g (k + 1)) (leftN d s g (k + 1)) := by
  have e : leftQ d s g k = leftQ d s g (k + 1) := funext fun i => leftQ_next fun _ => hr
  refine h.congr (fun i => ?_) ?_
  · unfold leftF; rw [e]
  · unfold leftN; rw [e]
theorem left_drop {D : DataW Unit} {d : PlanD} {s : StD} {g : Int} {k : Nat} (h : SetD D (leftF d s g k) (leftN d s g k)) (hk : k < d.n0) (hr : (podA s.pods k).1 ≠ 0) : SetD (D.del (.int .i64 k)) (leftF d s g (k + 1)) (leftN d s g (k + 1)) := by
  have h0 : leftQ d s g (k + 1) k = false := by
    unfold leftQ
    have : ¬ (k + 1 ≤ k) := by omega
    simp [this, hr]
  refine (h.del k).congr (fun i => ?_) ?_
  · unfold leftF
    by_cases e : i = (k : Int)
    · subst e
      rw [Int.toNat_natCast, h0]
      simp
    · by_cases e2 : 0 ≤ i
      · rw [leftQ_next (k := k) (i := i.toNat) (fun e3 => absurd (by omega) e)]
        simp [e]
      · simp [e2]
  · have hF : leftF d s g k k = leftQ d s g k k := by
      unfold leftF
      rw [Int.toNat_natCast]
      have : (k : Int) < d.n0 := by omega
      simp [this]
    rw [hF]
    unfold leftN
    cases hq : leftQ d s g k k
    · have e : ∀ i, leftQ d s g k i = leftQ d s g (k + 1) i := fun i => by
        by_cases e : i = k
        · rw [e, hq, h0]
        · exact leftQ_next fun e2 => absurd e2 e
      rw [show leftQ d s g k = leftQ d s g (k + 1) from funext e]
      simp
    · have := count_flip hq h0 (fun j hj => leftQ_next fun e2 => absurd e2 hj) d.n0
      rw [if_pos hk] at this
      rw [this]
      simp
theorem left_end {D : DataW Unit} {d : PlanD} {s : StD} {g : Int} (h : SetD D (leftF d s g d.n0) (leftN d s g d.n0)) : (∀ i : Nat, i < d.n0 → D.atKey (.int .i64 i) (.lit (.bool false)) = .lit (.bool (hP d s g i))) ∧ (Go.Maps.size D : Int) = healthyN d s g := by
  have e : ∀ i, i < d.n0 → leftQ d s g d.n0 i = hP d s g i := fun i hi => by
    unfold leftQ hP
    have : ¬ (d.n0 ≤ i) := by omega
    simp [this]
  refine ⟨fun i hi => ?_, ?_⟩
  · rw [h.at_]
    unfold leftF
    rw [Int.toNat_natCast, e i hi]
    have : (i : Int) < d.n0 := by omega
    simp [this]
  · rw [h.size_, healthyN_count]
    unfold leftN
    congr 1
    exact List.countP_congr fun i hi => by rw [e i (List.mem_range.1 hi)]
end Go.Proofs.YtdkmhaghnfhajaaGreatDoor
