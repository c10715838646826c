/-
  The listed variables, as the row's condition tells them; a world in which they lie so.
-/
import Derived.Test.YtnefiefimpjhpaaGreatDoorMZ3
import Derived.Test.YtnefiefimpjhpaaGreatDoorMZ6
import Derived.Sort.OwnSortedInts
import Derived.Test.YtnefiefimpjhpaaGreatDoorMZ0
import Derived.Test.YtnefiefimpjhpaaGreatDoorMZxJa
import Derived.ChangeVars
import Derived.LaidLaws
import Derived.LaidHandle
import Derived.OpenShut
import Derived.RowKitTokens
import Derived.WalkSmall
/- Xd -/
set_option linter.unusedVariables false
namespace Go.Proofs.YtnefiefimpjhpaaGreatDoor
open Go.RowKit Go.Shelf Go.Sort

/-- How many lie ahead of it. -/
def placeN (l : List Int) (x : Int) : Nat := l.countP (· < x)
theorem place_le (l : List Int) (x : Int) : placeN l x ≤ l.length := List.countP_le_length
theorem place_all {l : List Int} {x : Int} (h : ∀ y ∈ l, x < y) : placeN l x = 0 := by
  unfold placeN
  rw [List.countP_eq_zero]
  intro y hy
  have := h y hy
  simp
  omega
theorem with_place {l : List Int} (x : Int) (h : l.Pairwise (· < ·)) : withN x l = if l.contains x then l else l.take (placeN l x) ++ x :: l.drop (placeN l x) := by
  induction l with
  | nil => rfl
  | cons y l ih =>
    obtain ⟨h1, h2⟩ := List.pairwise_cons.1 h
    unfold withN
    by_cases e1 : x < y
    · have hp : placeN (y :: l) x = 0 := place_all fun z hz => by
        rcases List.mem_cons.1 hz with rfl | hz
        · exact e1
        · have := h1 z hz; omega
      have hc : (y :: l).contains x = false := by
        rw [List.contains_eq_mem, decide_eq_false_iff_not]
        intro hm
        rcases List.mem_cons.1 hm with rfl | hm
        · omega
        · have := h1 x hm; omega
      rw [if_pos e1, hc, hp]
      rfl
    · rw [if_neg e1]
      by_cases e2 : x = y
      · subst e2
        simp
      · have hy : y < x := by omega
        have hp : placeN (y :: l) x = placeN l x + 1 := by simp [placeN, hy]
        have hc : (y :: l).contains x = l.contains x := by simp [e2]
        rw [if_neg e2, ih h2, hc, hp]
        split <;> simp
theorem without_place {l : List Int} (x : Int) (h : l.Pairwise (· < ·)) : withoutN l x = if l.contains x then l.take (placeN l x) ++ l.drop (placeN l x + 1) else l := by
  induction l with
  | nil => rfl
  | cons y l ih =>
    obtain ⟨h1, h2⟩ := List.pairwise_cons.1 h
    by_cases e2 : y = x
    · subst e2
      have hp : placeN (y :: l) y = 0 := by
        have : placeN l y = 0 := place_all h1
        simpa [placeN] using this
      have hf : withoutN (y :: l) y = l := by
        have : ∀ z ∈ l, (z != y) = true := fun z hz => by have := h1 z hz; simp; omega
        simp [withoutN]
        exact fun z hz => by have := h1 z hz; omega
      rw [hf, hp]
      simp
    · have hc : (y :: l).contains x = l.contains x := by
        have : ¬ x = y := fun e => e2 e.symm
        simp [this]
      have hw : withoutN (y :: l) x = y :: withoutN l x := by simp [withoutN, e2]
      rw [hw, hc, ih h2]
      by_cases hm : l.contains x = true
      · have hx : y < x := h1 x (by simpa using hm)
        have hp : placeN (y :: l) x = placeN l x + 1 := by simp [placeN, hx]
        rw [if_pos hm, if_pos hm, hp]
        simp
      · rw [if_neg hm, if_neg hm]
theorem place_lt {l : List Int} {x : Int} (hc : l.contains x = true) (h : l.Pairwise (· < ·)) : placeN l x < l.length := by
  induction l with
  | nil => simp at hc
  | cons y l ih =>
    obtain ⟨h1, h2⟩ := List.pairwise_cons.1 h
    by_cases e : x = y
    · subst e
      have : placeN l x = 0 := place_all h1
      have hp : placeN (x :: l) x = 0 := by simpa [placeN] using this
      rw [hp]
      simp
    · have hm : l.contains x = true := by simpa [e] using hc
      have := ih hm h2
      have hp : placeN (y :: l) x ≤ placeN l x + 1 := by unfold placeN; rw [List.countP_cons]; split <;> omega
      simp only [List.length_cons]
      omega

theorem row_cut {w : World} {B e g n m c : Nat} {xs : List Value} (h : w.ownsRow B e 1 (.slice (some ⟨g, 0, none⟩) n c) n xs) (hm : m ≤ n) : w.ownsRow B e 1 (.slice (some ⟨g, 0, none⟩) m c) m (xs.take m) := by
  obtain ⟨hl, ⟨h0, -⟩ | ⟨g', cap, cur, hv, hb, hh, hnc, hcm, hsz, ht⟩⟩ := h
  · cases h0
  · cases hv
    refine ⟨by rw [List.length_take]; omega, .inr ⟨g, c, cur, rfl, hb, hh, by omega, hcm, hsz, ?_⟩⟩
    rw [← ht, List.take_take]
    congr 1
    omega

set_option maxRecDepth 100000 in
set_option maxHeartbeats 2000000 in
theorem search_any (v : Value) (l : List Int) (x : Int) (w : World) (B : Nat) (h : LkR w B v l) (hr : l.Pairwise (· < ·)) (hl : l.length ≤ 1048576) :
    Calls Tryz.prog 105 #[v, .int .i64 x] w fun e w' => e = .returned (.tuple #[.int .i64 (placeN l x : Nat), .bool (l.contains x)]) ∧ ∃ q, w' = w.drewN q := by
  rcases h.2 with ⟨rfl, hn⟩ | ⟨g, cap, cur, rfl, hb, hh, hnc, hcm, hsz, ht⟩
  · have h0 : l = [] := List.length_eq_zero_iff.1 hn
    subst h0
    go_enter Tryz.func105, Tryz.ntmps105
    go_wp2
    go_loopw [7, 8] (fun a b wr => a = .int .i64 0 ∧ b = .int .i64 0 ∧ wr = w) (fun _ _ _ => 0)
    case atStart => exact ⟨rfl, rfl, rfl⟩
    case round =>
      obtain ⟨rfl, rfl, rfl⟩ := hrel
      go_wp2
      go_ret2
      exact ⟨rfl, 0, rfl⟩
  · have hcs := h.cells (g := g) rfl
    have := AnyG.slices_BinarySearch_int lays_search g 0 l.length cap l x w (Nat.le_refl _) (by omega) (fun j hj => by
      have h1 := hcs j _ (lkCs_at l hj)
      rw [add_zero_block] at h1
      rw [Nat.zero_add]
      exact h1) (by rw [List.take_length]; exact hr.imp fun h => Int.le_of_lt h)
    rw [List.take_length] at this
    exact this

theorem delete_any (v : Value) (l : List Int) (i : Nat) (w : World) (B : Nat) (h : LkR w B v l) (hi : i < l.length) (hl : l.length ≤ 1048576) :
    Calls Tryz.prog 107 #[v, .int .i64 i, .int .i64 ((i : Int) + 1)] w (Puts w B v (l.take i ++ l.drop (i + 1))) := by
  rcases h.2 with ⟨rfl, hn⟩ | ⟨g, cap, cur, rfl, hb, hh, hnc, hcm, hsz, ht⟩
  · omega
  · have hH : Holds (Value.int .i64) w g 0 l.toArray := holds_of_blockI hh (by rw [Nat.mul_one] at ht; exact ht)
    unfold maxLen at hcm
    have := AnyG.slices_Delete_int lays_delete g 0 cap i (i + 1) l w hH (by omega) (by omega) (by omega) (by omega)
    rw [show ((i + 1 : Nat) : Int) = (i : Int) + 1 from Int.natCast_succ i] at this
    refine Calls.mono this ?_
    rintro e w' ⟨rfl, q, rfl⟩
    have hlen : (l.take i ++ l.drop (i + 1) ++ List.replicate (i + 1 - i) 0).length = l.length := by simp; omega
    have hrow := ownsRow_sortedI (w := w) (n := q) (os := #[]) (base := B) hlen hb hh (by omega) (by unfold maxLen; omega) (by omega)
    have hg := grownBy_sortedI (w := w) (g := g) (n := q) (os := #[]) (l.take i ++ l.drop (i + 1) ++ List.replicate (i + 1 - i) 0).toArray
    rw [grow_empty] at hrow hg
    refine ⟨_, rfl, ?_, Keeps.of_grownX hg⟩
    have := row_cut hrow (m := l.length - (i + 1 - i)) (by omega)
    unfold LkR
    have hl2 : (l.take i ++ l.drop (i + 1)).length = l.length - (i + 1 - i) := by simp; omega
    rw [hl2]
    have hx : ((l.take i ++ l.drop (i + 1) ++ List.replicate (i + 1 - i) 0).map (Value.int .i64)).take (l.length - (i + 1 - i)) = lkCs (l.take i ++ l.drop (i + 1)) := by
      rw [← hl2, List.map_append, List.take_left' (by simp)]
      rfl
    rw [← hx]
    exact this
end Go.Proofs.YtnefiefimpjhpaaGreatDoor
/- Jlb -/
set_option linter.unusedVariables false
namespace Go.Proofs.YtnefiefimpjhpaaGreatDoor
open Go.ChangeShapes Go.WideShapes Go.ChangeAt Go.RowKit Go.Deep

theorem globalKind : Tryz.prog.globalNamed "loop.example/g00767/impl.errKind" = some 3 := by kernel_rfl
theorem typeKind : (Tryz.prog.globals[3]?).map (·.type) = some 51 := by kernel_rfl
theorem globalOften : Tryz.prog.globalNamed "loop.example/g00767/impl.errOften" = some 6 := by kernel_rfl
theorem typeOften : (Tryz.prog.globals[6]?).map (·.type) = some 51 := by kernel_rfl
theorem globalPhase : Tryz.prog.globalNamed "loop.example/g00767/impl.errPhase" = some 0 := by kernel_rfl
theorem typePhase : (Tryz.prog.globals[0]?).map (·.type) = some 51 := by kernel_rfl
theorem globalState : Tryz.prog.globalNamed "loop.example/g00767/impl.errState" = some 1 := by kernel_rfl
theorem typeState : (Tryz.prog.globals[1]?).map (·.type) = some 51 := by kernel_rfl
theorem globalBudget : Tryz.prog.globalNamed "loop.example/g00767/impl.errBudget" = some 2 := by kernel_rfl
theorem typeBudget : (Tryz.prog.globals[2]?).map (·.type) = some 51 := by kernel_rfl
theorem globalType : Tryz.prog.globalNamed "errors.errorType" = some 4 := by kernel_rfl
set_option maxRecDepth 100000 in
theorem rowPtr (u : TypeId) (h : Tryz.prog.typeName? 3 u = some "*errors.errorString") : u = 218 :=
  typeName_ptr_named (nm := "errors.errorString") (by kernel_rfl) (by kernel_rfl) (by decide) u h
theorem cellsE : Tryz.prog.cellsOf 239 = 1 := by kernel_rfl
theorem cellsS : Tryz.prog.cellsOf 9 = 1 := by kernel_rfl
theorem rtypeRow : (Tryz.prog.cutTypes.find? (·.1 == "internal/reflectlite.rtype")).map (·.2) = some 155 := by kernel_rfl
theorem errorRows : ((List.range 251).filter fun t => Tryz.prog.rowNamed t [101, 114, 114, 111, 114]) = [51] := by kernel_rfl
theorem typesSize : Tryz.prog.types.size = 251 := by kernel_rfl

theorem handle_cell {W : World} (h : handlesMet Tryz.prog [("errors.errorType", Rows.laid_errors_errorType)] W) : W.cell? ⟨4, 0, none⟩ = some (.iface 155 (.agg #[.pointer (some ⟨7, 51, none⟩)])) := by
  obtain ⟨name, u, ty, e1, e2, e3, e4, e5⟩ := h _ (List.mem_singleton.2 rfl)
  obtain rfl : [101, 114, 114, 111, 114] = name := Option.some.inj e1
  obtain rfl := Option.some.inj (rtypeRow.symm.trans e2)
  have hm : ty ∈ (List.range 251).filter fun t => Tryz.prog.rowNamed t [101, 114, 114, 111, 114] := List.mem_filter.2 ⟨List.mem_range.2 (by rw [← typesSize]; exact e3), e4⟩
  rw [errorRows] at hm
  obtain rfl := List.mem_singleton.1 hm
  rw [show typeHandle Tryz.prog 51 = .pointer (some ⟨7, 51, none⟩) by kernel_rfl] at e5
  simpa using World.var?_cell globalType e5 0

set_option maxRecDepth 100000 in
set_option maxHeartbeats 2000000 in
theorem errs_of {W : World} (h : laidMet Tryz.prog [("loop.example/g00767/impl.errKind", Rows.laid_loop_example_g00767_impl_errKind), ("loop.example/g00767/impl.errOften", Rows.laid_loop_example_g00767_impl_errOften), ("loop.example/g00767/impl.errPhase", Rows.laid_loop_example_g00767_impl_errPhase), ("loop.example/g00767/impl.errState", Rows.laid_loop_example_g00767_impl_errState), ("loop.example/g00767/impl.errBudget", Rows.laid_loop_example_g00767_impl_errBudget)] W) (he : handlesMet Tryz.prog [("errors.errorType", Rows.laid_errors_errorType)] W) : ∃ K O P S B, Errs W K O P S B := by
  obtain ⟨ps, ⟨g0, t0, cs0, f0, p0, q0, hg0, ht0, hv0, hd0, ⟨g1, t1, cs1, f1, p1, q1, hg1, ht1, hv1, hd1, ⟨g2, t2, cs2, f2, p2, q2, hg2, ht2, hv2, hd2, ⟨g3, t3, cs3, f3, p3, q3, hg3, ht3, hv3, hd3, ⟨g4, t4, cs4, f4, p4, q4, hg4, ht4, hv4, hd4, _, e4⟩, e3⟩, e2⟩, e1⟩, e0⟩, hnd, hrows⟩ := h
  subst e4
  subst e3
  subst e2
  subst e1
  subst e0
  obtain rfl := Option.some.inj (globalKind.symm.trans hg0)
  obtain rfl := Option.some.inj (typeKind.symm.trans ht0)
  obtain ⟨l0⟩ := cs0
  have ok0 : ∀ u v, l0 = [.iface u v] → Value.okWide Tryz.prog W .any 0 u v := fun u v e => by
    subst e
    exact (hrows 3 0 (by simp [MemPlace.row])).2 u v (by simpa using World.var?_cell hg0 hv0 0)
  obtain rfl := Option.some.inj (globalOften.symm.trans hg1)
  obtain rfl := Option.some.inj (typeOften.symm.trans ht1)
  obtain ⟨l1⟩ := cs1
  have ok1 : ∀ u v, l1 = [.iface u v] → Value.okWide Tryz.prog W .any 0 u v := fun u v e => by
    subst e
    exact (hrows 6 0 (by simp [MemPlace.row])).2 u v (by simpa using World.var?_cell hg1 hv1 0)
  obtain rfl := Option.some.inj (globalPhase.symm.trans hg2)
  obtain rfl := Option.some.inj (typePhase.symm.trans ht2)
  obtain ⟨l2⟩ := cs2
  have ok2 : ∀ u v, l2 = [.iface u v] → Value.okWide Tryz.prog W .any 0 u v := fun u v e => by
    subst e
    exact (hrows 0 0 (by simp [MemPlace.row])).2 u v (by simpa using World.var?_cell hg2 hv2 0)
  obtain rfl := Option.some.inj (globalState.symm.trans hg3)
  obtain rfl := Option.some.inj (typeState.symm.trans ht3)
  obtain ⟨l3⟩ := cs3
  have ok3 : ∀ u v, l3 = [.iface u v] → Value.okWide Tryz.prog W .any 0 u v := fun u v e => by
    subst e
    exact (hrows 1 0 (by simp [MemPlace.row])).2 u v (by simpa using World.var?_cell hg3 hv3 0)
  obtain rfl := Option.some.inj (globalBudget.symm.trans hg4)
  obtain rfl := Option.some.inj (typeBudget.symm.trans ht4)
  obtain ⟨l4⟩ := cs4
  have ok4 : ∀ u v, l4 = [.iface u v] → Value.okWide Tryz.prog W .any 0 u v := fun u v e => by
    subst e
    exact (hrows 2 0 (by simp [MemPlace.row])).2 u v (by simpa using World.var?_cell hg4 hv4 0)
  obtain ⟨a0, s0, rfl, -, -, -, rfl⟩ := errorString_of_trod (text := _) Tryz.underlying51 rowPtr Tryz.underlying218 Tryz.underlying239 rfl rfl Tryz.underlying9 cellsE cellsS hd0 ok0
  obtain ⟨a1, s1, rfl, -, -, -, rfl⟩ := errorString_of_trod (text := _) Tryz.underlying51 rowPtr Tryz.underlying218 Tryz.underlying239 rfl rfl Tryz.underlying9 cellsE cellsS hd1 ok1
  obtain ⟨a2, s2, rfl, -, -, -, rfl⟩ := errorString_of_trod (text := _) Tryz.underlying51 rowPtr Tryz.underlying218 Tryz.underlying239 rfl rfl Tryz.underlying9 cellsE cellsS hd2 ok2
  obtain ⟨a3, s3, rfl, -, -, -, rfl⟩ := errorString_of_trod (text := _) Tryz.underlying51 rowPtr Tryz.underlying218 Tryz.underlying239 rfl rfl Tryz.underlying9 cellsE cellsS hd3 ok3
  obtain ⟨a4, s4, rfl, -, -, -, rfl⟩ := errorString_of_trod (text := _) Tryz.underlying51 rowPtr Tryz.underlying218 Tryz.underlying239 rfl rfl Tryz.underlying9 cellsE cellsS hd4 ok4
  have b0 := (hrows a0.block a0.off (by simp [MemPlace.row])).1
  have b1 := (hrows a1.block a1.off (by simp [MemPlace.row])).1
  have b2 := (hrows a2.block a2.off (by simp [MemPlace.row])).1
  have b3 := (hrows a3.block a3.off (by simp [MemPlace.row])).1
  have b4 := (hrows a4.block a4.off (by simp [MemPlace.row])).1
  have n01 : a0 ≠ a1 := by
    rintro rfl
    simp [MemPlace.row] at hnd
  have n02 : a0 ≠ a2 := by
    rintro rfl
    simp [MemPlace.row] at hnd
  have n03 : a0 ≠ a3 := by
    rintro rfl
    simp [MemPlace.row] at hnd
  have n04 : a0 ≠ a4 := by
    rintro rfl
    simp [MemPlace.row] at hnd
  have n12 : a1 ≠ a2 := by
    rintro rfl
    simp [MemPlace.row] at hnd
  have n13 : a1 ≠ a3 := by
    rintro rfl
    simp [MemPlace.row] at hnd
  have n14 : a1 ≠ a4 := by
    rintro rfl
    simp [MemPlace.row] at hnd
  have n23 : a2 ≠ a3 := by
    rintro rfl
    simp [MemPlace.row] at hnd
  have n24 : a2 ≠ a4 := by
    rintro rfl
    simp [MemPlace.row] at hnd
  have n34 : a3 ≠ a4 := by
    rintro rfl
    simp [MemPlace.row] at hnd
  exact ⟨a0, a1, a2, a3, a4, ⟨by simpa using World.var?_cell hg0 hv0 0, b0⟩, ⟨by simpa using World.var?_cell hg1 hv1 0, b1⟩, ⟨by simpa using World.var?_cell hg2 hv2 0, b2⟩, ⟨by simpa using World.var?_cell hg3 hv3 0, b3⟩, ⟨by simpa using World.var?_cell hg4 hv4 0, b4⟩, handle_cell he, ⟨n02, n12, n23.symm, n24.symm⟩, ⟨n03, n13, n23, n34.symm⟩, ⟨n04, n14, n24, n34⟩⟩

theorem errs_of_laid {W : World} (h : laidMetH Tryz.prog [("errors.errorType", Rows.laid_errors_errorType), ("loop.example/g00767/impl.kindNames", namesLaid), ("loop.example/g00767/impl.errKind", Rows.laid_loop_example_g00767_impl_errKind), ("loop.example/g00767/impl.errOften", Rows.laid_loop_example_g00767_impl_errOften), ("loop.example/g00767/impl.errPhase", Rows.laid_loop_example_g00767_impl_errPhase), ("loop.example/g00767/impl.errState", Rows.laid_loop_example_g00767_impl_errState), ("loop.example/g00767/impl.errBudget", Rows.laid_loop_example_g00767_impl_errBudget)] W) : ∃ K O P S B, Errs W K O P S B := by
  have h' : laidMet Tryz.prog [("loop.example/g00767/impl.kindNames", namesLaid), ("loop.example/g00767/impl.errKind", Rows.laid_loop_example_g00767_impl_errKind), ("loop.example/g00767/impl.errOften", Rows.laid_loop_example_g00767_impl_errOften), ("loop.example/g00767/impl.errPhase", Rows.laid_loop_example_g00767_impl_errPhase), ("loop.example/g00767/impl.errState", Rows.laid_loop_example_g00767_impl_errState), ("loop.example/g00767/impl.errBudget", Rows.laid_loop_example_g00767_impl_errBudget)] W ∧ handlesMet Tryz.prog [("errors.errorType", Rows.laid_errors_errorType)] W := h
  obtain ⟨⟨ps, ⟨_, _, _, _, p, q, _, _, _, _, hq, rfl⟩, hnd, hrows⟩, he⟩ := h'
  exact errs_of ⟨q, hq, List.Nodup.sublist (List.sublist_append_right _ _) hnd, fun b off hm => hrows b off (List.mem_append_right _ hm)⟩ he
theorem names_of_laidH {W : World} (h : laidMetH Tryz.prog [("errors.errorType", Rows.laid_errors_errorType), ("loop.example/g00767/impl.kindNames", namesLaid), ("loop.example/g00767/impl.errKind", Rows.laid_loop_example_g00767_impl_errKind), ("loop.example/g00767/impl.errOften", Rows.laid_loop_example_g00767_impl_errOften), ("loop.example/g00767/impl.errPhase", Rows.laid_loop_example_g00767_impl_errPhase), ("loop.example/g00767/impl.errState", Rows.laid_loop_example_g00767_impl_errState), ("loop.example/g00767/impl.errBudget", Rows.laid_loop_example_g00767_impl_errBudget)] W) : Names W := by
  have h' : laidMet Tryz.prog [("loop.example/g00767/impl.kindNames", namesLaid), ("loop.example/g00767/impl.errKind", Rows.laid_loop_example_g00767_impl_errKind), ("loop.example/g00767/impl.errOften", Rows.laid_loop_example_g00767_impl_errOften), ("loop.example/g00767/impl.errPhase", Rows.laid_loop_example_g00767_impl_errPhase), ("loop.example/g00767/impl.errState", Rows.laid_loop_example_g00767_impl_errState), ("loop.example/g00767/impl.errBudget", Rows.laid_loop_example_g00767_impl_errBudget)] W ∧ handlesMet Tryz.prog [("errors.errorType", Rows.laid_errors_errorType)] W := h
  exact names_of_head h'.1

/-- How many blocks a settled world has. -/
noncomputable def lowest : Nat := (World.holding Tryz.prog default ⟨#[], #[], []⟩).heap.size
/-- A world in which the variables lie as they are listed. -/
noncomputable def laidWorldE (os : Os) : World :=
  let w0 := World.holding Tryz.prog os ⟨#[.cells #[.string ⟨#[116, 104, 101, 114, 101, 32, 105, 115, 32, 110, 111, 32, 115, 117, 99, 104, 32, 99, 111, 109, 109, 97, 110, 100]⟩] 239, .cells #[.string ⟨#[105, 116, 32, 99, 97, 110, 110, 111, 116, 32, 98, 101, 32, 98, 117, 115, 121, 32, 115, 111, 32, 111, 102, 116, 101, 110]⟩] 239, .cells #[.string ⟨#[110, 111, 116, 32, 110, 111, 119]⟩] 239, .cells #[.string ⟨#[105, 116, 32, 105, 115, 32, 110, 111, 116, 32, 115, 111]⟩] 239, .cells #[.string ⟨#[116, 111, 111, 32, 102, 101, 119, 32, 119, 111, 117, 108, 100, 32, 98, 101, 32, 108, 101, 102, 116]⟩] 239], #[], []⟩
  let put (h : Array Obj) (g : Nat) (cs : Array Value) : Array Obj := h.modify g fun
    | .cells _ t frozen => .cells cs t frozen
    | o => o
  { w0 with heap := (put (put (put (put (put (put (put w0.heap 3 #[.iface 218 (.pointer (some ⟨lowest + 0, 0, none⟩))]) 6 #[.iface 218 (.pointer (some ⟨lowest + 1, 0, none⟩))]) 0 #[.iface 218 (.pointer (some ⟨lowest + 2, 0, none⟩))]) 1 #[.iface 218 (.pointer (some ⟨lowest + 3, 0, none⟩))]) 2 #[.iface 218 (.pointer (some ⟨lowest + 4, 0, none⟩))]) 4 #[.iface 155 (.agg #[.pointer (some ⟨7, 51, none⟩)])]) 5 #[.string (nameOf 0), .string (nameOf 1), .string (nameOf 2), .string (nameOf 3), .string (nameOf 4), .string (nameOf 5), .string (nameOf 6), .string (nameOf 7), .string (nameOf 8), .string (nameOf 9), .string (nameOf 10), .string (nameOf 11), .string (nameOf 12)]) }
theorem laidWorldE_met (os : Os) (args : Array Value) : laidMetH Tryz.prog [("errors.errorType", Rows.laid_errors_errorType), ("loop.example/g00767/impl.kindNames", namesLaid), ("loop.example/g00767/impl.errKind", Rows.laid_loop_example_g00767_impl_errKind), ("loop.example/g00767/impl.errOften", Rows.laid_loop_example_g00767_impl_errOften), ("loop.example/g00767/impl.errPhase", Rows.laid_loop_example_g00767_impl_errPhase), ("loop.example/g00767/impl.errState", Rows.laid_loop_example_g00767_impl_errState), ("loop.example/g00767/impl.errBudget", Rows.laid_loop_example_g00767_impl_errBudget)] ((laidWorldE os).forCall (fun _ _ => 0) ⟨#[], args, []⟩).memory :=
  laidMetH_of_parts (laidMet_of_run' 8 (by kernel_rfl) (by kernel_rfl)) (by kernel_rfl)
end Go.Proofs.YtnefiefimpjhpaaGreatDoor
