/-
  The one listed variable, as the row's condition tells it; a world in which it lies so.
-/
import Derived.Test.YtkefbmbjkijilaaGreatDoorMZ3
import Derived.BigQuiet
import Derived.RegionTactic
import Derived.BigRegion
import Derived.Test.YtkefbmbjkijilaaGreatDoorMZ0
import Derived.Shelf.SlicesG.SearchI
import Derived.Shelf.SlicesG.Delete
import Derived.Shelf.Spec.SlicesInsertGrow
import Derived.Lib.AppendZerosOnto
import Derived.Lib.Overlaps
import Derived.Test.YtkefbmbjkijilaaGreatDoorMZ4
import Derived.Sort.OwnSortedInts
import Derived.Test.YtkefbmbjkijilaaGreatDoorMZ6
import Derived.ChangeVars
import Derived.LaidLaws
import Derived.OpenShut
import Derived.RowKitTokens
import Derived.WalkSmall
/- Dq -/
set_option linter.unusedVariables false
namespace Go.Proofs.YtkefbmbjkijilaaGreatDoor
open Go.RowKit

end Go.Proofs.YtkefbmbjkijilaaGreatDoor
/- Xb -/
set_option linter.unusedVariables false
namespace Go.Proofs.YtkefbmbjkijilaaGreatDoor
open Go.RowKit Go.Shelf

/-- How the library's numbers go by this program's. -/
def renLk : Ren := ⟨fun k => if k = 49 then 155 else if k = 45 then 157 else if k = 59 then 160 else if k = 60 then 161 else 164,
  fun k => if k = 0 then 0 else if k = 3 then 3 else if k = 4 then 4 else if k = 22 then 23 else if k = 23 then 2 else 178, fun k => k⟩
set_option maxRecDepth 100000 in
theorem lays_search : SlLaysN.n49 Tryz.prog renLk where
  mixed := by kernel_rfl
  f49 := ⟨ "slices.BinarySearch[[]int64,int64]", by decide, by kernel_rfl⟩
  f59 := ⟨ "cmp.Less[int64]", by decide, by kernel_rfl⟩
  f60 := ⟨ "slices.isNaN[int64]", by decide, by kernel_rfl⟩
  f68 := ⟨ "cmp.isNaN[int64]", by decide, by kernel_rfl⟩
  t0 := by kernel_rfl
  a0 := fun _ => by kernel_rfl
  z0 := fun _ => by kernel_rfl
  v0 := fun _ => by kernel_rfl
  t3 := by kernel_rfl
  a3 := fun _ => by kernel_rfl
  z3 := fun _ => by kernel_rfl
  v3 := fun _ => by kernel_rfl
  t4 := by kernel_rfl
  a4 := fun _ => by kernel_rfl
  z4 := fun _ => by kernel_rfl
  v4 := fun _ => by kernel_rfl
  t22 := by kernel_rfl
  a22 := fun _ => by kernel_rfl
  z22 := fun _ => by kernel_rfl
  v22 := fun _ => by kernel_rfl
  t23 := by kernel_rfl
  a23 := fun _ => by kernel_rfl
  z23 := fun _ => by kernel_rfl
  v23 := fun _ => by kernel_rfl
  t51 := by kernel_rfl
  a51 := fun _ => by kernel_rfl
  z51 := fun _ => by kernel_rfl
  v51 := fun _ => by kernel_rfl
set_option maxRecDepth 100000 in
theorem lays_delete : SlLaysN.n45 Tryz.prog renLk where
  mixed := by kernel_rfl
  f45 := ⟨ "slices.Delete[[]int64,int64]", by decide, by kernel_rfl⟩
  t0 := by kernel_rfl
  a0 := fun _ => by kernel_rfl
  z0 := fun _ => by kernel_rfl
  v0 := fun _ => by kernel_rfl
  t3 := by kernel_rfl
  a3 := fun _ => by kernel_rfl
  z3 := fun _ => by kernel_rfl
  v3 := fun _ => by kernel_rfl
  t4 := by kernel_rfl
  a4 := fun _ => by kernel_rfl
  z4 := fun _ => by kernel_rfl
  v4 := fun _ => by kernel_rfl
  t22 := by kernel_rfl
  a22 := fun _ => by kernel_rfl
  z22 := fun _ => by kernel_rfl
  v22 := fun _ => by kernel_rfl
  t23 := by kernel_rfl
  a23 := fun _ => by kernel_rfl
  z23 := fun _ => by kernel_rfl
  v23 := fun _ => by kernel_rfl
  i23 := by kernel_rfl
end Go.Proofs.YtkefbmbjkijilaaGreatDoor
/- Xc -/
set_option linter.unusedVariables false
namespace Go.Proofs.YtkefbmbjkijilaaGreatDoor
open Go.RowKit

/-- A block of so many cells. -/
def Row1 (w : World) (g cap : Nat) : Prop := ∃ cur, w.heap[g]? = some (.cells cur 2) ∧ cur.size = cap
theorem Row1.set {w : World} {g cap : Nat} (h : Row1 w g cap) (b i : Nat) (v : Value) : Row1 (w.setCell ⟨b, i, none⟩ v) g cap := by
  obtain ⟨cur, hc, hs⟩ := h
  by_cases e : g = b
  · subst e
    exact ⟨_, heap_setCell_same w g i cur _ v hc, by simpa using hs⟩
  · exact ⟨cur, (heap_setCell_other w ⟨b, i, none⟩ g v e).trans hc, hs⟩
theorem Row1.sets {g cap : Nat} (b : Nat) : ∀ (vs : List Value) (o : Nat) {w : World}, Row1 w g cap → Row1 (w.setCells b o vs) g cap
  | [], _, _, h => h
  | v :: vs, o, _, h => Row1.sets b vs (o + 1) (h.set b o v)
theorem grown_sets (g : Nat) : ∀ (vs : List Value) (o : Nat) (w : World), Keeps (· = g) w (w.setCells g o vs)
  | [], _, w => Keeps.refl _ w
  | v :: vs, o, w => ((Keeps.refl (· = g) w).set rfl v).trans (grown_sets g vs (o + 1) _)
theorem Keeps.below' {w w1 w2 : World} (h : Keeps (· = w.heap.size) w1 w2) (hb : Below w.heap.size w w1) : Below w.heap.size w w2 := hb.trans (h.below hb.size fun b hlt e => by omega)
theorem Row1.own {w : World} {g cap n B : Nat} {xs : List Value} (h : Row1 w g cap) (hx : ∀ j v, xs[j]? = some v → w.cell? ⟨g, j, none⟩ = some v) (hl : xs.length = n) (hB : B ≤ g) (hn : n ≤ cap) (hm : cap ≤ maxLen) :
    w.ownsRow B 2 1 (.slice (some ⟨g, 0, none⟩) n cap) n xs := by
  obtain ⟨cur, hc, hs⟩ := h
  refine ⟨by omega, .inr ⟨g, cap, cur, rfl, hB, hc, hn, hm, by omega, ?_⟩⟩
  apply List.ext_getElem?
  intro j
  by_cases hj : j < n
  · have h1 := hx j _ (List.getElem?_eq_getElem (show j < xs.length by omega))
    rw [cell_of_row _ _ _ _ _ _ hc] at h1
    rw [List.getElem?_take_of_lt (by omega), Array.getElem?_toList, h1, List.getElem?_eq_getElem (by omega)]
  · rw [List.getElem?_eq_none (by rw [List.length_take]; omega), List.getElem?_eq_none (by omega)]
theorem lkCs_put (l : List Int) (i : Nat) (x : Int) : lkCs (l.take i ++ x :: l.drop i) = (lkCs l).take i ++ .int .i64 x :: (lkCs l).drop i := by simp [lkCs, List.map_take, List.map_drop]
/-- What one put into a list answers. -/
def Puts (w : World) (B : Nat) (v : Value) (l : List Int) (e : Ending) (w' : World) : Prop := ∃ v', e = .returned v' ∧ LkR w' B v' l ∧ Keeps (fun g => v.ownBlock = some g) w w'
theorem Keeps.of_grownX {w w' : World} {v : Value} (h : w.grownBy w' v.ownBlock) : Keeps (fun g => v.ownBlock = some g) w w' := ⟨h.os, h.tape, h.output, h.size, fun b hb hn => h.block b hb fun e => hn e.symm⟩
theorem lk_oneC (l : List Int) : ∀ v ∈ lkCs l, v.oneCell' = true := lkCs_one l

theorem put_len {l : List Int} {x : Int} {i n : Nat} (hi : i ≤ n) (hn : l.length = n) : (l.take i ++ x :: l.drop i).length = n + 1 := by
  simp
  omega
theorem put_cells {W : World} {g i : Nat} {P D : List Value} {y : Value} (hi : P.length = i) (hP : ∀ j u, P[j]? = some u → W.cell? ⟨g, j, none⟩ = some u) (hy : W.cell? ⟨g, i, none⟩ = some y)
    (hD : ∀ j u, D[j]? = some u → W.cell? ⟨g, i + 1 + j, none⟩ = some u) : ∀ j u, (P ++ y :: D)[j]? = some u → W.cell? ⟨g, j, none⟩ = some u := by
  intro j u hj
  by_cases h1 : j < i
  · exact hP j u (by rwa [List.getElem?_append_left (by omega)] at hj)
  · rw [List.getElem?_append_right (by omega), hi] at hj
    by_cases h2 : j = i
    · subst h2
      rw [Nat.sub_self] at hj
      exact hy.trans hj
    · obtain ⟨k, rfl⟩ : ∃ k, j = i + 1 + k := ⟨j - (i + 1), by omega⟩
      rw [show i + 1 + k - i = k + 1 by omega] at hj
      exact hD k u hj

section
variable (l : List Int) (x : Int) (w : World) (B vb : Nat)

set_option maxRecDepth 100000 in
set_option maxHeartbeats 4000000 in
theorem insert_end (v : Value) (hB : B ≤ w.heap.size) (h : LkR w B v l) (hl : l.length ≤ 1048576) (hv : w.heap[vb]? = some (.cells #[.int .i64 x] 2)) :
    Calls Tryz.prog 156 #[v, .int .i64 l.length, .slice (some ⟨vb, 0, none⟩) 1 1] w (Puts w B v (l ++ [x])) := by
  have h0 : LkR w B v l := h
  obtain ⟨A, c, rfl, r0, S0⟩ := open_rowR h
  have hcap : l.length ≤ c ∧ c ≤ maxLen := by
    rcases h0.2 with ⟨e, hn⟩ | ⟨g, cap, cur, e, -, -, h1, h2, -⟩
    · injection e with _ _ e
      unfold maxLen
      omega
    · injection e with _ _ e
      omega
  obtain ⟨h1c, h2c⟩ := hcap
  unfold maxLen at h2c
  obtain ⟨i0, hi0, hz0, hz1, hz2⟩ := info_parts infoS_i64
  have HV := Lib.hid hv
  have H0 := Lib.hid h0
  have HI := Lib.hid hi0
  have HZ0 := Lib.hid hz0
  have HZ1 := Lib.hid hz1
  have HZ2 := Lib.hid hz2
  have HS : Hid (SlV w w.heap.size 1 (some ⟨vb, 0, none⟩) 1 (lkCs [x])) := Lib.hid ⟨rfl, fun _ => ⟨vb, 0, rfl, (Array.getElem?_eq_some_iff.1 hv).1, fun j hj => by
    obtain rfl : j = 0 := by omega
    rw [cell_of_row _ _ _ _ _ _ hv]
    rfl⟩⟩
  clear hi0 hz0 hz1 hz2 hv h h0 S0
  go_enter Tryz.func156, Tryz.ntmps156
  go_wp2_with
    (at_builtin
     refine wpList_append_slv rfl _ _ 23 2 i0 (.int .i64 0) 1 8 rfl Tryz.underlying23 HI.out HZ0.out HZ1.out HZ2.out rfl (by decide) (by decide) B (.slice A l.length _) l.length (lkCs l) rfl H0.out (some ⟨vb, 0, none⟩) 1 1 (lkCs [x]) rfl (fun e => by cases e) HS.out (lkCs_one [x]) (by omega) hB ?_
     intro v' w2 hown hgrow
     have HO := Lib.hid hown
     have HG := Lib.hid hgrow
     clear hown hgrow)
  all_goals
    go_ret
    exact ⟨_, rfl, LkR.push x HO.out, Keeps.of_grownX (by cases A <;> exact HG.out)⟩

set_option maxRecDepth 100000 in
set_option maxHeartbeats 4000000 in
theorem insert_room (g c i : Nat) (hB : B ≤ w.heap.size) (h : LkR w B (.slice (some ⟨g, 0, none⟩) l.length c) l) (hi : i < l.length) (hc : l.length < c) (hne : vb ≠ g) (hv : w.heap[vb]? = some (.cells #[.int .i64 x] 2)) :
    Calls Tryz.prog 156 #[.slice (some ⟨g, 0, none⟩) l.length c, .int .i64 i, .slice (some ⟨vb, 0, none⟩) 1 1] w (Puts w B (.slice (some ⟨g, 0, none⟩) l.length c) (l.take i ++ x :: l.drop i)) := by
  obtain ⟨n, hn⟩ : ∃ n, l.length = n := ⟨_, rfl⟩
  have hcl : (lkCs l).length = n := by rw [lkCs_len]; omega
  have hcs := h.cells (g := g) rfl
  obtain ⟨cur, hcur, hcsz, hcm, hBg⟩ : ∃ cur, w.heap[g]? = some (.cells cur 2) ∧ cur.size = c ∧ c ≤ maxLen ∧ B ≤ g := by
    rcases h.2 with ⟨e, -⟩ | ⟨g', cap, cur, e, hb, hh, -, h2, h3, -⟩
    · cases e
    · injection e with e1 e2 e3
      injection e1 with e1
      injection e1 with e1 _ _
      subst e1 e3
      exact ⟨cur, hh, by omega, h2, hb⟩
  have HR : Hid (Row1 w g c) := Lib.hid ⟨cur, hcur, hcsz⟩
  have hfz : ∀ o, w.frozen? ⟨g, o, none⟩ = false := fun o => by simp [World.frozen?, hcur]
  have hsome : ∀ k, k < c → (w.cell? ⟨g, k, none⟩).isSome = true := fun k hk => by
    rw [cell_of_row _ _ _ _ _ _ hcur, Array.getElem?_eq_getElem (by omega)]
    rfl
  have hcells : ∀ j u, (lkCs l)[j]? = some u → w.cell? ⟨g, j, none⟩ = some u := fun j u hu => by
    have := hcs j u hu
    rwa [add_zero_block] at this
  have hvc : w.cell? ⟨vb, 0, none⟩ = some (.int .i64 x) := by rw [cell_of_row _ _ _ _ _ _ hv]; rfl
  have hsz : (Tryz.prog.info? 2).map (·.size) = some 1 := by kernel_rfl
  have hOV : ∀ lb cb, (callFunc 162 #[.slice (some ⟨vb, 0, none⟩) 1 1, .slice (some ⟨g, i + 1, none⟩) lb cb]).run Tryz.prog w = .ok (.value (.bool false)) w := fun lb cb => by
    rw [run_callFunc_extern Tryz.func162 (by kernel_rfl) (by kernel_rfl) (by kernel_rfl) (e := Extern.SlicesOverlaps.overlaps #[23, 23] #[4]) (by kernel_rfl),
      Lib.run_overlaps_apart w 23 4 2 (by kernel_rfl) 1 (fun _ => by kernel_rfl) ⟨vb, 0, none⟩ ⟨g, i + 1, none⟩ 1 1 lb cb hne 2 2 1 c (by simp [World.shape?, hv]) (by simp [World.shape?, hcur, hcsz]) (by omega) (by simp [World.frozen?, hv]) (by simp [World.frozen?, hv])]
    rfl
  obtain ⟨D, hD⟩ : ∃ D, (lkCs l).drop i = D := ⟨_, rfl⟩
  have hdl : D.length = n - i := by rw [← hD, List.length_drop, hcl]
  have hDc : ∀ j u, D[j]? = some u → w.cell? ⟨g, i + j, none⟩ = some u := fun j u hu => hcells _ _ (by rwa [← hD, List.getElem?_drop] at hu)
  have hD1 : ∀ u ∈ D, u.oneCell' = true := fun u hu => lk_oneC l u (List.mem_of_mem_drop (hD ▸ hu))
  have hcp1 : ∀ ty dc sc, (Builtin.copy_ #[23, 23] ty #[.slice (some ⟨g, i + 1, none⟩) (n - i) dc, .slice (some ⟨g, i, none⟩) (n + 1 - i) sc]).run Tryz.prog w.drew = .ok (goInt D.length) (w.drew.setCells g (i + 1) D) := fun ty dc sc =>
    run_copy_cells w.drew _ _ ty 2 g (i + 1) (n - i) dc ⟨g, i, none⟩ (n + 1 - i) sc D (by kernel_rfl) hsz (by rw [hdl]; simp only [Nat.min_def]; split <;> omega)
      (fun j u hj => by rw [Addr.add_lit]; exact hDc j u hj) (fun j hj => hsome _ (by omega)) (fun j hj => hfz _) hD1
  obtain ⟨W1, hW1⟩ : ∃ W1, W1 = w.drew.setCells g (i + 1) D := ⟨_, rfl⟩
  rw [← hW1] at hcp1
  have hs1 : ∀ k, k < c → (W1.cell? ⟨g, k, none⟩).isSome = true := fun k hk => by
    rw [hW1]
    exact isSome_setCells g D (i + 1) w.drew (fun j hj => hsome _ (by omega)) k (hsome k hk)
  have hcp2 : ∀ (W : World), (∀ x, W.cell? x = W1.cell? x) → (∀ x, W.frozen? x = W1.frozen? x) → ∀ ty dc, (Builtin.copy_ #[23, 23] ty #[.slice (some ⟨g, i, none⟩) (n + 1 - i) dc, .slice (some ⟨vb, 0, none⟩) 1 1]).run Tryz.prog W = .ok (goInt [Value.int .i64 x].length) (W.setCells g i [.int .i64 x]) := fun W hWc hWf ty dc =>
    run_copy_cells W _ _ ty 2 g i (n + 1 - i) dc ⟨vb, 0, none⟩ 1 1 [.int .i64 x] (by kernel_rfl) hsz (by simp only [Nat.min_def, List.length_singleton]; split <;> omega)
      (fun j u hj => by
        have hj0 : j = 0 := by have := (List.getElem?_eq_some_iff.1 hj).1; simpa using this
        subst hj0
        rw [Addr.add_lit, hWc, hW1, World.cell?_setCells_out g _ _ _ _ (fun h _ => absurd h hne)]
        exact hvc.trans hj)
      (fun j hj => by rw [hWc]; exact hs1 _ (by simp at hj; omega)) (fun j hj => by rw [hWf, hW1, World.frozen?_setCells]; exact hfz _) (fun u hu => by simp at hu; subst hu; rfl)
  have hl1 : ¬ ((i : Int) = (n : Int)) := by omega
  have hw1 : IntKind.i64.wrap ((i : Int) + 1) = (i : Int) + 1 := by rw [IntKind.wrap_i64]; unfold maxLen at hcm; omega
  have hw2 : IntKind.i64.wrap ((n : Int) + 1) = (n : Int) + 1 := by rw [IntKind.wrap_i64]; unfold maxLen at hcm; omega
  unfold maxLen at hcm
  rw [hn]
  have mixed : Tryz.prog.follows .mixedOrders = true := by kernel_rfl
  have hb1 : (0 : Int) ≤ (i : Int) + 1 := by omega
  have htn : ((i : Int) + 1).toNat = i + 1 := by omega
  have hb2 : ¬ (c = i + 1) := by omega
  have hb3 : (i : Int) + 1 ≤ (n : Int) + 1 := by omega
  have hb5 : (i : Int) ≤ (n : Int) + 1 := by omega
  have hb4 : ¬ (c = i) := by omega
  have hin : i < n := by omega
  have hnc : n < c := by omega
  have HN := Lib.hid hn
  have H0 := Lib.hid h
  clear h hn hcs hi hc hcur
  go_enter Tryz.func156, Tryz.ntmps156
  go_wp2_with (simp only [hOV])
  go_region_law_o (refine step_copy_runI rfl _ _ 23 23 rfl _ _ (by simp [Act.eval, Act.put]) (by simp [Act.eval, Act.put]) (hcp1 _ _ _) ?_)
  go_wp2_with
    (at_builtin
     refine wpList_copy_runI _ rfl _ _ 23 23 rfl _ _ rfl rfl (hcp2 _ (fun _ => rfl) (fun _ => rfl) _ _) ?_)
  go_ret
  have kp := (Keeps.of_below (S := (· = g)) (Below.refl w.heap.size w).drew).trans ((grown_sets g D (i + 1) w.drew).trans (grown_sets g [.int .i64 x] i _))
  refine ⟨.slice (some ⟨g, 0, none⟩) (n + 1) c, rfl, ?_, ?_⟩
  · unfold LkR
    rw [put_len (Nat.le_of_lt hin) HN.out, lkCs_put, hD]
    refine Row1.own (((show Row1 w.drew g c from HR.out).sets g D (i + 1)).sets g [.int .i64 x] i) (put_cells (i := i) (by rw [List.length_take, hcl]; omega) ?_ ?_ ?_) (by simp [hdl, hcl] <;> omega) hBg (by omega) (by unfold maxLen; omega)
    · intro j u hj
      have hj1 : j < i := by have := (List.getElem?_eq_some_iff.1 hj).1; rw [List.length_take] at this; omega
      rw [World.cell?_setCells_out g _ _ _ _ (fun _ _ => Or.inl hj1), World.cell?_setCells_out g _ _ _ _ (fun _ _ => Or.inl (show j < i + 1 by omega))]
      exact hcells j u (by rwa [List.getElem?_take_of_lt hj1] at hj)
    · have := World.cell?_setCells_in g [.int .i64 x] i (w.drew.setCells g (i + 1) D) (fun j hj => by rw [← hW1]; exact hs1 _ (by simp at hj; omega)) 0 (by simp)
      simpa using this
    · intro j u hj
      have hj1 := (List.getElem?_eq_some_iff.1 hj).1
      rw [World.cell?_setCells_out g _ _ _ _ (fun _ _ => Or.inr (show i + 1 ≤ i + 1 + j by omega)), World.cell?_setCells_in g D (i + 1) w.drew (fun j hj => hsome _ (by omega)) j hj1]
      rw [← hj, List.getElem?_eq_getElem hj1]
  · refine kp.mono fun b hb => ?_
    subst hb
    rfl

set_option maxRecDepth 100000 in
set_option maxHeartbeats 4000000 in
theorem insert_grow (g c i : Nat) (hB : B ≤ w.heap.size) (h : LkR w B (.slice (some ⟨g, 0, none⟩) l.length c) l) (hi : i < l.length) (hlc : l.length ≤ c) (hc : c < l.length + 1) (hl : l.length ≤ 1048576) (hv : w.heap[vb]? = some (.cells #[.int .i64 x] 2)) :
    Calls Tryz.prog 156 #[.slice (some ⟨g, 0, none⟩) l.length c, .int .i64 i, .slice (some ⟨vb, 0, none⟩) 1 1] w (Puts w B (.slice (some ⟨g, 0, none⟩) l.length c) (l.take i ++ x :: l.drop i)) := by
  obtain ⟨n, hn⟩ : ∃ n, l.length = n := ⟨_, rfl⟩
  have hcl : (lkCs l).length = n := by rw [lkCs_len]; omega
  have hcs := h.cells (g := g) rfl
  have hcells : ∀ j u, (lkCs l)[j]? = some u → w.cell? ⟨g, j, none⟩ = some u := fun j u hu => by
    have := hcs j u hu
    rwa [add_zero_block] at this
  have hg : g < w.heap.size := (h.lt rfl).2
  have hvl : vb < w.heap.size := (Array.getElem?_eq_some_iff.1 hv).1
  have hvc : w.cell? ⟨vb, 0, none⟩ = some (.int .i64 x) := by rw [cell_of_row _ _ _ _ _ _ hv]; rfl
  have hsz : (Tryz.prog.info? 2).map (·.size) = some 1 := by kernel_rfl
  obtain ⟨i0, hi0, hz0, hz1, hz2⟩ := info_parts infoS_i64
  have hk : n + 1 - i + i = n + 1 := by omega
  have hkk : (n : Int) + 1 - (i : Int) = ((n + 1 - i : Nat) : Int) := by omega
  have hold : (Builtin.firstCells i0.size i (.slice (some ⟨g, 0, none⟩) i c)).run Tryz.prog w.drew = .ok ((lkCs l).take i).toArray w.drew := by
    rw [hz1]
    refine run_firstCells_some w.drew 1 i ⟨g, 0, none⟩ i c ((lkCs l).take i) (by rw [List.length_take]; omega) (fun j u hj => ?_)
    rw [add_zero_block]
    have hj1 : j < i := by have := (List.getElem?_eq_some_iff.1 hj).1; rw [List.length_take] at this; omega
    exact hcells j u (by rwa [List.getElem?_take_of_lt hj1] at hj)
  obtain ⟨G, hG⟩ : ∃ G, G = grownCap w (n + 1) c 2 := ⟨_, rfl⟩
  obtain ⟨R, hR⟩ : ∃ R : Array Value, R = ((lkCs l).take i).toArray ++ Builtin.zeroCells (Value.int .i64 0).cells (n + 1 - i) ++ Builtin.zeroCells (Value.int .i64 0).cells (G - (n + 1)) := ⟨_, rfl⟩
  have hrz : ∀ ty, (Builtin.append_ #[23, 3] ty #[.slice (some ⟨g, 0, none⟩) i c, .int .i64 ((n : Int) + 1 - (i : Int))]).run Tryz.prog w = .ok (.slice (some ⟨w.heap.size, 0, none⟩) (n + 1) G) (w.drew.alloc (.cells R 2)) := fun ty => by
    have h := Lib.run_append_grow_zeros w 23 3 ty 2 i0 _ .i64 .i64 (by kernel_rfl) (by kernel_rfl) hi0 hz0 (some ⟨g, 0, none⟩) i c ((lkCs l).take i) hold (n + 1 - i) (by omega) (by omega) (by omega) (by omega) (by rw [hz2]; omega) (by rw [hz2, show i + (n + 1 - i) = n + 1 by omega]; exact growslice_fits (by omega) (by omega))
    rw [show i + (n + 1 - i) = n + 1 by omega, ← hG, ← hR] at h
    rw [hkk]
    exact h
  have hGn : n + 1 ≤ G := by rw [hG]; exact grownCap_ge w _ _ _
  have hGm : G ≤ maxLen := by rw [hG]; exact grownCap_le_maxLen w (n + 1) c _ (by unfold maxLen; omega)
  have hRs : R.size = G := by
    rw [hR]
    simp [Builtin.zeroCells, Value.cells, hcl]
    omega
  obtain ⟨W1, hW1⟩ : ∃ W1, W1 = w.drew.alloc (.cells R 2) := ⟨_, rfl⟩
  rw [← hW1] at hrz
  have hR1 : W1.heap[w.heap.size]? = some (.cells R 2) := by rw [hW1]; exact heap_alloc_new w.drew _
  have hs1 : ∀ k, k < G → (W1.cell? ⟨w.heap.size, k, none⟩).isSome = true := fun k hk => by
    rw [cell_of_row _ _ _ _ _ _ hR1, Array.getElem?_eq_getElem (by omega)]
    rfl
  have hf1 : ∀ k, W1.frozen? ⟨w.heap.size, k, none⟩ = false := fun k => by simp [World.frozen?, hR1]
  have hb1 : Below w.heap.size w W1 := by rw [hW1]; exact (Below.refl w.heap.size w).drew.alloc (Nat.le_refl _) _
  have hP1 : ∀ j u, ((lkCs l).take i)[j]? = some u → W1.cell? ⟨w.heap.size, j, none⟩ = some u := fun j u hj => by
    have hj1 := (List.getElem?_eq_some_iff.1 hj).1
    rw [cell_of_row _ _ _ _ _ _ hR1, hR, Array.append_assoc, Array.getElem?_append_left (by simpa using hj1)]
    simpa using hj
  obtain ⟨D, hD⟩ : ∃ D, (lkCs l).drop i = D := ⟨_, rfl⟩
  have hdl : D.length = n - i := by rw [← hD, List.length_drop, hcl]
  have hDc : ∀ j u, D[j]? = some u → W1.cell? ⟨g, i + j, none⟩ = some u := fun j u hu => by
    rw [hb1.cell hg]
    exact hcells _ _ (by rwa [← hD, List.getElem?_drop] at hu)
  have hD1 : ∀ u ∈ D, u.oneCell' = true := fun u hu => lk_oneC l u (List.mem_of_mem_drop (hD ▸ hu))
  have hv1 : W1.cell? ⟨vb, 0, none⟩ = some (.int .i64 x) := (hb1.cell hvl).trans hvc
  have hgN : g ≠ w.heap.size := by omega
  have hcpA : ∀ ty dc, (Builtin.copy_ #[23, 23] ty #[.slice (some ⟨w.heap.size, i, none⟩) (n + 1 - i) dc, .slice (some ⟨vb, 0, none⟩) 1 1]).run Tryz.prog W1 = .ok (goInt [Value.int .i64 x].length) (W1.setCells w.heap.size i [.int .i64 x]) := fun ty dc =>
    run_copy_cells W1 _ _ ty 2 w.heap.size i (n + 1 - i) dc ⟨vb, 0, none⟩ 1 1 [.int .i64 x] (by kernel_rfl) hsz (by simp only [Nat.min_def, List.length_singleton]; split <;> omega)
      (fun j u hj => by
        have hj0 : j = 0 := by have := (List.getElem?_eq_some_iff.1 hj).1; simpa using this
        subst hj0
        rw [Addr.add_lit]
        exact hv1.trans hj)
      (fun j hj => hs1 _ (by simp at hj; omega)) (fun j hj => hf1 _) (fun u hu => by simp at hu; subst hu; rfl)
  obtain ⟨W2, hW2⟩ : ∃ W2, W2 = W1.setCells w.heap.size i [.int .i64 x] := ⟨_, rfl⟩
  rw [← hW2] at hcpA
  have hs2 : ∀ k, k < G → (W2.cell? ⟨w.heap.size, k, none⟩).isSome = true := fun k hk => by
    rw [hW2]
    exact isSome_setCells w.heap.size _ i W1 (fun j hj => hs1 _ (by simp at hj; omega)) k (hs1 k hk)
  have hcpB : ∀ ty dc sc, (Builtin.copy_ #[23, 23] ty #[.slice (some ⟨w.heap.size, i + 1, none⟩) (n - i) dc, .slice (some ⟨g, i, none⟩) (n - i) sc]).run Tryz.prog W2.drew = .ok (goInt D.length) (W2.drew.setCells w.heap.size (i + 1) D) := fun ty dc sc =>
    run_copy_cells W2.drew _ _ ty 2 w.heap.size (i + 1) (n - i) dc ⟨g, i, none⟩ (n - i) sc D (by kernel_rfl) hsz (by rw [hdl]; simp only [Nat.min_def]; split <;> omega)
      (fun j u hj => by
        rw [Addr.add_lit]
        refine Eq.trans ?_ (hDc j u hj)
        show W2.cell? _ = _
        rw [hW2]
        exact World.cell?_setCells_out _ _ _ _ _ (fun h _ => absurd h hgN))
      (fun j hj => hs2 _ (by omega)) (fun j hj => by show W2.frozen? _ = _; rw [hW2, World.frozen?_setCells]; exact hf1 _) hD1
  have hl1 : ¬ ((i : Int) = (n : Int)) := by omega
  have hw1 : IntKind.i64.wrap ((i : Int) + 1) = (i : Int) + 1 := by rw [IntKind.wrap_i64]; omega
  have hw2 : IntKind.i64.wrap ((n : Int) + 1) = (n : Int) + 1 := by rw [IntKind.wrap_i64]; omega
  have hz3 : (c : Int) < (n : Int) + 1 := by omega
  have hin : i < n := by omega
  have hin2 : i ≤ n := by omega
  have hic : i ≤ c := by omega
  have hz4 : (0 : Int) ≤ (i : Int) + 1 := by omega
  have htn : ((i : Int) + 1).toNat = i + 1 := by omega
  have hG2 : ¬ (G = i + 1) := by omega
  have hG3 : ¬ (G = i) := by omega
  have hci : ¬ (c = i) := by omega
  have hb3 : (i : Int) + 1 ≤ (n : Int) + 1 := by omega
  have hb5 : (i : Int) ≤ (n : Int) + 1 := by omega
  unfold maxLen at hGm
  rw [hn]
  have mixed : Tryz.prog.follows .mixedOrders = true := by kernel_rfl
  have HN := Lib.hid hn
  have HP1 := Lib.hid hP1
  have HR1 := Lib.hid hR1
  have HR2 := Lib.hid hR
  have HW1 := Lib.hid hW1
  have HW2 := Lib.hid hW2
  clear h hn hcs hlc hi hold hR hR1 hP1 hG hkk hk hW1 hW2
  go_enter Tryz.func156, Tryz.ntmps156
  go_wp2_with (first
    | (at_builtin
       refine Lib.wpList_append_run _ rfl _ _ _ _ rfl _ _ rfl rfl _ _ (hrz _) ?_)
    | (at_builtin
       refine wpList_copy_runI _ rfl _ _ 23 23 rfl _ _ rfl rfl (hcpA _ _) ?_))
  all_goals
    go_region_law_o (refine step_copy_runI rfl _ _ 23 23 rfl _ _ (by simp [Act.eval, Act.put]) (by simp [Act.eval, Act.put]) (hcpB _ _ _) ?_)
    go_wp2
    go_ret
    refine ⟨.slice (some ⟨w.heap.size, 0, none⟩) (n + 1) G, rfl, ?_, ?_⟩
    · unfold LkR
      rw [put_len hin2 HN.out, lkCs_put, hD]
      have hr : Row1 W2 w.heap.size G := by rw [HW2.out]; exact Row1.sets _ _ _ ⟨R, HR1.out, hRs⟩
      refine Row1.own ((show Row1 W2.drew w.heap.size G from hr).sets w.heap.size D (i + 1)) (put_cells (i := i) (by rw [List.length_take, hcl]; omega) ?_ ?_ ?_) (by simp [hdl, hcl] <;> omega) hB hGn (by unfold maxLen; omega)
      · intro j u hj
        have hj1 : j < i := by have := (List.getElem?_eq_some_iff.1 hj).1; rw [List.length_take] at this; omega
        rw [World.cell?_setCells_out _ _ _ _ _ (fun _ _ => Or.inl (show j < i + 1 by omega))]
        show W2.cell? _ = _
        rw [HW2.out, World.cell?_setCells_out _ _ _ _ _ (fun _ _ => Or.inl hj1)]
        exact HP1.out j u hj
      · rw [World.cell?_setCells_out _ _ _ _ _ (fun _ _ => Or.inl (show i < i + 1 by omega))]
        show W2.cell? _ = _
        rw [HW2.out]
        have := World.cell?_setCells_in w.heap.size [.int .i64 x] i W1 (fun j hj => hs1 _ (by simp at hj; omega)) 0 (by simp)
        simpa using this
      · intro j u hj
        have hj1 := (List.getElem?_eq_some_iff.1 hj).1
        rw [World.cell?_setCells_in w.heap.size D (i + 1) W2.drew (fun j hj => hs2 _ (by omega)) j hj1]
        rw [← hj, List.getElem?_eq_getElem hj1]
    · have h2 : Below w.heap.size w W2 := by rw [HW2.out]; exact (grown_sets w.heap.size _ i W1).below' hb1
      exact Keeps.of_below ((grown_sets w.heap.size D (i + 1) W2.drew).below' h2.drew)
end
end Go.Proofs.YtkefbmbjkijilaaGreatDoor
/- Xd -/
set_option linter.unusedVariables false
namespace Go.Proofs.YtkefbmbjkijilaaGreatDoor
open Go.RowKit Go.Shelf Go.Sort

/-- How many lie ahead of it. -/
def placeN (l : List Int) (x : Int) : Nat := l.countP (· < x)
theorem place_le (l : List Int) (x : Int) : placeN l x ≤ l.length := List.countP_le_length
theorem place_all {l : List Int} {x : Int} (h : ∀ y ∈ l, x < y) : placeN l x = 0 := by
  unfold placeN
  rw [List.countP_eq_zero]
  intro y hy
  have := h y hy
  simp
  omega
theorem with_place {l : List Int} (x : Int) (h : l.Pairwise (· < ·)) : withN x l = if l.contains x then l else l.take (placeN l x) ++ x :: l.drop (placeN l x) := by
  induction l with
  | nil => rfl
  | cons y l ih =>
    obtain ⟨h1, h2⟩ := List.pairwise_cons.1 h
    unfold withN
    by_cases e1 : x < y
    · have hp : placeN (y :: l) x = 0 := place_all fun z hz => by
        rcases List.mem_cons.1 hz with rfl | hz
        · exact e1
        · have := h1 z hz; omega
      have hc : (y :: l).contains x = false := by
        rw [List.contains_eq_mem, decide_eq_false_iff_not]
        intro hm
        rcases List.mem_cons.1 hm with rfl | hm
        · omega
        · have := h1 x hm; omega
      rw [if_pos e1, hc, hp]
      rfl
    · rw [if_neg e1]
      by_cases e2 : x = y
      · subst e2
        simp
      · have hy : y < x := by omega
        have hp : placeN (y :: l) x = placeN l x + 1 := by simp [placeN, hy]
        have hc : (y :: l).contains x = l.contains x := by simp [e2]
        rw [if_neg e2, ih h2, hc, hp]
        split <;> simp
theorem without_place {l : List Int} (x : Int) (h : l.Pairwise (· < ·)) : withoutN l x = if l.contains x then l.take (placeN l x) ++ l.drop (placeN l x + 1) else l := by
  induction l with
  | nil => rfl
  | cons y l ih =>
    obtain ⟨h1, h2⟩ := List.pairwise_cons.1 h
    by_cases e2 : y = x
    · subst e2
      have hp : placeN (y :: l) y = 0 := by
        have : placeN l y = 0 := place_all h1
        simpa [placeN] using this
      have hf : withoutN (y :: l) y = l := by
        have : ∀ z ∈ l, (z != y) = true := fun z hz => by have := h1 z hz; simp; omega
        simp [withoutN]
        exact fun z hz => by have := h1 z hz; omega
      rw [hf, hp]
      simp
    · have hc : (y :: l).contains x = l.contains x := by
        have : ¬ x = y := fun e => e2 e.symm
        simp [this]
      have hw : withoutN (y :: l) x = y :: withoutN l x := by simp [withoutN, e2]
      rw [hw, hc, ih h2]
      by_cases hm : l.contains x = true
      · have hx : y < x := h1 x (by simpa using hm)
        have hp : placeN (y :: l) x = placeN l x + 1 := by simp [placeN, hx]
        rw [if_pos hm, if_pos hm, hp]
        simp
      · rw [if_neg hm, if_neg hm]
theorem place_lt {l : List Int} {x : Int} (hc : l.contains x = true) (h : l.Pairwise (· < ·)) : placeN l x < l.length := by
  induction l with
  | nil => simp at hc
  | cons y l ih =>
    obtain ⟨h1, h2⟩ := List.pairwise_cons.1 h
    by_cases e : x = y
    · subst e
      have : placeN l x = 0 := place_all h1
      have hp : placeN (x :: l) x = 0 := by simpa [placeN] using this
      rw [hp]
      simp
    · have hm : l.contains x = true := by simpa [e] using hc
      have := ih hm h2
      have hp : placeN (y :: l) x ≤ placeN l x + 1 := by unfold placeN; rw [List.countP_cons]; split <;> omega
      simp only [List.length_cons]
      omega

theorem row_cut {w : World} {B e g n m c : Nat} {xs : List Value} (h : w.ownsRow B e 1 (.slice (some ⟨g, 0, none⟩) n c) n xs) (hm : m ≤ n) : w.ownsRow B e 1 (.slice (some ⟨g, 0, none⟩) m c) m (xs.take m) := by
  obtain ⟨hl, ⟨h0, -⟩ | ⟨g', cap, cur, hv, hb, hh, hnc, hcm, hsz, ht⟩⟩ := h
  · cases h0
  · cases hv
    refine ⟨by rw [List.length_take]; omega, .inr ⟨g, c, cur, rfl, hb, hh, by omega, hcm, hsz, ?_⟩⟩
    rw [← ht, List.take_take]
    congr 1
    omega

set_option maxRecDepth 100000 in
set_option maxHeartbeats 2000000 in
theorem search_any (v : Value) (l : List Int) (x : Int) (w : World) (B : Nat) (h : LkR w B v l) (hr : l.Pairwise (· < ·)) (hl : l.length ≤ 1048576) :
    Calls Tryz.prog 155 #[v, .int .i64 x] w fun e w' => e = .returned (.tuple #[.int .i64 (placeN l x : Nat), .bool (l.contains x)]) ∧ ∃ q, w' = w.drewN q := by
  rcases h.2 with ⟨rfl, hn⟩ | ⟨g, cap, cur, rfl, hb, hh, hnc, hcm, hsz, ht⟩
  · have h0 : l = [] := List.length_eq_zero_iff.1 hn
    subst h0
    go_enter Tryz.func155, Tryz.ntmps155
    go_wp2
    go_loopw [7, 8] (fun a b wr => a = .int .i64 0 ∧ b = .int .i64 0 ∧ wr = w) (fun _ _ _ => 0)
    case atStart => exact ⟨rfl, rfl, rfl⟩
    case round =>
      obtain ⟨rfl, rfl, rfl⟩ := hrel
      go_wp2
      go_ret2
      exact ⟨rfl, 0, rfl⟩
  · have hcs := h.cells (g := g) rfl
    have := AnyG.slices_BinarySearch_int lays_search g 0 l.length cap l x w (Nat.le_refl _) (by omega) (fun j hj => by
      have h1 := hcs j _ (lkCs_at l hj)
      rw [add_zero_block] at h1
      rw [Nat.zero_add]
      exact h1) (by rw [List.take_length]; exact hr.imp fun h => Int.le_of_lt h)
    rw [List.take_length] at this
    exact this

theorem delete_any (v : Value) (l : List Int) (i : Nat) (w : World) (B : Nat) (h : LkR w B v l) (hi : i < l.length) (hl : l.length ≤ 1048576) :
    Calls Tryz.prog 157 #[v, .int .i64 i, .int .i64 ((i : Int) + 1)] w (Puts w B v (l.take i ++ l.drop (i + 1))) := by
  rcases h.2 with ⟨rfl, hn⟩ | ⟨g, cap, cur, rfl, hb, hh, hnc, hcm, hsz, ht⟩
  · omega
  · have hH : Holds (Value.int .i64) w g 0 l.toArray := holds_of_blockI hh (by rw [Nat.mul_one] at ht; exact ht)
    unfold maxLen at hcm
    have := AnyG.slices_Delete_int lays_delete g 0 cap i (i + 1) l w hH (by omega) (by omega) (by omega) (by omega)
    rw [show ((i + 1 : Nat) : Int) = (i : Int) + 1 from Int.natCast_succ i] at this
    refine Calls.mono this ?_
    rintro e w' ⟨rfl, q, rfl⟩
    have hlen : (l.take i ++ l.drop (i + 1) ++ List.replicate (i + 1 - i) 0).length = l.length := by simp; omega
    have hrow := ownsRow_sortedI (w := w) (n := q) (os := #[]) (base := B) hlen hb hh (by omega) (by unfold maxLen; omega) (by omega)
    have hg := grownBy_sortedI (w := w) (g := g) (n := q) (os := #[]) (l.take i ++ l.drop (i + 1) ++ List.replicate (i + 1 - i) 0).toArray
    rw [grow_empty] at hrow hg
    refine ⟨_, rfl, ?_, Keeps.of_grownX hg⟩
    have := row_cut hrow (m := l.length - (i + 1 - i)) (by omega)
    unfold LkR
    have hl2 : (l.take i ++ l.drop (i + 1)).length = l.length - (i + 1 - i) := by simp; omega
    rw [hl2]
    have hx : ((l.take i ++ l.drop (i + 1) ++ List.replicate (i + 1 - i) 0).map (Value.int .i64)).take (l.length - (i + 1 - i)) = lkCs (l.take i ++ l.drop (i + 1)) := by
      rw [← hl2, List.map_append, List.take_left' (by simp)]
      rfl
    rw [← hx]
    exact this
end Go.Proofs.YtkefbmbjkijilaaGreatDoor
/- Xh -/
set_option linter.unusedVariables false
namespace Go.Proofs.YtkefbmbjkijilaaGreatDoor
open Go.RowKit

set_option maxRecDepth 4000 in
set_option maxHeartbeats 4000000 in
theorem ownState_any (v : Value) (s : StD) (w : World) (h : IsStR w w.heap.size v s) : Calls Tryz.prog 100 #[v] w (MadeS w s) := by
  obtain ⟨⟨A0_, A1_, A2_, A3_, c0, c1, c2, c3, rfl, ⟨s0, s1, s2, s3⟩, r0, r1, r2, r3⟩, f0, f1, f2, f3⟩ := h
  obtain ⟨ph, co, ck, bo, ba, lb, l0, l1, l2, l3, gd, pr⟩ := s
  dsimp only at *
  have S0 := Lib.hid s0
  have S1 := Lib.hid s1
  have S2 := Lib.hid s2
  have S3 := Lib.hid s3
  have R0 := Lib.hid r0
  have R1 := Lib.hid r1
  have R2 := Lib.hid r2
  have R3 := Lib.hid r3
  have F0 := Lib.hid f0
  have F1 := Lib.hid f1
  have F2 := Lib.hid f2
  have F3 := Lib.hid f3
  clear s0 s1 s2 s3 r0 r1 r2 r3 f0 f1 f2 f3
  obtain ⟨i0, hi, hz0, hz1, hz2⟩ := info_parts infoS_pod
  have HI := Lib.hid hi
  have HZ0 := Lib.hid hz0
  have HZ1 := Lib.hid hz1
  have HZ2 := Lib.hid hz2
  clear hi hz0 hz1 hz2
  obtain ⟨i1, hi, hz0, hz1, hz2⟩ := info_parts infoS_mnt
  have GI := Lib.hid hi
  have GZ0 := Lib.hid hz0
  have GZ1 := Lib.hid hz1
  have GZ2 := Lib.hid hz2
  clear hi hz0 hz1 hz2
  obtain ⟨i2, hi, hz0, hz1, hz2⟩ := info_parts infoS_bool
  have DI := Lib.hid hi
  have DZ0 := Lib.hid hz0
  have DZ1 := Lib.hid hz1
  have DZ2 := Lib.hid hz2
  clear hi hz0 hz1 hz2
  obtain ⟨i3, hi, hz0, hz1, hz2⟩ := info_parts infoS_i64
  have EI := Lib.hid hi
  have EZ0 := Lib.hid hz0
  have EZ1 := Lib.hid hz1
  have EZ2 := Lib.hid hz2
  clear hi hz0 hz1 hz2
  have T0 := Two.start w (stC A0_ A1_ A2_ A3_ l0.length c0 l1.length c1 l2.length c2 l3.length c3 ph co ck bo ba lb gd pr) (stC none none none none 0 0 0 0 0 0 0 0 0 false 0 0 0 0 0 0) 46 46
  have HW : Hid (((w.alloc (.cells (stC A0_ A1_ A2_ A3_ l0.length c0 l1.length c1 l2.length c2 l3.length c3 ph co ck bo ba lb gd pr) 46)).alloc (.cells (stC none none none none 0 0 0 0 0 0 0 0 0 false 0 0 0 0 0 0) 46)).heap.size = w.heap.size + 1 + 1) := Lib.hid (by simp)
  go_enter Tryz.func100, Tryz.ntmps100
  go_wp2_with (first
      | (at_builtin
         have AS3 := A3.set (Nat.le_refl _) (i := 8) (by simp) (.slice B2 l2.length d2)
         have OS3 := O3.far (p := ⟨w.heap.size, 8, none⟩) (Nat.le_refl _) (by simp) (.slice B2 l2.length d2)
         have HQ30 := Lib.hid (ownsRow_setCell_below (HO20).out (a := ⟨w.heap.size, 8, none⟩) (by simp) (.slice B2 l2.length d2))
         have HQ31 := Lib.hid (ownsRow_setCell_below (HO21).out (a := ⟨w.heap.size, 8, none⟩) (by simp) (.slice B2 l2.length d2))
         have HQ32 := Lib.hid (ownsRow_setCell_below (HO22).out (a := ⟨w.heap.size, 8, none⟩) (by simp) (.slice B2 l2.length d2))
         refine wpList_append_slv rfl _ _ 23 2 i3 (.int .i64 0) 1 8 rfl Tryz.underlying23 EI.out EZ0.out EZ1.out EZ2.out rfl (by decide) (by decide) (w.heap.size + 2) _ 0 [] rfl (made_at _ _ _ _ _ (by simp) OS3.z) A3_ l3.length c3 (lkCs l3) rfl R3.out (S3.out.below (AS3.K.alloc AS3.K.size _) (Nat.le_refl _)) (lkCs_one l3) (by have := F3.out; omega) (le_alloc OS3.z) ?_
         intro v3 w5 hown hgrow
         have K3 := grown_at (by simp) hgrow
         have A4 := AS3.step K3
         have O4 := OS3.step K3
         replace hown : w5.ownsRow (w.heap.size + 2) 2 1 v3 l3.length (lkCs l3) := by simpa using hown
         obtain ⟨B3, d3, rfl, -⟩ := open_rowR hown
         have HO33 := Lib.hid hown
         have HO30 := Lib.hid (ownsRow_below HQ30.out K3)
         have HO31 := Lib.hid (ownsRow_below HQ31.out K3)
         have HO32 := Lib.hid (ownsRow_below HQ32.out K3)
         clear hown hgrow K3 hC hF hz AS3 OS3 A3 O3
         have hC := A4.C
         have hF := A4.F
         have hz := A4.z
         have hD := O4.C
         have hG := O4.F)
      | (at_builtin
         have AS2 := A2.set (Nat.le_refl _) (i := 7) (by simp) (.slice B1 l1.length d1)
         have OS2 := O2.far (p := ⟨w.heap.size, 7, none⟩) (Nat.le_refl _) (by simp) (.slice B1 l1.length d1)
         have HQ20 := Lib.hid (ownsRow_setCell_below (HO10).out (a := ⟨w.heap.size, 7, none⟩) (by simp) (.slice B1 l1.length d1))
         have HQ21 := Lib.hid (ownsRow_setCell_below (HO11).out (a := ⟨w.heap.size, 7, none⟩) (by simp) (.slice B1 l1.length d1))
         refine wpList_append_slv rfl _ _ 30 4 i2 (.bool false) 1 1 rfl Tryz.underlying30 DI.out DZ0.out DZ1.out DZ2.out rfl (by decide) (by decide) (w.heap.size + 2) _ 0 [] rfl (made_at _ _ _ _ _ (by simp) OS2.z) A2_ l2.length c2 (devCs l2) rfl R2.out (S2.out.below (AS2.K.alloc AS2.K.size _) (Nat.le_refl _)) (devCs_one l2) (by have := F2.out; omega) (le_alloc OS2.z) ?_
         intro v2 w4 hown hgrow
         have K2 := grown_at (by simp) hgrow
         have A3 := AS2.step K2
         have O3 := OS2.step K2
         replace hown : w4.ownsRow (w.heap.size + 2) 4 1 v2 l2.length (devCs l2) := by simpa using hown
         obtain ⟨B2, d2, rfl, -⟩ := open_rowR hown
         have HO22 := Lib.hid hown
         have HO20 := Lib.hid (ownsRow_below HQ20.out K2)
         have HO21 := Lib.hid (ownsRow_below HQ21.out K2)
         clear hown hgrow K2 hC hF hz AS2 OS2 A2 O2
         have hC := A3.C
         have hF := A3.F
         have hz := A3.z)
      | (at_builtin
         have AS1 := A1.set (Nat.le_refl _) (i := 6) (by simp) (.slice B0 l0.length d0)
         have OS1 := O1.far (p := ⟨w.heap.size, 6, none⟩) (Nat.le_refl _) (by simp) (.slice B0 l0.length d0)
         have HQ10 := Lib.hid (ownsRow_setCell_below (HO00).out (a := ⟨w.heap.size, 6, none⟩) (by simp) (.slice B0 l0.length d0))
         refine wpList_append_slv rfl _ _ 44 108 i1 (.agg #[.bool false, .int .i64 0]) 2 16 rfl Tryz.underlying44 GI.out GZ0.out GZ1.out GZ2.out rfl (by decide) (by decide) (w.heap.size + 2) _ 0 [] rfl (made_at _ _ _ _ _ (by simp) OS1.z) A1_ l1.length c1 (mntCs l1) rfl R1.out (S1.out.below (AS1.K.alloc AS1.K.size _) (Nat.le_refl _)) (mntCs_one l1) (by have := F1.out; omega) (le_alloc OS1.z) ?_
         intro v1 w3 hown hgrow
         have K1 := grown_at (by simp) hgrow
         have A2 := AS1.step K1
         have O2 := OS1.step K1
         replace hown : w3.ownsRow (w.heap.size + 2) 108 2 v1 l1.length (mntCs l1) := by simpa using hown
         obtain ⟨B1, d1, rfl, -⟩ := open_rowR hown
         have HO11 := Lib.hid hown
         have HO10 := Lib.hid (ownsRow_below HQ10.out K1)
         clear hown hgrow K1 hC hF hz AS1 OS1 A1 O1
         have hC := A2.C
         have hF := A2.F
         have hz := A2.z)
      | (at_builtin
         refine wpList_append_slv rfl _ _ 43 106 i0 (.agg #[.int .i64 0, .int .i64 0]) 2 16 rfl Tryz.underlying43 HI.out HZ0.out HZ1.out HZ2.out rfl (by decide) (by decide) (w.heap.size + 2) _ 0 [] rfl (made_at _ _ _ _ _ HW.out T0.O.z) A0_ l0.length c0 (podCs l0) rfl R0.out (S0.out.below (T0.A.K.alloc T0.A.K.size _) (Nat.le_refl _)) (podCs_one l0) (by have := F0.out; omega) (le_alloc T0.O.z) ?_
         intro v0 w2 hown hgrow
         have K0 := grown_at HW.out hgrow
         have A1 := T0.A.step K0
         have O1 := T0.O.step K0
         replace hown : w2.ownsRow (w.heap.size + 2) 106 2 v0 l0.length (podCs l0) := by simpa using hown
         obtain ⟨B0, d0, rfl, -⟩ := open_rowR hown
         have HO00 := Lib.hid hown
         clear hown hgrow K0 T0 HW
         have hC := A1.C
         have hF := A1.F
         have hz := A1.z))
  refine bodyPost_ret (v := .agg (stC B0 B1 B2 B3 l0.length d0 l1.length d1 l2.length d2 l3.length d3 ph co ck bo ba lb gd pr)) ?_ rfl ⟨_, rfl, ⟨_, _, _, _, rfl, ?_, ?_, ?_, ?_⟩, ?_⟩
  · simp [results, Tryz.results100, go_sem, hD]
  · refine ownsRow_base (base := w.heap.size + 2) ?_ (by omega)
    iterate 13 (refine ownsRow_setCell_below ?_ (by simp) _)
    exact HO30.out
  · refine ownsRow_base (base := w.heap.size + 2) ?_ (by omega)
    iterate 13 (refine ownsRow_setCell_below ?_ (by simp) _)
    exact HO31.out
  · refine ownsRow_base (base := w.heap.size + 2) ?_ (by omega)
    iterate 13 (refine ownsRow_setCell_below ?_ (by simp) _)
    exact HO32.out
  · refine ownsRow_base (base := w.heap.size + 2) ?_ (by omega)
    iterate 13 (refine ownsRow_setCell_below ?_ (by simp) _)
    exact HO33.out
  · iterate 13 (refine Below.setCell ?_ (by simp) _)
    exact A4.K
theorem inB_lt {a n : Int} (h : 0 ≤ a) : inB a 0 (n - 1) = decide (a < n) := by
  have e : decide (a ≤ n - 1) = decide (a < n) := by rw [Bool.eq_iff_iff]; simp; omega
  simp [inB, h, e]
set_option maxHeartbeats 2000000 in
theorem isThere_any (v : Value) (s : StD) (r : RecD) (w : World) (h : IsSt w w.heap.size v s) (ha0 : 0 ≤ r.a) :
    Calls Tryz.prog 103 #[v, recC r] w fun e w' => e = .returned (.bool (thereB s r)) ∧ Below w.heap.size w w' := by
  obtain ⟨⟨A0, A1, A2, A3, c0, c1, c2, c3, rfl, -, -, -, -⟩, b0, b1, b2, b3⟩ := h
  obtain ⟨ph, co, ck, bo, ba, lb, l0, l1, l2, l3, gd, pr⟩ := s
  obtain ⟨k, a, b⟩ := r
  dsimp only at *
  unfold maxLen at b0 b1 b2 b3
  have h2 : k = 2 → thereB ⟨ph, co, ck, bo, ba, lb, l0, l1, l2, l3, gd, pr⟩ ⟨k, a, b⟩ = decide (a < l0.length) := fun h => by subst h; rfl
  have h3 : k = 3 ∨ k = 4 → thereB ⟨ph, co, ck, bo, ba, lb, l0, l1, l2, l3, gd, pr⟩ ⟨k, a, b⟩ = decide (a < l1.length) := fun h => by rcases h with rfl | rfl <;> rfl
  have h5 : k = 5 → thereB ⟨ph, co, ck, bo, ba, lb, l0, l1, l2, l3, gd, pr⟩ ⟨k, a, b⟩ = decide (a < l2.length) := fun h => by subst h; rfl
  have hn : k ≠ 2 → k ≠ 3 → k ≠ 4 → k ≠ 5 → thereB ⟨ph, co, ck, bo, ba, lb, l0, l1, l2, l3, gd, pr⟩ ⟨k, a, b⟩ = true := fun a1 a2 a3 a4 => by simp [thereB, a1, a2, a3, a4]
  generalize thereB ⟨ph, co, ck, bo, ba, lb, l0, l1, l2, l3, gd, pr⟩ ⟨k, a, b⟩ = ans at *
  generalize l0.length = n0 at *
  generalize l1.length = n1 at *
  generalize l2.length = n2 at *
  generalize l3.length = n3 at *
  have H2 := Lib.hid h2
  have H3 := Lib.hid h3
  have H5 := Lib.hid h5
  have HN := Lib.hid hn
  clear h2 h3 h5 hn
  unfold recC
  dsimp only
  have K0 := ((Below.refl w.heap.size w).alloc (Nat.le_refl _) (.cells (stC A0 A1 A2 A3 n0 c0 n1 c1 n2 c2 n3 c3 ph co ck bo ba lb gd pr) 46))
  have K1 := K0.alloc K0.size (.cells #[.int .i64 k, .int .i64 a, .int .i64 b] 96)
  have HK := Lib.hid K1
  clear K0 K1
  by_cases e2 : k = 2
  · have HA := Lib.hid (H2.out e2)
    subst e2
    go_enter Tryz.func103, Tryz.ntmps103
    go_wp2_with (go_at_call 134; refine (isIndex_any _ _ _).mono ?_; rintro e w' ⟨rfl, rfl⟩)
    go_ret
    exact ⟨ret_bool (by rw [HA.out]; exact inB_lt ha0), HK.out⟩
  · by_cases e3 : k = 3
    · have HA := Lib.hid (H3.out (.inl e3))
      subst e3
      go_enter Tryz.func103, Tryz.ntmps103
      go_wp2_with (go_at_call 134; refine (isIndex_any _ _ _).mono ?_; rintro e w' ⟨rfl, rfl⟩)
      go_ret
      exact ⟨ret_bool (by rw [HA.out]; exact inB_lt ha0), HK.out⟩
    · by_cases e4 : k = 4
      · have HA := Lib.hid (H3.out (.inr e4))
        subst e4
        go_enter Tryz.func103, Tryz.ntmps103
        go_wp2_with (go_at_call 134; refine (isIndex_any _ _ _).mono ?_; rintro e w' ⟨rfl, rfl⟩)
        go_ret
        exact ⟨ret_bool (by rw [HA.out]; exact inB_lt ha0), HK.out⟩
      · by_cases e5 : k = 5
        · have HA := Lib.hid (H5.out e5)
          subst e5
          go_enter Tryz.func103, Tryz.ntmps103
          go_wp2_with (go_at_call 134; refine (isIndex_any _ _ _).mono ?_; rintro e w' ⟨rfl, rfl⟩)
          go_ret
          exact ⟨ret_bool (by rw [HA.out]; exact inB_lt ha0), HK.out⟩
        · have HA := Lib.hid (HN.out e2 e3 e4 e5)
          have x2 : (k == 2) = false := by simp [e2]
          have x3 : (k == 3) = false := by simp [e3]
          have x4 : (k == 4) = false := by simp [e4]
          have x5 : (k == 5) = false := by simp [e5]
          go_enter Tryz.func103, Tryz.ntmps103
          go_wp2
          go_ret
          exact ⟨ret_bool HA.out.symm, HK.out⟩
end Go.Proofs.YtkefbmbjkijilaaGreatDoor
/- Vd -/
set_option linter.unusedVariables false
namespace Go.Proofs.YtkefbmbjkijilaaGreatDoor
open Go.RowKit

theorem slv_of_row {w : World} {B k n g : Nat} {A : Option Addr} {xs : List Value} (hA : 0 < n → A = some ⟨g, 0, none⟩) (hz : 0 < n → g < B) (R : RowV w g xs) (hl : xs.length = n * k) : SlV w B k A n xs :=
  ⟨hl, fun hn => ⟨g, 0, hA hn, hz hn, fun j hj => by rw [Nat.zero_add]; exact (R j (by omega)).1⟩⟩
theorem Rows4.is {w : World} {v : Value} {s : StD} {g0 g1 g2 g3 : Nat} (h : Rows4 w v s g0 g1 g2 g3) (hf : StFits s 1048576) : IsSt w w.heap.size v s := by
  obtain ⟨⟨A0, A1, A2, A3, c0, c1, c2, c3, hv, a0, a1, a2, a3⟩, z0, R0, z1, R1, z2, R2, z3, R3, -, -, -, -, -, -⟩ := h
  obtain ⟨f0, f1, f2, f3⟩ := hf
  have hm : 1048576 ≤ maxLen := by unfold maxLen; decide
  exact ⟨⟨A0, A1, A2, A3, c0, c1, c2, c3, hv, slv_of_row a0 z0 R0 (podCs_len _), slv_of_row a1 z1 R1 (mntCs_len _), slv_of_row a2 z2 R2 (devCs_len _), slv_of_row a3 z3 R3 (lkCs_len _)⟩, by omega, by omega, by omega, by omega⟩
theorem Rows4.keeps {S : Nat → Prop} {w w' : World} {v : Value} {s : StD} {g0 g1 g2 g3 : Nat} (h : Rows4 w v s g0 g1 g2 g3) (k : Keeps S w w') (n0 : 0 < s.pods.length → ¬ S g0) (n1 : 0 < s.mnts.length → ¬ S g1) (n2 : 0 < s.devs.length → ¬ S g2) (n3 : 0 < s.lks.length → ¬ S g3) : Rows4 w' v s g0 g1 g2 g3 := by
  obtain ⟨hv, z0, R0, z1, R1, z2, R2, z3, R3, d01, d02, d03, d12, d13, d23⟩ := h
  have e0 : (podCs s.pods).length = s.pods.length * 2 := podCs_len _
  have e1 : (mntCs s.mnts).length = s.mnts.length * 2 := mntCs_len _
  have e2 : (devCs s.devs).length = s.devs.length * 1 := devCs_len _
  have e3 : (lkCs s.lks).length = s.lks.length * 1 := lkCs_len _
  exact ⟨hv, fun h => Nat.lt_of_lt_of_le (z0 h) k.size, fun j hj => RowV.keeps R0 k (z0 (by omega)) (n0 (by omega)) j hj, fun h => Nat.lt_of_lt_of_le (z1 h) k.size, fun j hj => RowV.keeps R1 k (z1 (by omega)) (n1 (by omega)) j hj,
    fun h => Nat.lt_of_lt_of_le (z2 h) k.size, fun j hj => RowV.keeps R2 k (z2 (by omega)) (n2 (by omega)) j hj, fun h => Nat.lt_of_lt_of_le (z3 h) k.size, fun j hj => RowV.keeps R3 k (z3 (by omega)) (n3 (by omega)) j hj, d01, d02, d03, d12, d13, d23⟩
/-- A state whose lists, where they hold something, lie in blocks of their own from B to E. -/
structure RowsIn (w : World) (v : Value) (s : StD) (B E : Nat) : Prop where
  it : ∃ g0 g1 g2 g3, Rows4 w v s g0 g1 g2 g3 ∧ (B ≤ g0 ∧ B ≤ g1 ∧ B ≤ g2 ∧ B ≤ g3) ∧ (0 < s.pods.length → g0 < E) ∧ (0 < s.mnts.length → g1 < E) ∧ (0 < s.devs.length → g2 < E) ∧ (0 < s.lks.length → g3 < E)
theorem RowsIn.of {w : World} {B : Nat} {v : Value} {s : StD} (h : OwnSt w B v s) (hB : B ≤ w.heap.size) : RowsIn w v s B w.heap.size := by
  obtain ⟨g0, g1, g2, g3, R, b0, b1, b2, b3⟩ := h.rows hB
  exact ⟨g0, g1, g2, g3, R, ⟨b0, b1, b2, b3⟩, R.z0, R.z1, R.z2, R.z3⟩
theorem RowsIn.val {w : World} {B E : Nat} {v : Value} {s : StD} (h : RowsIn w v s B E) : ∃ A0 A1 A2 A3 c0 c1 c2 c3, v = .agg (stC A0 A1 A2 A3 s.pods.length c0 s.mnts.length c1 s.devs.length c2 s.lks.length c3 s.ph s.co s.ck s.bo s.ba s.lb s.gd s.pr) := by
  obtain ⟨g0, g1, g2, g3, R, -⟩ := h.it
  obtain ⟨A0, A1, A2, A3, c0, c1, c2, c3, hv, -⟩ := R.val
  exact ⟨A0, A1, A2, A3, c0, c1, c2, c3, hv⟩
theorem RowsIn.go {w w' : World} {B E : Nat} {v : Value} {s : StD} (h : RowsIn w v s B E) (hb : Below w.heap.size w w') : RowsIn w' v s B E := by
  obtain ⟨g0, g1, g2, g3, R, bs, es⟩ := h.it
  exact ⟨g0, g1, g2, g3, R.go hb, bs, es⟩
theorem RowsIn.is {w : World} {B E : Nat} {v : Value} {s : StD} (h : RowsIn w v s B E) (hf : StFits s 1048576) : IsSt w w.heap.size v s := by
  obtain ⟨g0, g1, g2, g3, R, -⟩ := h.it
  exact R.is hf
theorem RowsIn.keeps {S : Nat → Prop} {w w' : World} {B E : Nat} {v : Value} {s : StD} (h : RowsIn w v s B E) (k : Keeps S w w') (hS : ∀ b, B ≤ b → b < E → ¬ S b) : RowsIn w' v s B E := by
  obtain ⟨g0, g1, g2, g3, R, ⟨b0, b1, b2, b3⟩, e0, e1, e2, e3⟩ := h.it
  exact ⟨g0, g1, g2, g3, R.keeps k (fun h => hS _ b0 (e0 h)) (fun h => hS _ b1 (e1 h)) (fun h => hS _ b2 (e2 h)) (fun h => hS _ b3 (e3 h)), ⟨b0, b1, b2, b3⟩, e0, e1, e2, e3⟩
theorem if_pick {n g m : Nat} : ∃ h, (0 < n → h = g) ∧ (¬ 0 < n → h = m) := by
  by_cases hn : 0 < n
  · exact ⟨g, fun _ => rfl, fun h => absurd hn h⟩
  · exact ⟨m, fun h => absurd h hn, fun _ => rfl⟩
theorem row_pick {w : World} {n g h : Nat} {xs : List Value} {k : Nat} (R : RowV w g xs) (e : 0 < n → h = g) (hl : xs.length = n * k) : RowV w h xs := by
  intro j hj
  have hn : 0 < n := Nat.pos_of_ne_zero fun h0 => by rw [h0, Nat.zero_mul] at hl; omega
  rw [e hn]
  exact R j hj
/-- The same rows, those that hold nothing named by numbers behind the heap. -/
theorem RowsIn.apart {w : World} {B E : Nat} {v : Value} {s : StD} (h : RowsIn w v s B E) : ∃ g0 g1 g2 g3, Rows4 w v s g0 g1 g2 g3 ∧ (B ≤ g0 ∧ B ≤ g1 ∧ B ≤ g2 ∧ B ≤ g3) ∧ ((0 < s.pods.length → g0 < E) ∧ (0 < s.mnts.length → g1 < E) ∧ (0 < s.devs.length → g2 < E) ∧ (0 < s.lks.length → g3 < E)) ∧
    ∀ b, b < w.heap.size → (b = g0 ∨ b = g1 ∨ b = g2 ∨ b = g3) → B ≤ b ∧ b < E := by
  obtain ⟨g0, g1, g2, g3, R, ⟨b0, b1, b2, b3⟩, e0, e1, e2, e3⟩ := h.it
  obtain ⟨⟨A0, A1, A2, A3, c0, c1, c2, c3, hv, a0, a1, a2, a3⟩, z0, R0, z1, R1, z2, R2, z3, R3, d01, d02, d03, d12, d13, d23⟩ := R
  obtain ⟨h0, p0, q0⟩ := if_pick (n := s.pods.length) (g := g0) (m := w.heap.size + B)
  obtain ⟨h1, p1, q1⟩ := if_pick (n := s.mnts.length) (g := g1) (m := w.heap.size + B + 1)
  obtain ⟨h2, p2, q2⟩ := if_pick (n := s.devs.length) (g := g2) (m := w.heap.size + B + 2)
  obtain ⟨h3, p3, q3⟩ := if_pick (n := s.lks.length) (g := g3) (m := w.heap.size + B + 3)
  have k0 : B ≤ h0 := by by_cases hn : 0 < s.pods.length <;> simp [p0, q0, hn] <;> omega
  have k1 : B ≤ h1 := by by_cases hn : 0 < s.mnts.length <;> simp [p1, q1, hn] <;> omega
  have k2 : B ≤ h2 := by by_cases hn : 0 < s.devs.length <;> simp [p2, q2, hn] <;> omega
  have k3 : B ≤ h3 := by by_cases hn : 0 < s.lks.length <;> simp [p3, q3, hn] <;> omega
  refine ⟨h0, h1, h2, h3, ⟨⟨A0, A1, A2, A3, c0, c1, c2, c3, hv, fun h => by rw [p0 h]; exact a0 h, fun h => by rw [p1 h]; exact a1 h, fun h => by rw [p2 h]; exact a2 h, fun h => by rw [p3 h]; exact a3 h⟩,
    fun h => by rw [p0 h]; exact z0 h, row_pick R0 p0 (podCs_len _), fun h => by rw [p1 h]; exact z1 h, row_pick R1 p1 (mntCs_len _), fun h => by rw [p2 h]; exact z2 h, row_pick R2 p2 (devCs_len _), fun h => by rw [p3 h]; exact z3 h, row_pick R3 p3 (lkCs_len _), ?_, ?_, ?_, ?_, ?_, ?_⟩,
    ⟨k0, k1, k2, k3⟩, ⟨fun h => by rw [p0 h]; exact e0 h, fun h => by rw [p1 h]; exact e1 h, fun h => by rw [p2 h]; exact e2 h, fun h => by rw [p3 h]; exact e3 h⟩, ?_⟩
  all_goals
    by_cases n0 : 0 < s.pods.length <;> by_cases n1 : 0 < s.mnts.length <;> by_cases n2 : 0 < s.devs.length <;> by_cases n3 : 0 < s.lks.length <;>
      simp only [n0, n1, n2, n3, true_implies, not_true_eq_false, not_false_eq_true, false_implies] at p0 q0 p1 q1 p2 q2 p3 q3 z0 z1 z2 z3 e0 e1 e2 e3 <;> (try intro b hb hor) <;> omega
theorem Keeps.into {S S' : Nat → Prop} {w w' : World} (k : Keeps S w w') (h : ∀ b, b < w.heap.size → S b → S' b) : Keeps S' w w' := ⟨k.os, k.tape, k.output, k.size, fun b hb hn => k.block b hb fun hs => hn (h b hb hs)⟩
theorem markIn_any (v : Value) (s : StD) (B E : Nat) (k : Int) (w : World) (h : RowsIn w v s B E) (hf : StFits s 1048576) (hk0 : 0 ≤ k) (hk1 : k + totS s ≤ 8388608) :
    Calls Tryz.prog 51 #[v, .int .i64 k] w fun e w' => e = .returned (.int .i64 (k + totS s)) ∧ RowsIn w' v (markS k s) B E ∧ Keeps (fun b => B ≤ b ∧ b < E) w w' := by
  obtain ⟨g0, g1, g2, g3, R, bs, es, hs⟩ := h.apart
  refine (markState_any v s g0 g1 g2 g3 k w R hf hk0 hk1).mono ?_
  rintro e w' ⟨he, R', k'⟩
  exact ⟨he, ⟨g0, g1, g2, g3, R', bs, by simpa [markS, mkPods_len, mkMnts_len, mkDevs_len, mkLks_len] using es⟩, k'.into hs⟩
theorem heldIn_any (v : Value) (s : StD) (B E : Nat) (k : Int) (w : World) (h : RowsIn w v (markS k s) B E) (hf : StFits s 1048576) (hk0 : 0 ≤ k) (hk1 : k + totS s ≤ 8388608) :
    Calls Tryz.prog 53 #[v, .int .i64 k] w fun e w' => e = .returned (.int .i64 (k + totS s)) ∧ Below w.heap.size w w' := by
  obtain ⟨g0, g1, g2, g3, R, -⟩ := h.it
  exact heldState_any v s g0 g1 g2 g3 k w R hf hk0 hk1
theorem fits_tot {s : StD} (hf : StFits s 1048576) : totS s ≤ 6291456 := by
  obtain ⟨f0, f1, f2, f3⟩ := hf
  unfold totS
  omega
end Go.Proofs.YtkefbmbjkijilaaGreatDoor
/- Cb -/
set_option linter.unusedVariables false
namespace Go.Proofs.YtkefbmbjkijilaaGreatDoor
open Go.ChangeShapes Go.WideShapes Go.ChangeAt Go.RowKit Go.Deep

set_option maxRecDepth 100000 in
theorem open_bt {H : Type} {enc : TypeId × Value → H} {W : World} {spare : Nat → Bool} {held : Bool} {r : Reach} {b0 : Nat} {v : Value} {d : DataW H} {p : List MemPlace}
    (hv : Value.okWide Tryz.prog W r b0 33 v) (h : DataW.Trod enc Tryz.prog W 0 spare held 33 v d p) : ∃ L, Bt W W.heap.size v L := by
  obtain ⟨a0, l0, c0, rfl⟩ := okWide_slice Tryz.underlying33 hv
  obtain ⟨fuel, hf⟩ := h
  have hf : DataW.trod enc Tryz.prog W 0 spare held fuel 33 [.slice a0 l0 c0] = some (d, p) := hf
  rcases open_ints Tryz.underlying33 Tryz.underlying5 (by kernel_rfl) hf with ⟨h1, _⟩ | ⟨a, len, cap, zs, hcs, hb, hl, hm, hz, hx, hcell, hwf⟩
  · injection h1 with h1 _
    rw [h1]
    exact ⟨[], Bt.nil _ _ _ _⟩
  · injection hcs with hv _
    have hlm : len ≤ zs.length := by rw [hz]; split <;> omega
    have hlen : ((zs.take len).map Int.toNat).length = len := by rw [List.length_map, List.length_take]; omega
    have hrange : ∀ z ∈ zs, 0 ≤ z ∧ z ≤ 255 := fun z hz => by
      have := hwf z hz
      simp [Lit.wf, IntKind.min, IntKind.max, IntKind.signed, IntKind.bits] at this
      omega
    refine ⟨(zs.take len).map Int.toNat, ⟨⟨some a, cap, by rw [hlen]; exact hv, by rw [hlen]; exact hl, fun hn => ?_⟩, by rw [hlen]; exact Nat.le_trans hl hm, fun x hx => ?_⟩⟩
    · rw [hlen] at hn ⊢
      have h0 := hcell 0 (by omega)
      have hsp : a.spot = none := by simpa [Addr.add] using World.cell?_spot h0
      obtain ⟨b, off, sp⟩ := a
      subst hsp
      refine ⟨b, off, rfl, block_lt_of_cell h0, fun j hj => ?_⟩
      have hc := hcell j (by omega)
      rw [add_plain] at hc
      rw [hc]
      have hj' : j < zs.length := by omega
      have hr := hrange zs[j] (List.getElem_mem hj')
      have e1 : zs.getD j 0 = zs[j] := by simp [List.getD, hj']
      have e2 : ((zs.take len).map Int.toNat).getD j 0 = zs[j].toNat := by simp [List.getD, hj, hj']
      rw [e1, e2]
      congr 2
      omega
    · obtain ⟨z, hz, rfl⟩ := List.mem_map.1 hx
      have := hrange z (List.mem_of_mem_take hz)
      omega
end Go.Proofs.YtkefbmbjkijilaaGreatDoor
/- Ca -/
set_option linter.unusedVariables false
namespace Go.Proofs.YtkefbmbjkijilaaGreatDoor
open Go.ChangeShapes Go.WideShapes Go.ChangeAt Go.RowKit Go.Deep

abbrev namesLaid {H : Type} : DataW H := Rows.laid_loop_example_g00767_impl_kindNames
theorem names_global : Tryz.prog.globalNamed "loop.example/g00767/impl.kindNames" = some 0 := by kernel_rfl
theorem names_type : (Tryz.prog.globals[0]?).map (·.type) = some 177 := by kernel_rfl

set_option maxRecDepth 100000 in
theorem names_of_head {W : World} {r : List (String × DataW Unit)} (h' : laidMet Tryz.prog (("loop.example/g00767/impl.kindNames", namesLaid) :: r) W) : Names W := by
  obtain ⟨ps, ⟨g, t, cs, fuel, p, q, h1, h2, h3, h4, _, _⟩, _, _⟩ := h'
  obtain rfl := Option.some.inj (names_global.symm.trans h1)
  obtain rfl := Option.some.inj (names_type.symm.trans h2)
  obtain ⟨xs, m, rfl, hx, hcl, hxl, hat⟩ := DataW.trod_array Tryz.underlying177 h4
  have hce : Tryz.prog.cellsOf 9 = 1 := by kernel_rfl
  have hc13 : Tryz.prog.cellsOf 177 = 13 := by kernel_rfl
  rw [hc13] at hcl
  have hcell := fun i => World.var?_cell names_global h3 i
  have hsz : cs.size = 13 := by simpa using hcl
  have hlt : 0 < W.heap.size := by
    have h0 := hcell 0
    rw [Array.getElem?_eq_getElem (by omega)] at h0
    exact block_lt_of_cell h0
  refine ⟨hlt, fun i hi => ?_⟩
  rw [hcell i]
  have hi' := hat i hi
  rw [hce, Nat.mul_one] at hi'
  have hone : (cs.toList.drop i).take 1 = [cs[i]'(by omega)] := by
    rw [List.drop_eq_getElem_cons (by simp; omega)]
    simp
  rw [hone] at hi'
  rw [Array.getElem?_eq_getElem (by omega)]
  cases hxi : xs[i]? with
  | none => rw [List.getElem?_eq_none_iff] at hxi; omega
  | some x =>
    rw [hxi] at hi'
    obtain ⟨s, hs, rfl, _⟩ := DataW.trod_string Tryz.underlying9 hi'
    injection hs with hs _
    have hd : (xs.map (·.1))[i]? = some (.lit (.string s.data.toList)) := by simp [hxi]
    have hx1 := congrArg Prod.fst hx
    have hx1 : (namesLaid : DataW Unit) = .agg (xs.map (·.1)) := hx1
    have hx2 : xs.map (·.1) = _ := (DataW.agg.inj hx1).symm
    rw [hx2] at hd
    rw [hs]
    congr 2
    rcases (by omega : i = 0 ∨ i = 1 ∨ i = 2 ∨ i = 3 ∨ i = 4 ∨ i = 5 ∨ i = 6 ∨ i = 7 ∨ i = 8 ∨ i = 9 ∨ i = 10 ∨ i = 11 ∨ i = 12) with rfl | rfl | rfl | rfl | rfl | rfl | rfl | rfl | rfl | rfl | rfl | rfl | rfl
    all_goals
      apply ByteArray.ext
      apply Array.toList_inj.1
      exact (Lit.string.inj (DataW.lit.inj (Option.some.inj hd))).symm

theorem names_of_laid {W : World} (h : laidMetH Tryz.prog [("loop.example/g00767/impl.kindNames", namesLaid)] W) : Names W := by
  have h' : laidMet Tryz.prog [("loop.example/g00767/impl.kindNames", namesLaid)] W := h
  exact names_of_head h'

/-- A world in which the variable lies as it is listed. -/
noncomputable def laidWorld (os : Os) : World :=
  let w0 := World.holding Tryz.prog os ⟨#[], #[], []⟩
  { w0 with heap := w0.heap.modify 0 fun
      | .cells _ t frozen => .cells #[.string (nameOf 0), .string (nameOf 1), .string (nameOf 2), .string (nameOf 3), .string (nameOf 4), .string (nameOf 5), .string (nameOf 6), .string (nameOf 7), .string (nameOf 8), .string (nameOf 9), .string (nameOf 10), .string (nameOf 11), .string (nameOf 12)] t frozen
      | o => o }
theorem laidWorld_met (os : Os) (args : Array Value) : laidMetH Tryz.prog [("loop.example/g00767/impl.kindNames", namesLaid)] ((laidWorld os).forCall (fun _ _ => 0) ⟨#[], args, []⟩).memory :=
  laidMet_of_run' 8 (by kernel_rfl) (by kernel_rfl)
end Go.Proofs.YtkefbmbjkijilaaGreatDoor
