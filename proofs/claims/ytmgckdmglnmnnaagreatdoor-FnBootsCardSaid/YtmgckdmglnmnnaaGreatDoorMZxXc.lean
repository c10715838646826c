/-
  slices.Insert of one number into a list of the call's own.
-/
import Derived.Test.YtmgckdmglnmnnaaGreatDoorMZ5
import Derived.Test.YtmgckdmglnmnnaaGreatDoorMZ6
import Derived.Shelf.Spec.SlicesInsertGrow
import Derived.Lib.AppendZerosOnto
import Derived.Lib.Overlaps
/- Xc -/
set_option linter.unusedVariables false
namespace Go.Proofs.YtmgckdmglnmnnaaGreatDoor
open Go.RowKit

/-- A block of so many cells. -/
def Row1 (w : World) (g cap : Nat) : Prop := ∃ cur, w.heap[g]? = some (.cells cur 2) ∧ cur.size = cap
theorem Row1.set {w : World} {g cap : Nat} (h : Row1 w g cap) (b i : Nat) (v : Value) : Row1 (w.setCell ⟨b, i, none⟩ v) g cap := by
  obtain ⟨cur, hc, hs⟩ := h
  by_cases e : g = b
  · subst e
    exact ⟨_, heap_setCell_same w g i cur _ v hc, by simpa using hs⟩
  · exact ⟨cur, (heap_setCell_other w ⟨b, i, none⟩ g v e).trans hc, hs⟩
theorem Row1.sets {g cap : Nat} (b : Nat) : ∀ (vs : List Value) (o : Nat) {w : World}, Row1 w g cap → Row1 (w.setCells b o vs) g cap
  | [], _, _, h => h
  | v :: vs, o, _, h => Row1.sets b vs (o + 1) (h.set b o v)
theorem grown_sets (g : Nat) : ∀ (vs : List Value) (o : Nat) (w : World), Keeps (· = g) w (w.setCells g o vs)
  | [], _, w => Keeps.refl _ w
  | v :: vs, o, w => ((Keeps.refl (· = g) w).set rfl v).trans (grown_sets g vs (o + 1) _)
theorem Keeps.below' {w w1 w2 : World} (h : Keeps (· = w.heap.size) w1 w2) (hb : Below w.heap.size w w1) : Below w.heap.size w w2 := hb.trans (h.below hb.size fun b hlt e => by omega)
theorem Row1.own {w : World} {g cap n B : Nat} {xs : List Value} (h : Row1 w g cap) (hx : ∀ j v, xs[j]? = some v → w.cell? ⟨g, j, none⟩ = some v) (hl : xs.length = n) (hB : B ≤ g) (hn : n ≤ cap) (hm : cap ≤ maxLen) :
    w.ownsRow B 2 1 (.slice (some ⟨g, 0, none⟩) n cap) n xs := by
  obtain ⟨cur, hc, hs⟩ := h
  refine ⟨by omega, .inr ⟨g, cap, cur, rfl, hB, hc, hn, hm, by omega, ?_⟩⟩
  apply List.ext_getElem?
  intro j
  by_cases hj : j < n
  · have h1 := hx j _ (List.getElem?_eq_getElem (show j < xs.length by omega))
    rw [cell_of_row _ _ _ _ _ _ hc] at h1
    rw [List.getElem?_take_of_lt (by omega), Array.getElem?_toList, h1, List.getElem?_eq_getElem (by omega)]
  · rw [List.getElem?_eq_none (by rw [List.length_take]; omega), List.getElem?_eq_none (by omega)]
theorem lkCs_put (l : List Int) (i : Nat) (x : Int) : lkCs (l.take i ++ x :: l.drop i) = (lkCs l).take i ++ .int .i64 x :: (lkCs l).drop i := by simp [lkCs, List.map_take, List.map_drop]
/-- What one put into a list answers. -/
def Puts (w : World) (B : Nat) (v : Value) (l : List Int) (e : Ending) (w' : World) : Prop := ∃ v', e = .returned v' ∧ LkR w' B v' l ∧ Keeps (fun g => v.ownBlock = some g) w w'
theorem Keeps.of_grownX {w w' : World} {v : Value} (h : w.grownBy w' v.ownBlock) : Keeps (fun g => v.ownBlock = some g) w w' := ⟨h.os, h.tape, h.output, h.size, fun b hb hn => h.block b hb fun e => hn e.symm⟩
theorem lk_oneC (l : List Int) : ∀ v ∈ lkCs l, v.oneCell' = true := lkCs_one l

theorem put_len {l : List Int} {x : Int} {i n : Nat} (hi : i ≤ n) (hn : l.length = n) : (l.take i ++ x :: l.drop i).length = n + 1 := by
  simp
  omega
theorem put_cells {W : World} {g i : Nat} {P D : List Value} {y : Value} (hi : P.length = i) (hP : ∀ j u, P[j]? = some u → W.cell? ⟨g, j, none⟩ = some u) (hy : W.cell? ⟨g, i, none⟩ = some y)
    (hD : ∀ j u, D[j]? = some u → W.cell? ⟨g, i + 1 + j, none⟩ = some u) : ∀ j u, (P ++ y :: D)[j]? = some u → W.cell? ⟨g, j, none⟩ = some u := by
  intro j u hj
  by_cases h1 : j < i
  · exact hP j u (by rwa [List.getElem?_append_left (by omega)] at hj)
  · rw [List.getElem?_append_right (by omega), hi] at hj
    by_cases h2 : j = i
    · subst h2
      rw [Nat.sub_self] at hj
      exact hy.trans hj
    · obtain ⟨k, rfl⟩ : ∃ k, j = i + 1 + k := ⟨j - (i + 1), by omega⟩
      rw [show i + 1 + k - i = k + 1 by omega] at hj
      exact hD k u hj

section
variable (l : List Int) (x : Int) (w : World) (B vb : Nat)

set_option maxRecDepth 100000 in
set_option maxHeartbeats 4000000 in
theorem insert_end (v : Value) (hB : B ≤ w.heap.size) (h : LkR w B v l) (hl : l.length ≤ 1048576) (hv : w.heap[vb]? = some (.cells #[.int .i64 x] 2)) :
    Calls Tryz.prog 78 #[v, .int .i64 l.length, .slice (some ⟨vb, 0, none⟩) 1 1] w (Puts w B v (l ++ [x])) := by
  have h0 : LkR w B v l := h
  obtain ⟨A, c, rfl, r0, S0⟩ := open_rowR h
  have hcap : l.length ≤ c ∧ c ≤ maxLen := by
    rcases h0.2 with ⟨e, hn⟩ | ⟨g, cap, cur, e, -, -, h1, h2, -⟩
    · injection e with _ _ e
      unfold maxLen
      omega
    · injection e with _ _ e
      omega
  obtain ⟨h1c, h2c⟩ := hcap
  unfold maxLen at h2c
  obtain ⟨i0, hi0, hz0, hz1, hz2⟩ := info_parts infoS_i64
  have HV := Lib.hid hv
  have H0 := Lib.hid h0
  have HI := Lib.hid hi0
  have HZ0 := Lib.hid hz0
  have HZ1 := Lib.hid hz1
  have HZ2 := Lib.hid hz2
  have HS : Hid (SlV w w.heap.size 1 (some ⟨vb, 0, none⟩) 1 (lkCs [x])) := Lib.hid ⟨rfl, fun _ => ⟨vb, 0, rfl, (Array.getElem?_eq_some_iff.1 hv).1, fun j hj => by
    obtain rfl : j = 0 := by omega
    rw [cell_of_row _ _ _ _ _ _ hv]
    rfl⟩⟩
  clear hi0 hz0 hz1 hz2 hv h h0 S0
  go_enter Tryz.func78, Tryz.ntmps78
  go_wp2_with
    (at_builtin
     refine wpList_append_slv rfl _ _ 25 2 i0 (.int .i64 0) 1 8 rfl Tryz.underlying25 HI.out HZ0.out HZ1.out HZ2.out rfl (by decide) (by decide) B (.slice A l.length _) l.length (lkCs l) rfl H0.out (some ⟨vb, 0, none⟩) 1 1 (lkCs [x]) rfl (fun e => by cases e) HS.out (lkCs_one [x]) (by omega) hB ?_
     intro v' w2 hown hgrow
     have HO := Lib.hid hown
     have HG := Lib.hid hgrow
     clear hown hgrow)
  all_goals
    go_ret
    exact ⟨_, rfl, LkR.push x HO.out, Keeps.of_grownX (by cases A <;> exact HG.out)⟩

set_option maxRecDepth 100000 in
set_option maxHeartbeats 4000000 in
theorem insert_room (g c i : Nat) (hB : B ≤ w.heap.size) (h : LkR w B (.slice (some ⟨g, 0, none⟩) l.length c) l) (hi : i < l.length) (hc : l.length < c) (hne : vb ≠ g) (hv : w.heap[vb]? = some (.cells #[.int .i64 x] 2)) :
    Calls Tryz.prog 78 #[.slice (some ⟨g, 0, none⟩) l.length c, .int .i64 i, .slice (some ⟨vb, 0, none⟩) 1 1] w (Puts w B (.slice (some ⟨g, 0, none⟩) l.length c) (l.take i ++ x :: l.drop i)) := by
  obtain ⟨n, hn⟩ : ∃ n, l.length = n := ⟨_, rfl⟩
  have hcl : (lkCs l).length = n := by rw [lkCs_len]; omega
  have hcs := h.cells (g := g) rfl
  obtain ⟨cur, hcur, hcsz, hcm, hBg⟩ : ∃ cur, w.heap[g]? = some (.cells cur 2) ∧ cur.size = c ∧ c ≤ maxLen ∧ B ≤ g := by
    rcases h.2 with ⟨e, -⟩ | ⟨g', cap, cur, e, hb, hh, -, h2, h3, -⟩
    · cases e
    · injection e with e1 e2 e3
      injection e1 with e1
      injection e1 with e1 _ _
      subst e1 e3
      exact ⟨cur, hh, by omega, h2, hb⟩
  have HR : Hid (Row1 w g c) := Lib.hid ⟨cur, hcur, hcsz⟩
  have hfz : ∀ o, w.frozen? ⟨g, o, none⟩ = false := fun o => by simp [World.frozen?, hcur]
  have hsome : ∀ k, k < c → (w.cell? ⟨g, k, none⟩).isSome = true := fun k hk => by
    rw [cell_of_row _ _ _ _ _ _ hcur, Array.getElem?_eq_getElem (by omega)]
    rfl
  have hcells : ∀ j u, (lkCs l)[j]? = some u → w.cell? ⟨g, j, none⟩ = some u := fun j u hu => by
    have := hcs j u hu
    rwa [add_zero_block] at this
  have hvc : w.cell? ⟨vb, 0, none⟩ = some (.int .i64 x) := by rw [cell_of_row _ _ _ _ _ _ hv]; rfl
  have hsz : (Tryz.prog.info? 2).map (·.size) = some 1 := by kernel_rfl
  have hOV : ∀ lb cb, (callFunc 88 #[.slice (some ⟨vb, 0, none⟩) 1 1, .slice (some ⟨g, i + 1, none⟩) lb cb]).run Tryz.prog w = .ok (.value (.bool false)) w := fun lb cb => by
    rw [run_callFunc_extern Tryz.func88 (by kernel_rfl) (by kernel_rfl) (by kernel_rfl) (e := Extern.SlicesOverlaps.overlaps #[25, 25] #[4]) (by kernel_rfl),
      Lib.run_overlaps_apart w 25 4 2 (by kernel_rfl) 1 (fun _ => by kernel_rfl) ⟨vb, 0, none⟩ ⟨g, i + 1, none⟩ 1 1 lb cb hne 2 2 1 c (by simp [World.shape?, hv]) (by simp [World.shape?, hcur, hcsz]) (by omega) (by simp [World.frozen?, hv]) (by simp [World.frozen?, hv])]
    rfl
  obtain ⟨D, hD⟩ : ∃ D, (lkCs l).drop i = D := ⟨_, rfl⟩
  have hdl : D.length = n - i := by rw [← hD, List.length_drop, hcl]
  have hDc : ∀ j u, D[j]? = some u → w.cell? ⟨g, i + j, none⟩ = some u := fun j u hu => hcells _ _ (by rwa [← hD, List.getElem?_drop] at hu)
  have hD1 : ∀ u ∈ D, u.oneCell' = true := fun u hu => lk_oneC l u (List.mem_of_mem_drop (hD ▸ hu))
  have hcp1 : ∀ ty dc sc, (Builtin.copy_ #[25, 25] ty #[.slice (some ⟨g, i + 1, none⟩) (n - i) dc, .slice (some ⟨g, i, none⟩) (n + 1 - i) sc]).run Tryz.prog w.drew = .ok (goInt D.length) (w.drew.setCells g (i + 1) D) := fun ty dc sc =>
    run_copy_cells w.drew _ _ ty 2 g (i + 1) (n - i) dc ⟨g, i, none⟩ (n + 1 - i) sc D (by kernel_rfl) hsz (by rw [hdl]; simp only [Nat.min_def]; split <;> omega)
      (fun j u hj => by rw [Addr.add_lit]; exact hDc j u hj) (fun j hj => hsome _ (by omega)) (fun j hj => hfz _) hD1
  obtain ⟨W1, hW1⟩ : ∃ W1, W1 = w.drew.setCells g (i + 1) D := ⟨_, rfl⟩
  rw [← hW1] at hcp1
  have hs1 : ∀ k, k < c → (W1.cell? ⟨g, k, none⟩).isSome = true := fun k hk => by
    rw [hW1]
    exact isSome_setCells g D (i + 1) w.drew (fun j hj => hsome _ (by omega)) k (hsome k hk)
  have hcp2 : ∀ (W : World), (∀ x, W.cell? x = W1.cell? x) → (∀ x, W.frozen? x = W1.frozen? x) → ∀ ty dc, (Builtin.copy_ #[25, 25] ty #[.slice (some ⟨g, i, none⟩) (n + 1 - i) dc, .slice (some ⟨vb, 0, none⟩) 1 1]).run Tryz.prog W = .ok (goInt [Value.int .i64 x].length) (W.setCells g i [.int .i64 x]) := fun W hWc hWf ty dc =>
    run_copy_cells W _ _ ty 2 g i (n + 1 - i) dc ⟨vb, 0, none⟩ 1 1 [.int .i64 x] (by kernel_rfl) hsz (by simp only [Nat.min_def, List.length_singleton]; split <;> omega)
      (fun j u hj => by
        have hj0 : j = 0 := by have := (List.getElem?_eq_some_iff.1 hj).1; simpa using this
        subst hj0
        rw [Addr.add_lit, hWc, hW1, World.cell?_setCells_out g _ _ _ _ (fun h _ => absurd h hne)]
        exact hvc.trans hj)
      (fun j hj => by rw [hWc]; exact hs1 _ (by simp at hj; omega)) (fun j hj => by rw [hWf, hW1, World.frozen?_setCells]; exact hfz _) (fun u hu => by simp at hu; subst hu; rfl)
  have hl1 : ¬ ((i : Int) = (n : Int)) := by omega
  have hw1 : IntKind.i64.wrap ((i : Int) + 1) = (i : Int) + 1 := by rw [IntKind.wrap_i64]; unfold maxLen at hcm; omega
  have hw2 : IntKind.i64.wrap ((n : Int) + 1) = (n : Int) + 1 := by rw [IntKind.wrap_i64]; unfold maxLen at hcm; omega
  unfold maxLen at hcm
  rw [hn]
  have mixed : Tryz.prog.follows .mixedOrders = true := by kernel_rfl
  have hb1 : (0 : Int) ≤ (i : Int) + 1 := by omega
  have htn : ((i : Int) + 1).toNat = i + 1 := by omega
  have hb2 : ¬ (c = i + 1) := by omega
  have hb3 : (i : Int) + 1 ≤ (n : Int) + 1 := by omega
  have hb5 : (i : Int) ≤ (n : Int) + 1 := by omega
  have hb4 : ¬ (c = i) := by omega
  have hin : i < n := by omega
  have hnc : n < c := by omega
  have HN := Lib.hid hn
  have H0 := Lib.hid h
  clear h hn hcs hi hc hcur
  go_enter Tryz.func78, Tryz.ntmps78
  go_wp2_with (simp only [hOV])
  go_region_law_o (refine step_copy_runI rfl _ _ 25 25 rfl _ _ (by simp [Act.eval, Act.put]) (by simp [Act.eval, Act.put]) (hcp1 _ _ _) ?_)
  go_wp2_with
    (at_builtin
     refine wpList_copy_runI _ rfl _ _ 25 25 rfl _ _ rfl rfl (hcp2 _ (fun _ => rfl) (fun _ => rfl) _ _) ?_)
  go_ret
  have kp := (Keeps.of_below (S := (· = g)) (Below.refl w.heap.size w).drew).trans ((grown_sets g D (i + 1) w.drew).trans (grown_sets g [.int .i64 x] i _))
  refine ⟨.slice (some ⟨g, 0, none⟩) (n + 1) c, rfl, ?_, ?_⟩
  · unfold LkR
    rw [put_len (Nat.le_of_lt hin) HN.out, lkCs_put, hD]
    refine Row1.own (((show Row1 w.drew g c from HR.out).sets g D (i + 1)).sets g [.int .i64 x] i) (put_cells (i := i) (by rw [List.length_take, hcl]; omega) ?_ ?_ ?_) (by simp [hdl, hcl] <;> omega) hBg (by omega) (by unfold maxLen; omega)
    · intro j u hj
      have hj1 : j < i := by have := (List.getElem?_eq_some_iff.1 hj).1; rw [List.length_take] at this; omega
      rw [World.cell?_setCells_out g _ _ _ _ (fun _ _ => Or.inl hj1), World.cell?_setCells_out g _ _ _ _ (fun _ _ => Or.inl (show j < i + 1 by omega))]
      exact hcells j u (by rwa [List.getElem?_take_of_lt hj1] at hj)
    · have := World.cell?_setCells_in g [.int .i64 x] i (w.drew.setCells g (i + 1) D) (fun j hj => by rw [← hW1]; exact hs1 _ (by simp at hj; omega)) 0 (by simp)
      simpa using this
    · intro j u hj
      have hj1 := (List.getElem?_eq_some_iff.1 hj).1
      rw [World.cell?_setCells_out g _ _ _ _ (fun _ _ => Or.inr (show i + 1 ≤ i + 1 + j by omega)), World.cell?_setCells_in g D (i + 1) w.drew (fun j hj => hsome _ (by omega)) j hj1]
      rw [← hj, List.getElem?_eq_getElem hj1]
  · refine kp.mono fun b hb => ?_
    subst hb
    rfl

set_option maxRecDepth 100000 in
set_option maxHeartbeats 4000000 in
theorem insert_grow (g c i : Nat) (hB : B ≤ w.heap.size) (h : LkR w B (.slice (some ⟨g, 0, none⟩) l.length c) l) (hi : i < l.length) (hlc : l.length ≤ c) (hc : c < l.length + 1) (hl : l.length ≤ 1048576) (hv : w.heap[vb]? = some (.cells #[.int .i64 x] 2)) :
    Calls Tryz.prog 78 #[.slice (some ⟨g, 0, none⟩) l.length c, .int .i64 i, .slice (some ⟨vb, 0, none⟩) 1 1] w (Puts w B (.slice (some ⟨g, 0, none⟩) l.length c) (l.take i ++ x :: l.drop i)) := by
  obtain ⟨n, hn⟩ : ∃ n, l.length = n := ⟨_, rfl⟩
  have hcl : (lkCs l).length = n := by rw [lkCs_len]; omega
  have hcs := h.cells (g := g) rfl
  have hcells : ∀ j u, (lkCs l)[j]? = some u → w.cell? ⟨g, j, none⟩ = some u := fun j u hu => by
    have := hcs j u hu
    rwa [add_zero_block] at this
  have hg : g < w.heap.size := (h.lt rfl).2
  have hvl : vb < w.heap.size := (Array.getElem?_eq_some_iff.1 hv).1
  have hvc : w.cell? ⟨vb, 0, none⟩ = some (.int .i64 x) := by rw [cell_of_row _ _ _ _ _ _ hv]; rfl
  have hsz : (Tryz.prog.info? 2).map (·.size) = some 1 := by kernel_rfl
  obtain ⟨i0, hi0, hz0, hz1, hz2⟩ := info_parts infoS_i64
  have hk : n + 1 - i + i = n + 1 := by omega
  have hkk : (n : Int) + 1 - (i : Int) = ((n + 1 - i : Nat) : Int) := by omega
  have hold : (Builtin.firstCells i0.size i (.slice (some ⟨g, 0, none⟩) i c)).run Tryz.prog w.drew = .ok ((lkCs l).take i).toArray w.drew := by
    rw [hz1]
    refine run_firstCells_some w.drew 1 i ⟨g, 0, none⟩ i c ((lkCs l).take i) (by rw [List.length_take]; omega) (fun j u hj => ?_)
    rw [add_zero_block]
    have hj1 : j < i := by have := (List.getElem?_eq_some_iff.1 hj).1; rw [List.length_take] at this; omega
    exact hcells j u (by rwa [List.getElem?_take_of_lt hj1] at hj)
  obtain ⟨G, hG⟩ : ∃ G, G = grownCap w (n + 1) c 2 := ⟨_, rfl⟩
  obtain ⟨R, hR⟩ : ∃ R : Array Value, R = ((lkCs l).take i).toArray ++ Builtin.zeroCells (Value.int .i64 0).cells (n + 1 - i) ++ Builtin.zeroCells (Value.int .i64 0).cells (G - (n + 1)) := ⟨_, rfl⟩
  have hrz : ∀ ty, (Builtin.append_ #[25, 3] ty #[.slice (some ⟨g, 0, none⟩) i c, .int .i64 ((n : Int) + 1 - (i : Int))]).run Tryz.prog w = .ok (.slice (some ⟨w.heap.size, 0, none⟩) (n + 1) G) (w.drew.alloc (.cells R 2)) := fun ty => by
    have h := Lib.run_append_grow_zeros w 25 3 ty 2 i0 _ .i64 .i64 (by kernel_rfl) (by kernel_rfl) hi0 hz0 (some ⟨g, 0, none⟩) i c ((lkCs l).take i) hold (n + 1 - i) (by omega) (by omega) (by omega) (by omega) (by rw [hz2]; omega) (by rw [hz2, show i + (n + 1 - i) = n + 1 by omega]; exact growslice_fits (by omega) (by omega))
    rw [show i + (n + 1 - i) = n + 1 by omega, ← hG, ← hR] at h
    rw [hkk]
    exact h
  have hGn : n + 1 ≤ G := by rw [hG]; exact grownCap_ge w _ _ _
  have hGm : G ≤ maxLen := by rw [hG]; exact grownCap_le_maxLen w (n + 1) c _ (by unfold maxLen; omega)
  have hRs : R.size = G := by
    rw [hR]
    simp [Builtin.zeroCells, Value.cells, hcl]
    omega
  obtain ⟨W1, hW1⟩ : ∃ W1, W1 = w.drew.alloc (.cells R 2) := ⟨_, rfl⟩
  rw [← hW1] at hrz
  have hR1 : W1.heap[w.heap.size]? = some (.cells R 2) := by rw [hW1]; exact heap_alloc_new w.drew _
  have hs1 : ∀ k, k < G → (W1.cell? ⟨w.heap.size, k, none⟩).isSome = true := fun k hk => by
    rw [cell_of_row _ _ _ _ _ _ hR1, Array.getElem?_eq_getElem (by omega)]
    rfl
  have hf1 : ∀ k, W1.frozen? ⟨w.heap.size, k, none⟩ = false := fun k => by simp [World.frozen?, hR1]
  have hb1 : Below w.heap.size w W1 := by rw [hW1]; exact (Below.refl w.heap.size w).drew.alloc (Nat.le_refl _) _
  have hP1 : ∀ j u, ((lkCs l).take i)[j]? = some u → W1.cell? ⟨w.heap.size, j, none⟩ = some u := fun j u hj => by
    have hj1 := (List.getElem?_eq_some_iff.1 hj).1
    rw [cell_of_row _ _ _ _ _ _ hR1, hR, Array.append_assoc, Array.getElem?_append_left (by simpa using hj1)]
    simpa using hj
  obtain ⟨D, hD⟩ : ∃ D, (lkCs l).drop i = D := ⟨_, rfl⟩
  have hdl : D.length = n - i := by rw [← hD, List.length_drop, hcl]
  have hDc : ∀ j u, D[j]? = some u → W1.cell? ⟨g, i + j, none⟩ = some u := fun j u hu => by
    rw [hb1.cell hg]
    exact hcells _ _ (by rwa [← hD, List.getElem?_drop] at hu)
  have hD1 : ∀ u ∈ D, u.oneCell' = true := fun u hu => lk_oneC l u (List.mem_of_mem_drop (hD ▸ hu))
  have hv1 : W1.cell? ⟨vb, 0, none⟩ = some (.int .i64 x) := (hb1.cell hvl).trans hvc
  have hgN : g ≠ w.heap.size := by omega
  have hcpA : ∀ ty dc, (Builtin.copy_ #[25, 25] ty #[.slice (some ⟨w.heap.size, i, none⟩) (n + 1 - i) dc, .slice (some ⟨vb, 0, none⟩) 1 1]).run Tryz.prog W1 = .ok (goInt [Value.int .i64 x].length) (W1.setCells w.heap.size i [.int .i64 x]) := fun ty dc =>
    run_copy_cells W1 _ _ ty 2 w.heap.size i (n + 1 - i) dc ⟨vb, 0, none⟩ 1 1 [.int .i64 x] (by kernel_rfl) hsz (by simp only [Nat.min_def, List.length_singleton]; split <;> omega)
      (fun j u hj => by
        have hj0 : j = 0 := by have := (List.getElem?_eq_some_iff.1 hj).1; simpa using this
        subst hj0
        rw [Addr.add_lit]
        exact hv1.trans hj)
      (fun j hj => hs1 _ (by simp at hj; omega)) (fun j hj => hf1 _) (fun u hu => by simp at hu; subst hu; rfl)
  obtain ⟨W2, hW2⟩ : ∃ W2, W2 = W1.setCells w.heap.size i [.int .i64 x] := ⟨_, rfl⟩
  rw [← hW2] at hcpA
  have hs2 : ∀ k, k < G → (W2.cell? ⟨w.heap.size, k, none⟩).isSome = true := fun k hk => by
    rw [hW2]
    exact isSome_setCells w.heap.size _ i W1 (fun j hj => hs1 _ (by simp at hj; omega)) k (hs1 k hk)
  have hcpB : ∀ ty dc sc, (Builtin.copy_ #[25, 25] ty #[.slice (some ⟨w.heap.size, i + 1, none⟩) (n - i) dc, .slice (some ⟨g, i, none⟩) (n - i) sc]).run Tryz.prog W2.drew = .ok (goInt D.length) (W2.drew.setCells w.heap.size (i + 1) D) := fun ty dc sc =>
    run_copy_cells W2.drew _ _ ty 2 w.heap.size (i + 1) (n - i) dc ⟨g, i, none⟩ (n - i) sc D (by kernel_rfl) hsz (by rw [hdl]; simp only [Nat.min_def]; split <;> omega)
      (fun j u hj => by
        rw [Addr.add_lit]
        refine Eq.trans ?_ (hDc j u hj)
        show W2.cell? _ = _
        rw [hW2]
        exact World.cell?_setCells_out _ _ _ _ _ (fun h _ => absurd h hgN))
      (fun j hj => hs2 _ (by omega)) (fun j hj => by show W2.frozen? _ = _; rw [hW2, World.frozen?_setCells]; exact hf1 _) hD1
  have hl1 : ¬ ((i : Int) = (n : Int)) := by omega
  have hw1 : IntKind.i64.wrap ((i : Int) + 1) = (i : Int) + 1 := by rw [IntKind.wrap_i64]; omega
  have hw2 : IntKind.i64.wrap ((n : Int) + 1) = (n : Int) + 1 := by rw [IntKind.wrap_i64]; omega
  have hz3 : (c : Int) < (n : Int) + 1 := by omega
  have hin : i < n := by omega
  have hin2 : i ≤ n := by omega
  have hic : i ≤ c := by omega
  have hz4 : (0 : Int) ≤ (i : Int) + 1 := by omega
  have htn : ((i : Int) + 1).toNat = i + 1 := by omega
  have hG2 : ¬ (G = i + 1) := by omega
  have hG3 : ¬ (G = i) := by omega
  have hci : ¬ (c = i) := by omega
  have hb3 : (i : Int) + 1 ≤ (n : Int) + 1 := by omega
  have hb5 : (i : Int) ≤ (n : Int) + 1 := by omega
  unfold maxLen at hGm
  rw [hn]
  have mixed : Tryz.prog.follows .mixedOrders = true := by kernel_rfl
  have HN := Lib.hid hn
  have HP1 := Lib.hid hP1
  have HR1 := Lib.hid hR1
  have HR2 := Lib.hid hR
  have HW1 := Lib.hid hW1
  have HW2 := Lib.hid hW2
  clear h hn hcs hlc hi hold hR hR1 hP1 hG hkk hk hW1 hW2
  go_enter Tryz.func78, Tryz.ntmps78
  go_wp2_with (first
    | (at_builtin
       refine Lib.wpList_append_run _ rfl _ _ _ _ rfl _ _ rfl rfl _ _ (hrz _) ?_)
    | (at_builtin
       refine wpList_copy_runI _ rfl _ _ 25 25 rfl _ _ rfl rfl (hcpA _ _) ?_))
  all_goals
    go_region_law_o (refine step_copy_runI rfl _ _ 25 25 rfl _ _ (by simp [Act.eval, Act.put]) (by simp [Act.eval, Act.put]) (hcpB _ _ _) ?_)
    go_wp2
    go_ret
    refine ⟨.slice (some ⟨w.heap.size, 0, none⟩) (n + 1) G, rfl, ?_, ?_⟩
    · unfold LkR
      rw [put_len hin2 HN.out, lkCs_put, hD]
      have hr : Row1 W2 w.heap.size G := by rw [HW2.out]; exact Row1.sets _ _ _ ⟨R, HR1.out, hRs⟩
      refine Row1.own ((show Row1 W2.drew w.heap.size G from hr).sets w.heap.size D (i + 1)) (put_cells (i := i) (by rw [List.length_take, hcl]; omega) ?_ ?_ ?_) (by simp [hdl, hcl] <;> omega) hB hGn (by unfold maxLen; omega)
      · intro j u hj
        have hj1 : j < i := by have := (List.getElem?_eq_some_iff.1 hj).1; rw [List.length_take] at this; omega
        rw [World.cell?_setCells_out _ _ _ _ _ (fun _ _ => Or.inl (show j < i + 1 by omega))]
        show W2.cell? _ = _
        rw [HW2.out, World.cell?_setCells_out _ _ _ _ _ (fun _ _ => Or.inl hj1)]
        exact HP1.out j u hj
      · rw [World.cell?_setCells_out _ _ _ _ _ (fun _ _ => Or.inl (show i < i + 1 by omega))]
        show W2.cell? _ = _
        rw [HW2.out]
        have := World.cell?_setCells_in w.heap.size [.int .i64 x] i W1 (fun j hj => hs1 _ (by simp at hj; omega)) 0 (by simp)
        simpa using this
      · intro j u hj
        have hj1 := (List.getElem?_eq_some_iff.1 hj).1
        rw [World.cell?_setCells_in w.heap.size D (i + 1) W2.drew (fun j hj => hs2 _ (by omega)) j hj1]
        rw [← hj, List.getElem?_eq_getElem hj1]
    · have h2 : Below w.heap.size w W2 := by rw [HW2.out]; exact (grown_sets w.heap.size _ i W1).below' hb1
      exact Keeps.of_below ((grown_sets w.heap.size D (i + 1) W2.drew).below' h2.drew)
end
end Go.Proofs.YtmgckdmglnmnnaaGreatDoor
