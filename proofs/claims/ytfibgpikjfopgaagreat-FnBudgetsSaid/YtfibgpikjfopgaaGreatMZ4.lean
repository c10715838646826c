/-
  Where a number stands in a list that rises; the list with it, and without it; slices.BinarySearch and slices.Delete of the program's lists.
-/
import Derived.Test.YtfibgpikjfopgaaGreatMZ3
import Derived.Test.YtfibgpikjfopgaaGreatMZ1
import Derived.Test.YtfibgpikjfopgaaGreatMZ2
import Derived.BigQuiet
import Derived.Deep.QuietTactic
import Derived.Deep.AppendLies
import Derived.StillTailTactics
import Derived.Laws.AppendOwnNone
import Derived.Test.YtfibgpikjfopgaaGreatMZ0
import Derived.Deep.RegionLaw
import Derived.Deep.RegionHeld3
import Derived.Laws.Tables
import Derived.Maps.OwnSet
import Derived.Shelf.SlicesG.SearchI
import Derived.Shelf.SlicesG.Delete
import Derived.Shelf.Spec.SlicesInsertGrow
import Derived.Lib.AppendZerosOnto
import Derived.Lib.Overlaps
import Derived.Sort.OwnSortedInts
/- Sd -/
set_option linter.unusedVariables false
namespace Go.Proofs.YtfibgpikjfopgaaGreat
open Go.RowKit

theorem rise_unique : ∀ {L M : List Int}, L.Pairwise (· < ·) → M.Pairwise (· < ·) → (∀ x, x ∈ L ↔ x ∈ M) → L = M
  | [], [], _, _, _ => rfl
  | [], b :: M, _, _, h => by have := (h b).2 (by simp); cases this
  | a :: L, [], _, _, h => by have := (h a).1 (by simp); cases this
  | a :: L, b :: M, hL, hM, h => by
    have hL' := List.pairwise_cons.1 hL
    have hM' := List.pairwise_cons.1 hM
    have hab : a = b := by
      have h1 := (h a).1 (by simp)
      have h2 := (h b).2 (by simp)
      rcases List.mem_cons.1 h1 with e | e
      · exact e
      · rcases List.mem_cons.1 h2 with e2 | e2
        · exact e2.symm
        · have := hM'.1 a e
          have := hL'.1 b e2
          omega
    subst hab
    congr 1
    refine rise_unique hL'.2 hM'.2 fun x => ⟨fun hx => ?_, fun hx => ?_⟩
    · have := hL'.1 x hx
      rcases List.mem_cons.1 ((h x).1 (by simp [hx])) with e | e
      · omega
      · exact e
    · have := hM'.1 x hx
      rcases List.mem_cons.1 ((h x).2 (by simp [hx])) with e | e
      · omega
      · exact e

theorem dd_mem {x : Nat → Int} {v : Int} : ∀ {m : Nat}, v ∈ dd x m ↔ ∃ j, j < m ∧ x j = v
  | 0 => by simp [dd]
  | m + 1 => by
    by_cases h : m = 0 ∨ x m ≠ x (m - 1)
    · rw [dd_new h, List.mem_append, dd_mem (m := m), List.mem_singleton]
      refine ⟨?_, fun ⟨j, hj, e⟩ => ?_⟩
      · rintro (⟨j, hj, e⟩ | e)
        · exact ⟨j, by omega, e⟩
        · exact ⟨m, by omega, e.symm⟩
      · by_cases e2 : j = m
        · subst e2; exact .inr e.symm
        · exact .inl ⟨j, by omega, e⟩
    · rw [dd_old (by omega) (by omega), dd_mem (m := m)]
      refine ⟨fun ⟨j, hj, e⟩ => ⟨j, by omega, e⟩, fun ⟨j, hj, e⟩ => ?_⟩
      by_cases e2 : j = m
      · subst e2
        exact ⟨j - 1, by omega, by rw [← e]; omega⟩
      · exact ⟨j, by omega, e⟩
theorem dd_rise {x : Nat → Int} {n : Nat} (h : Rises x n) : ∀ {m : Nat}, m ≤ n → (dd x m).Pairwise (· < ·)
  | 0, _ => List.Pairwise.nil
  | m + 1, hm => by
    have ih := dd_rise h (m := m) (by omega)
    by_cases hn : m = 0 ∨ x m ≠ x (m - 1)
    · rw [dd_new hn, List.pairwise_append]
      refine ⟨ih, List.pairwise_singleton _ _, fun a ha b hb => ?_⟩
      obtain rfl := List.mem_singleton.1 hb
      obtain ⟨j, hj, rfl⟩ := dd_mem.1 ha
      have h1 := h (m - 1) m (by omega) (by omega)
      by_cases e : j = m - 1
      · rw [e]; omega
      · have h2 := h j (m - 1) (by omega) (by omega)
        omega
    · rw [dd_old (by omega) (by omega)]
      exact ih

theorem picks_mem_iff {n : Nat} {p : Nat → Bool} {x : Int} : x ∈ picks n p ↔ ∃ i : Nat, i < n ∧ x = i ∧ p i = true := by
  refine ⟨picks_mem, ?_⟩
  rintro ⟨i, h1, rfl, h2⟩
  simp only [picks, List.mem_map, List.mem_filter, List.mem_range]
  exact ⟨i, ⟨h1, h2⟩, rfl⟩
/-- Numbers that rise, made of the pods' bands, without repeats: the chapter's list. -/
theorem rising_bands {d : PlanD} (h : planOkB d = true) {y : Nat → Int} (hS : Same d.n0 (fun i => d.x0 (i * 4 + 1)) y) (hR : Rises y d.n0) : dd y d.n0 = bandsL d := by
  refine rise_unique (dd_rise hR (Nat.le_refl _)) (bandsL_rise d) fun v => ?_
  rw [dd_mem]
  unfold bandsL
  rw [picks_mem_iff]
  constructor
  · rintro ⟨k, hk, rfl⟩
    obtain ⟨i, hi, e⟩ := hS.back k hk
    have hb := planOk_band h hi
    have e : y k = d.x0 (i * 4 + 1) := e
    rw [e]
    refine ⟨(d.x0 (i * 4 + 1)).toNat, by omega, by omega, ?_⟩
    simp only [hasB, decide_eq_true_eq]
    unfold podsL
    rw [found_yes h]
    refine List.length_pos_of_mem (a := (i : Int)) ?_
    rw [hits_picks, picks_mem_iff]
    exact ⟨i, hi, rfl, by simp; omega⟩
  · rintro ⟨b, hb, rfl, hp⟩
    simp only [hasB, decide_eq_true_eq] at hp
    obtain ⟨v, hv⟩ := List.exists_mem_of_length_pos hp
    obtain ⟨i, hi, _, e⟩ := podsL_mem hv
    obtain ⟨k, hk, ek⟩ := hS.there i hi
    exact ⟨k, hk, ek.trans e⟩
theorem bandsL_no {d : PlanD} (h : planOkB d = false) : bandsL d = [] := by
  refine List.eq_nil_iff_forall_not_mem.2 fun x hx => ?_
  obtain ⟨i, _, _, hp⟩ := picks_mem hx
  simp only [hasB, decide_eq_true_eq] at hp
  unfold podsL at hp
  rw [found_no h] at hp
  exact absurd hp (by decide)

theorem Cells.owns {w : World} {g n : Nat} {y : Nat → Int} {L : List Int} (h : Cells w g n y) (hn : n ≤ 12) (hl : L.length ≤ n) (hL : ∀ j, j < L.length → y j = L.getD j 0) :
    w.ownsRow g 2 1 (.slice (some ⟨g, 0, none⟩) L.length n) L.length (L.map (Value.int .i64)) := by
  obtain ⟨cur, hh, hs, hc⟩ := h
  refine ⟨by simp, .inr ⟨g, n, cur, rfl, Nat.le_refl _, hh, hl, by unfold maxLen; omega, by omega, ?_⟩⟩
  rw [Nat.mul_one]
  refine List.ext_getElem? fun j => ?_
  by_cases hj : j < L.length
  · rw [List.getElem?_take_of_lt hj, Array.getElem?_toList, hc j (by omega), hL j hj]
    simp [List.getD, hj]
  · rw [List.getElem?_take_eq_none (by omega), List.getElem?_eq_none (by simp; omega)]

end Go.Proofs.YtfibgpikjfopgaaGreat
/- Se -/
set_option linter.unusedVariables false
namespace Go.Proofs.YtfibgpikjfopgaaGreat
open Go.RowKit Go.Sort

/-- Block g, of n whole numbers, is being filled: the first k are as f tells. -/
structure Filling (wr : World) (g n k : Nat) (f : Nat → Int) : Prop where
  it : ∃ cur, wr.heap[g]? = some (.cells cur 2 (0, 0)) ∧ cur.size = n ∧ ∀ j, j < k → cur[j]? = some (.int .i64 (f j))
theorem Filling.lt {wr : World} {g n k : Nat} {f : Nat → Int} (h : Filling wr g n k f) : g < wr.heap.size := by
  obtain ⟨cur, hh, _⟩ := h
  exact (Array.getElem?_eq_some_iff.1 hh).1
theorem Filling.below {wr w' : World} {g n k : Nat} {f : Nat → Int} (h : Filling wr g n k f) (hb : Below wr.heap.size wr w') : Filling w' g n k f := by
  have hl := h.lt
  obtain ⟨cur, hh, r⟩ := h
  exact ⟨cur, (hb.block g hl).trans hh, r⟩
theorem Filling.at_ {wr : World} {g n k i : Nat} {f : Nat → Int} (h : Filling wr g n k f) (hi : i < n) : ∃ v, wr.cell? ⟨g, i, none⟩ = some v ∧ wr.frozen? ⟨g, i, none⟩ = false := by
  obtain ⟨cur, hh, hs, _⟩ := h
  exact ⟨cur[i]'(by omega), (cell_of_row _ _ _ _ _ _ hh).trans (Array.getElem?_eq_getElem (by omega)), frozen_of_row _ _ _ _ _ hh⟩
theorem Filling.set {wr : World} {g n k : Nat} {f : Nat → Int} (h : Filling wr g n k f) (hk : k < n) : Filling (wr.setCell ⟨g, k, none⟩ (.int .i64 (f k))) g n (k + 1) f := by
  obtain ⟨cur, hh, hs, hc⟩ := h
  refine ⟨cur.setIfInBounds k (.int .i64 (f k)), ?_, by simp [hs], fun j hj => ?_⟩
  · rw [setCell_eq]
    simp [mapBlock, Array.getElem?_modify, hh, onCells]
  · by_cases e : j = k
    · subst e
      simp [hs, hk]
    · rw [Array.getElem?_setIfInBounds_ne (fun he => e he.symm)]
      exact hc j (by omega)
theorem Filling.full {wr : World} {g n : Nat} {f : Nat → Int} (h : Filling wr g n n f) : Cells wr g n f := ⟨h.it⟩
theorem made_emptyI (w : World) {B : Nat} (hB : B ≤ w.heap.size) : (w.alloc (.cells #[] 2)).ownsRow B 2 1 (.slice (some ⟨w.heap.size, 0, none⟩) 0 0) 0 [] := by
  have := World.ownsRow_made (base := B) (e := 2) (size := 1) w #[] 0 hB (Nat.zero_le _) rfl
  simpa using this
theorem filling_new {w : World} {B g n : Nat} {f : Nat → Int} {xs : List Value} (h : w.ownsRow B 2 1 (.slice (some ⟨g, 0, none⟩) n n) n xs) : B ≤ g ∧ Filling w g n 0 f := by
  rcases h.2 with ⟨h1, _⟩ | ⟨g', cap, cur, h1, hb, h2, h3, h4, h5, h6⟩
  · cases h1
  · injection h1 with h1 _ h7
    injection h1 with h1
    injection h1 with h1 _ _
    subst h1 h7
    exact ⟨hb, cur, h2, by omega, fun j hj => absurd hj (by omega)⟩

set_option maxRecDepth 100000 in
set_option maxHeartbeats 2000000 in
theorem specBands_any (v : Value) (d : PlanD) (w : World) (h : IsPlan w w.heap.size v d) (hn : d.n0 ≤ 1048576) :
    Calls Tryz.prog 115 #[v] w (Listed w (bandsL d)) := by
  have P := Lib.hid h
  have HN := Lib.hid hn
  obtain ⟨⟨A0, A1, A2, A3, c0, c1, c2, c3, rfl, s0, s1, s2, s3⟩, b0, b1, b2, b3⟩ := h
  clear s0 s1 s2 s3 b0 b1 b2 b3 hn
  obtain ⟨i0, hi, hz0, hz1, hz2⟩ := info_parts info_i64
  have HI := Lib.hid hi
  have HZ0 := Lib.hid hz0
  have HZ1 := Lib.hid hz1
  have HZ2 := Lib.hid hz2
  clear hi hz0 hz1 hz2
  go_enter Tryz.func115, Tryz.ntmps115
  go_wp2
  have X1 := (Own.box w (planC A0 A1 A2 A3 d.n0 c0 d.n1 c1 d.n2 c2 d.n3 c3 d.l d.p d.t) 32).alloc (.cells #[] 2)
  have O1 := made_emptyI (w.alloc (.cells (planC A0 A1 A2 A3 d.n0 c0 d.n1 c1 d.n2 c2 d.n3 c3 d.l d.p d.t) 32)) (B := w.heap.size + 1) (by simp)
  rw [heap_size_alloc_] at O1
  go_loopw [3, 4] (fun v i wr => ∃ k : Nat, k ≤ 6 ∧ i = .int .i64 k ∧ wr.ownsRow (w.heap.size + 1) 2 1 v (picks k (hasB d)).length ((picks k (hasB d)).map (Value.int .i64)) ∧
    Own w wr w.heap.size (planC A0 A1 A2 A3 d.n0 c0 d.n1 c1 d.n2 c2 d.n3 c3 d.l d.p d.t)) (fun _ i _ => 6 - (intOf i).toNat)
  case atStart => exact ⟨0, Nat.zero_le _, rfl, O1, X1⟩
  case round =>
    clear O1 X1
    obtain ⟨k, hk, rfl, O, X⟩ := hrel
    have HO := Lib.hid O
    clear O
    have hC := X.C
    have hz := X.z
    by_cases hlt : k < 6
    · have hle := picks_le k (hasB d)
      have h63 : (picks k (hasB d)).length + 1 ≤ maxLen := by unfold maxLen; omega
      have hby : ((picks k (hasB d)).length + 1) * 8 ≤ 140737488355328 := by omega
      have H63 := Lib.hid h63
      have HBY := Lib.hid hby
      clear h63 hby hle
      have hp := Lib.hid (specPods_any _ d k _ ((P.out.below X.K (Nat.le_refl _)).more X.K.size) HN.out)
      have hl0 := podsL_le d k
      have hl1 := HN.out
      have hl : (podsL d k).length ≤ 1048576 := by omega
      clear hl0 hl1
      cases hv : hasB d k
      · have HV := Lib.hid (picks_no hv)
        simp only [hasB, decide_eq_false_iff_not] at hv
        go_wp2_with (go_at_call 110; refine hp.out.mono ?_; rintro e w2 ⟨v', rfl, O2, hb2⟩; obtain ⟨A', c', g', rfl, -⟩ := open_list O2; have X2 := X.step hb2)
        refine ⟨⟨k + 1, by omega, by go_num, by rw [HV.out]; exact ownsRow_below HO.out hb2, X2⟩, by simp [intOf]; omega⟩
      · have HV := Lib.hid (picks_yes hv)
        simp only [hasB, decide_eq_true_eq] at hv
        go_wp2_with (first
          | (go_at_call 110; refine hp.out.mono ?_; rintro e w2 ⟨v', rfl, O2, hb2⟩; obtain ⟨A', c', g', rfl, -⟩ := open_list O2; have X2 := X.step hb2; clear O2)
          | (at_builtin; refine wpList_append_own _ rfl _ _ 28 rfl (w.heap.size + 1) 2 i0 (.int .i64 0) 1 8 Tryz.underlying28 HI.out HZ0.out HZ1.out HZ2.out rfl (by decide) _ _ _ rfl ((ownsRow_below HO.out hb2).alloc _) ⟨w2.heap.size, 0, none⟩ 1 1 [.int .i64 k] rfl rfl (cell_one_new _ _ _) (fun x hx => by simp at hx; subst hx; rfl) H63.out HBY.out (by have := X2.z; simp; omega) ?_; intro v' w4 hown' hgrow hnil))
        have X3 := X2.alloc (.cells #[.int .i64 k] 2)
        have OB := (ownsRow_below HO.out hb2)
        refine ⟨⟨k + 1, by omega, by go_num, ?_, ?_⟩, by simp [intOf]; omega⟩
        · rw [HV.out]
          simpa using hown'
        · exact X3.grown hgrow fun g hg => by have := (OB.lt g hg).1; omega
    · obtain rfl : k = 6 := by omega
      go_wp2
      go_ret
      exact ⟨_, rfl, ownsRow_base HO.out (Nat.le_succ _), X.K⟩
end Go.Proofs.YtfibgpikjfopgaaGreat
/- Sf -/
set_option linter.unusedVariables false
namespace Go.Proofs.YtfibgpikjfopgaaGreat
open Go.RowKit

theorem step_le {L : List Int} {b : Int} {k : Nat} (h : ∀ j, j < k → L.getD j 0 ≤ b) (hk : L.getD k 0 ≤ b) : ∀ j, j < k + 1 → L.getD j 0 ≤ b := fun j hj => by
  by_cases e : j = k
  · rw [e]; exact hk
  · exact h j (by omega)
theorem firstOver_hit {L : List Int} {b : Int} {k : Nat} (hk : k < L.length) (h : ∀ j, j < k → L.getD j 0 ≤ b) (hb : b < L.getD k 0) : firstOver L b = L.getD k 0 := by
  rw [getD_at hk] at hb ⊢
  exact firstOver_at hk (fun j hj => by have := h j hj; rwa [getD_at (by omega)] at this) hb
theorem firstOver_miss {L : List Int} {b : Int} (h : ∀ j, j < L.length → L.getD j 0 ≤ b) : firstOver L b = -1 := by
  refine firstOver_none fun x hx => ?_
  obtain ⟨j, hj, rfl⟩ := List.getElem_of_mem hx
  have := h j hj
  rwa [getD_at hj] at this

set_option maxRecDepth 100000 in
set_option maxHeartbeats 2000000 in
theorem specNext_any (v : Value) (d : PlanD) (b : Int) (w : World) (h : IsPlan w w.heap.size v d) (hn : d.n0 ≤ 1048576) :
    Calls Tryz.prog 106 #[v, .int .i64 b] w fun e w' => e = .returned (.int .i64 (nextL d b)) ∧ Below w.heap.size w w' := by
  have P := Lib.hid h
  have HN := Lib.hid hn
  obtain ⟨⟨A0, A1, A2, A3, c0, c1, c2, c3, rfl, s0, s1, s2, s3⟩, b0, b1, b2, b3⟩ := h
  clear s0 s1 s2 s3 b0 b1 b2 b3 hn
  go_enter Tryz.func106, Tryz.ntmps106
  go_wp2_with fail
  have X1 := Own.box w (planC A0 A1 A2 A3 d.n0 c0 d.n1 c1 d.n2 c2 d.n3 c3 d.l d.p d.t) 32
  refine (specBands_any _ d _ ((P.out.below X1.K (Nat.le_refl _)).more X1.K.size) HN.out).mono ?_
  rintro e w2 ⟨v', rfl, O2, hb⟩
  have K2 := Lib.hid (X1.step hb).K
  obtain ⟨A, c, g, rfl, hA, hg, hgl, R⟩ := open_list O2
  have HA := Lib.hid hA
  have hle := bandsL_le d
  have HF := Lib.hid (show ∀ x, firstOver (bandsL d) x = nextL d x from fun _ => rfl)
  clear X1 hb O2 hA hg hgl
  generalize bandsL d = L at *
  have HR := Lib.hid R
  clear R
  go_wp2
  go_loopw [6] (fun i wr => ∃ k : Nat, k ≤ L.length ∧ i = .int .i64 k ∧ wr = w2 ∧ ∀ j, j < k → L.getD j 0 ≤ b) (fun i _ => L.length - (intOf i).toNat)
  case atStart => exact ⟨0, Nat.zero_le _, rfl, rfl, fun j hj => absurd hj (by omega)⟩
  case round =>
    obtain ⟨k, hk, rfl, rfl, hall⟩ := hrel
    have HL := Lib.hid hall
    clear hall
    by_cases hlt : k < L.length
    · obtain rfl := HA.out (by omega)
      obtain ⟨t0, f0⟩ : wr.cell? ⟨g, k, none⟩ = some (.int .i64 (L.getD k 0)) ∧ wr.frozen? ⟨g, k, none⟩ = false := HR.out k hlt
      generalize hx : L.getD k 0 = x at t0
      have HX := Lib.hid hx
      clear hx
      by_cases hb : b < x
      · go_wp2
        go_ret
        exact ⟨ret_int (by rw [← HF.out, firstOver_hit hlt HL.out (by rw [HX.out]; exact hb), HX.out]), K2.out⟩
      · go_wp2
        exact ⟨⟨k + 1, by omega, by go_num, by trivial, step_le HL.out (by rw [HX.out]; omega)⟩, by simp [intOf]; omega⟩
    · obtain rfl : k = L.length := by omega
      go_wp2
      go_ret
      exact ⟨ret_int (by rw [← HF.out, firstOver_miss HL.out]), K2.out⟩
end Go.Proofs.YtfibgpikjfopgaaGreat
/- Zc -/
set_option linter.unusedVariables false
namespace Go.Proofs.YtfibgpikjfopgaaGreat
open Go.RowKit

/-- Whole numbers as cells. -/
def cellsI (m : Nat) (x : Nat → Int) : List Value := (List.range m).map fun j => Value.int .i64 (x j)
theorem cellsI_len (m : Nat) (x : Nat → Int) : (cellsI m x).length = m := by simp [cellsI]
theorem cellsI_at {m j : Nat} (x : Nat → Int) (hj : j < m) : (cellsI m x)[j]? = some (.int .i64 (x j)) := by simp [cellsI, hj]
theorem cellsI_one (m : Nat) (x : Nat → Int) : ∀ u ∈ cellsI m x, u.oneCell' = true := by
  intro u hu
  obtain ⟨b, _, rfl⟩ := List.mem_map.1 hu
  rfl
theorem lk_cells (n : Nat) (x : Nat → Int) : lkCs ((List.range n).map x) = cellsI n x := by simp [lkCs, cellsI, Function.comp_def]
theorem Sl.slv {w : World} {B k n : Nat} {A : Option Addr} {x : Nat → Int} (h : Sl w B k A n x) : SlV w B k A n (cellsI (n * k) x) :=
  ⟨cellsI_len _ _, fun hn => by
    obtain ⟨b, off, e, hb, hc⟩ := h hn
    exact ⟨b, off, e, hb, fun j hj => by rw [hc j hj, cellsI_at x hj]⟩⟩
theorem OI.of_cells {w : World} {B e k n : Nat} {v : Value} {x : Nat → Int} (h : w.ownsRow B e k v n (cellsI (n * k) x)) : OI w B e k v n x := ⟨_, h, fun j hj => cellsI_at x hj⟩
theorem OI.formR {w : World} {B e k n : Nat} {v : Value} {x : Nat → Int} (h : OI w B e k v n x) : ∃ A c, v = .slice A n c ∧ (A = none → c = 0) ∧ Sl w w.heap.size k A n x := by
  obtain ⟨A', c', hv', hs, -⟩ := h.form
  obtain ⟨xs, hown, -⟩ := h
  obtain ⟨A, c, hv, hr, -⟩ := open_rowR hown
  rw [hv] at hv'
  injection hv' with h1 h2 h3
  subst h1 h3
  exact ⟨A, c, hv, hr, hs⟩
/-- How many cells a plan's lists are at most. -/
structure PlFits (d : PlanD) : Prop where
  f0 : d.n0 ≤ 1048576
  f1 : d.n1 ≤ 1048576
  f2 : d.n2 ≤ 1048576
  f3 : d.n3 ≤ 1048576
/-- A plan that can be read, its lists real slices and small. -/
structure IsPlR (w : World) (B : Nat) (v : Value) (d : PlanD) : Prop where
  it : ∃ A0 A1 A2 A3 c0 c1 c2 c3, v = planV A0 A1 A2 A3 d.n0 c0 d.n1 c1 d.n2 c2 d.n3 c3 d.l d.p d.t ∧ (Sl w B 4 A0 d.n0 d.x0 ∧ Sl w B 1 A1 d.n1 d.x1 ∧ Sl w B 2 A2 d.n2 d.x2 ∧ Sl w B 1 A3 d.n3 d.x3) ∧
    (A0 = none → c0 = 0) ∧ (A1 = none → c1 = 0) ∧ (A2 = none → c2 = 0) ∧ (A3 = none → c3 = 0)
  fit : PlFits d
theorem IsPlR.below {w w' : World} {B B' : Nat} {v : Value} {d : PlanD} (h : IsPlR w B v d) (hb : Below B' w w') (hB : B ≤ B') : IsPlR w' B v d := by
  obtain ⟨⟨A0, A1, A2, A3, c0, c1, c2, c3, hv, ⟨h0, h1, h2, h3⟩, hr⟩, hf⟩ := h
  exact ⟨⟨A0, A1, A2, A3, c0, c1, c2, c3, hv, ⟨h0.below hb hB, h1.below hb hB, h2.below hb hB, h3.below hb hB⟩, hr⟩, hf⟩
theorem IsPlR.more {w : World} {B B' : Nat} {v : Value} {d : PlanD} (h : IsPlR w B v d) (hB : B ≤ B') : IsPlR w B' v d := by
  obtain ⟨⟨A0, A1, A2, A3, c0, c1, c2, c3, hv, ⟨h0, h1, h2, h3⟩, hr⟩, hf⟩ := h
  exact ⟨⟨A0, A1, A2, A3, c0, c1, c2, c3, hv, ⟨h0.more hB, h1.more hB, h2.more hB, h3.more hB⟩, hr⟩, hf⟩
theorem IsPlR.go {w w' : World} {v : Value} {d : PlanD} (h : IsPlR w w.heap.size v d) (hb : Below w.heap.size w w') : IsPlR w' w'.heap.size v d := (h.below hb (Nat.le_refl _)).more hb.size
theorem IsPlR.is {w : World} {B : Nat} {v : Value} {d : PlanD} (h : IsPlR w B v d) : IsPlan w B v d := by
  obtain ⟨⟨A0, A1, A2, A3, c0, c1, c2, c3, hv, ⟨h0, h1, h2, h3⟩, -⟩, f0, f1, f2, f3⟩ := h
  have hm : 1048576 ≤ maxLen := by unfold maxLen; decide
  exact ⟨⟨A0, A1, A2, A3, c0, c1, c2, c3, hv, h0, h1, h2, h3⟩, by omega, by omega, by omega, by omega⟩
theorem Lists.plR {w : World} {B : Nat} {v0 v1 v2 v3 : Value} {d : PlanD} (h : Lists w B v0 v1 v2 v3 d) (hf : PlFits d) : IsPlR w w.heap.size (.agg #[v0, v1, v2, v3, .int .i64 d.l, .int .i64 d.p, .int .i64 d.t]) d := by
  obtain ⟨A0, c0, rfl, r0, s0⟩ := h.o0.formR
  obtain ⟨A1, c1, rfl, r1, s1⟩ := h.o1.formR
  obtain ⟨A2, c2, rfl, r2, s2⟩ := h.o2.formR
  obtain ⟨A3, c3, rfl, r3, s3⟩ := h.o3.formR
  exact ⟨⟨_, _, _, _, _, _, _, _, rfl, ⟨s0, s1, s2, s3⟩, r0, r1, r2, r3⟩, hf⟩
theorem PlFits.of_ok {d : PlanD} (h : planOkB d = true) : PlFits d := by
  simp only [planOkB, sizesB, Bool.and_eq_true, decide_eq_true_eq] at h
  exact ⟨by omega, by omega, by omega, by omega⟩
/-- What makes a plan of the call's own answers. -/
def MadePl (w : World) (d : PlanD) (e : Ending) (w' : World) : Prop :=
  ∃ v0 v1 v2 v3, e = .returned (.agg #[v0, v1, v2, v3, .int .i64 d.l, .int .i64 d.p, .int .i64 d.t]) ∧ Lists w' w.heap.size v0 v1 v2 v3 d ∧ Below w.heap.size w w'

set_option maxRecDepth 4000 in
set_option maxHeartbeats 4000000 in
theorem l15PlanCopy_any (v : Value) (d : PlanD) (w : World) (h : IsPlR w w.heap.size v d) : Calls Tryz.prog 18 #[v] w (MadePl w d) := by
  obtain ⟨⟨A0_, A1_, A2_, A3_, c0, c1, c2, c3, rfl, ⟨s0, s1, s2, s3⟩, r0, r1, r2, r3⟩, f0, f1, f2, f3⟩ := h
  obtain ⟨n0, n1, n2, n3, x0, x1, x2, x3, l, p, t⟩ := d
  dsimp only at *
  have S0 := Lib.hid s0.slv
  have S1 : Hid (SlV w w.heap.size 1 A1_ n1 (lkCs ((List.range n1).map x1))) := Lib.hid (by rw [lk_cells]; have := s1.slv; rwa [Nat.mul_one] at this)
  have S2 := Lib.hid s2.slv
  have S3 := Lib.hid s3.slv
  have R0 := Lib.hid r0
  have F0 := Lib.hid f0
  have R1 := Lib.hid r1
  have F1 := Lib.hid f1
  have R2 := Lib.hid r2
  have F2 := Lib.hid f2
  have R3 := Lib.hid r3
  have F3 := Lib.hid f3
  clear s0 s1 s2 s3 r0 r1 r2 r3 f0 f1 f2 f3
  obtain ⟨i0, hi, hz0, hz1, hz2⟩ := info_parts info_pod
  have HI := Lib.hid hi
  have HZ0 := Lib.hid hz0
  have HZ1 := Lib.hid hz1
  have HZ2 := Lib.hid hz2
  clear hi hz0 hz1 hz2
  obtain ⟨i1, hi, hz0, hz1, hz2⟩ := info_parts info_mount
  have GI := Lib.hid hi
  have GZ0 := Lib.hid hz0
  have GZ1 := Lib.hid hz1
  have GZ2 := Lib.hid hz2
  clear hi hz0 hz1 hz2
  obtain ⟨i2, hi, hz0, hz1, hz2⟩ := info_parts info_device
  have DI := Lib.hid hi
  have DZ0 := Lib.hid hz0
  have DZ1 := Lib.hid hz1
  have DZ2 := Lib.hid hz2
  clear hi hz0 hz1 hz2
  have T0 := Two.start w (planC A0_ A1_ A2_ A3_ n0 c0 n1 c1 n2 c2 n3 c3 l p t) (planC none none none none 0 0 0 0 0 0 0 0 0 0 0) 32 32
  have HW : Hid (((w.alloc (.cells (planC A0_ A1_ A2_ A3_ n0 c0 n1 c1 n2 c2 n3 c3 l p t) 32)).alloc (.cells (planC none none none none 0 0 0 0 0 0 0 0 0 0 0) 32)).heap.size = w.heap.size + 1 + 1) := Lib.hid (by simp)
  go_enter Tryz.func18, Tryz.ntmps18
  go_wp2_with (first
      | (at_builtin
         have AS3 := A3.set (Nat.le_refl _) (i := 2) (by simp) (.slice B2 n2 e2)
         have OS3 := O3.far (p := ⟨w.heap.size, 2, none⟩) (Nat.le_refl _) (by simp) (.slice B2 n2 e2)
         have HQ30 := Lib.hid (ownsRow_setCell_below (HO20).out (a := ⟨w.heap.size, 2, none⟩) (by simp) (.slice B2 n2 e2))
         have HQ31 := Lib.hid (ownsRow_setCell_below (HO21).out (a := ⟨w.heap.size, 2, none⟩) (by simp) (.slice B2 n2 e2))
         have HQ32 := Lib.hid (ownsRow_setCell_below (HO22).out (a := ⟨w.heap.size, 2, none⟩) (by simp) (.slice B2 n2 e2))
         refine wpList_append_slv rfl _ _ 30 62 i2 (.agg #[.int .i64 0]) 1 8 rfl Tryz.underlying30 DI.out DZ0.out DZ1.out DZ2.out rfl (by decide) (by decide) (w.heap.size + 2) _ 0 [] rfl (made_at _ _ _ _ _ (by simp) OS3.z) A3_ n3 c3 (cellsI (n3 * 1) x3) rfl R3.out (S3.out.below (AS3.K.alloc AS3.K.size _) (Nat.le_refl _)) (cellsI_one _ _) (by have := F3.out; omega) (le_alloc OS3.z) ?_
         intro v3 w5 hown hgrow
         have K3 := grown_at (by simp) hgrow
         replace hown : w5.ownsRow (w.heap.size + 2) 62 1 v3 n3 (cellsI (n3 * 1) x3) := by simpa using hown
         clear hgrow
         have A4 := AS3.step K3
         have O4 := OS3.step K3
         obtain ⟨B3, e3, rfl, -⟩ := open_rowR hown
         have HO33 := Lib.hid hown
         have HO30 := Lib.hid (ownsRow_below HQ30.out K3)
         have HO31 := Lib.hid (ownsRow_below HQ31.out K3)
         have HO32 := Lib.hid (ownsRow_below HQ32.out K3)
         clear hown K3 hC hF hz AS3 OS3 A3 O3
         have hC := A4.C
         have hF := A4.F
         have hz := A4.z
         have hD := O4.C
         have hG := O4.F)
      | (at_builtin
         have AS2 := A2.set (Nat.le_refl _) (i := 1) (by simp) (.slice B1 n1 e1)
         have OS2 := O2.far (p := ⟨w.heap.size, 1, none⟩) (Nat.le_refl _) (by simp) (.slice B1 n1 e1)
         have HQ20 := Lib.hid (ownsRow_setCell_below (HO10).out (a := ⟨w.heap.size, 1, none⟩) (by simp) (.slice B1 n1 e1))
         have HQ21 := Lib.hid (ownsRow_setCell_below (HO11).out (a := ⟨w.heap.size, 1, none⟩) (by simp) (.slice B1 n1 e1))
         refine wpList_append_slv rfl _ _ 29 60 i1 (.agg #[.int .i64 0, .int .i64 0]) 2 16 rfl Tryz.underlying29 GI.out GZ0.out GZ1.out GZ2.out rfl (by decide) (by decide) (w.heap.size + 2) _ 0 [] rfl (made_at _ _ _ _ _ (by simp) OS2.z) A2_ n2 c2 (cellsI (n2 * 2) x2) rfl R2.out (S2.out.below (AS2.K.alloc AS2.K.size _) (Nat.le_refl _)) (cellsI_one _ _) (by have := F2.out; omega) (le_alloc OS2.z) ?_
         intro v2 w4 hown hgrow
         have K2 := grown_at (by simp) hgrow
         replace hown : w4.ownsRow (w.heap.size + 2) 60 2 v2 n2 (cellsI (n2 * 2) x2) := by simpa using hown
         clear hgrow
         have A3 := AS2.step K2
         have O3 := OS2.step K2
         obtain ⟨B2, e2, rfl, -⟩ := open_rowR hown
         have HO22 := Lib.hid hown
         have HO20 := Lib.hid (ownsRow_below HQ20.out K2)
         have HO21 := Lib.hid (ownsRow_below HQ21.out K2)
         clear hown K2 hC hF hz AS2 OS2 A2 O2
         have hC := A3.C
         have hF := A3.F
         have hz := A3.z)
      | (go_at_call 37
         have AS1 := A1.set (Nat.le_refl _) (i := 0) (by simp) (.slice B0 n0 e0)
         have OS1 := O1.far (p := ⟨w.heap.size, 0, none⟩) (Nat.le_refl _) (by simp) (.slice B0 n0 e0)
         have HQ10 := Lib.hid (ownsRow_setCell_below (HO00).out (a := ⟨w.heap.size, 0, none⟩) (by simp) (.slice B0 n0 e0))
         refine (l1Copy_any A1_ n1 c1 ((List.range n1).map x1) _ ((S1.out.below AS1.K (Nat.le_refl _)).more AS1.K.size) R1.out F1.out).mono ?_
         rintro e w3 ⟨v1, rfl, hown, K1⟩
         replace hown : w3.ownsRow (w.heap.size + 2) 2 1 v1 n1 (lkCs ((List.range n1).map x1)) := ownsRow_base hown OS1.z
         have A2 := AS1.step K1
         have O2 := OS1.step K1
         obtain ⟨B1, e1, rfl, -⟩ := open_rowR hown
         have HO11 := Lib.hid hown
         have HO10 := Lib.hid (ownsRow_below HQ10.out K1)
         clear hown K1 hC hF hz AS1 OS1 A1 O1
         have hC := A2.C
         have hF := A2.F
         have hz := A2.z)
      | (at_builtin
         refine wpList_append_slv rfl _ _ 27 53 i0 (.agg #[.int .i64 0, .int .i64 0, .int .i64 0, .int .i64 0]) 4 32 rfl Tryz.underlying27 HI.out HZ0.out HZ1.out HZ2.out rfl (by decide) (by decide) (w.heap.size + 2) _ 0 [] rfl (made_at _ _ _ _ _ HW.out T0.O.z) A0_ n0 c0 (cellsI (n0 * 4) x0) rfl R0.out (S0.out.below (T0.A.K.alloc T0.A.K.size _) (Nat.le_refl _)) (cellsI_one _ _) (by have := F0.out; omega) (le_alloc T0.O.z) ?_
         intro v0 w2 hown hgrow
         have K0 := grown_at HW.out hgrow
         replace hown : w2.ownsRow (w.heap.size + 2) 53 4 v0 n0 (cellsI (n0 * 4) x0) := by simpa using hown
         clear hgrow
         have A1 := T0.A.step K0
         have O1 := T0.O.step K0
         obtain ⟨B0, e0, rfl, -⟩ := open_rowR hown
         have HO00 := Lib.hid hown
         clear hown K0 T0 HW
         have hC := A1.C
         have hF := A1.F
         have hz := A1.z))
  refine bodyPost_ret (v := .agg (planC B0 B1 B2 B3 n0 e0 n1 e1 n2 e2 n3 e3 l p t)) ?_ rfl ⟨_, _, _, _, rfl, ⟨OI.of_cells ?_, OI.of_cells ?_, OI.of_cells ?_, OI.of_cells ?_⟩, ?_⟩
  · simp [results, Tryz.results18, go_sem, hD]
  · refine ownsRow_base (base := w.heap.size + 2) ?_ (by omega)
    iterate 8 (refine ownsRow_setCell_below ?_ (by simp) _)
    exact HO30.out
  · rw [Nat.mul_one, ← lk_cells]
    refine ownsRow_base (base := w.heap.size + 2) ?_ (by omega)
    iterate 8 (refine ownsRow_setCell_below ?_ (by simp) _)
    exact HO31.out
  · refine ownsRow_base (base := w.heap.size + 2) ?_ (by omega)
    iterate 8 (refine ownsRow_setCell_below ?_ (by simp) _)
    exact HO32.out
  · refine ownsRow_base (base := w.heap.size + 2) ?_ (by omega)
    iterate 8 (refine ownsRow_setCell_below ?_ (by simp) _)
    exact HO33.out
  · iterate 8 (refine Below.setCell ?_ (by simp) _)
    exact A4.K
end Go.Proofs.YtfibgpikjfopgaaGreat
/- Ea -/
set_option linter.unusedVariables false
namespace Go.Proofs.YtfibgpikjfopgaaGreat
open Go.RowKit

theorem sumN_take {L : List Nat} {k : Nat} (hk : k < L.length) : sumN (L.take (k + 1)) = (31 * sumN (L.take k) + L.getD k 0) % 65521 := by
  rw [List.take_succ_eq_append_getElem hk]
  unfold sumN
  rw [List.foldl_append]
  simp [List.getD, hk]
theorem at2_drop (L : List Nat) (p i : Nat) : at2 (L.drop p) i = at2 L (p + i) := by
  unfold at2
  rw [getD_drop, getD_drop, Nat.add_assoc]
theorem at2_lt {L : List Nat} (h : SmallB L) (i : Nat) : at2 L i < 65536 := by
  have h0 := h.getD i
  have h1 := h.getD (i + 1)
  unfold at2
  omega

set_option maxHeartbeats 1000000 in
theorem specSumOf_any (v : Value) (L : List Nat) (w : World) (h : Bt w w.heap.size v L) :
    Calls Tryz.prog 59 #[v] w fun e w' => e = .returned (.int .i64 (sumN L)) ∧ w = w' := by
  have H := Lib.hid h
  obtain ⟨⟨A, c, rfl, hcap, -⟩, hl, hs⟩ := h
  have HS := Lib.hid hs
  have hl' : L.length ≤ 2 ^ 63 - 1 := by unfold maxLen at hl; omega
  clear hs hl hcap
  generalize hn : L.length = n at *
  have HN := Lib.hid hn
  clear hn
  go_enter Tryz.func59, Tryz.ntmps59
  go_wp2
  go_loop [3, 4] (fun s3 s4 => ∃ k : Nat, k ≤ n ∧ s4 = .int .i64 k ∧ s3 = .int .i64 (sumN (L.take k))) (fun _ s4 => n - (intOf s4).toNat)
  case atStart => exact ⟨0, Nat.zero_le _, rfl, rfl⟩
  case round =>
    obtain ⟨k, hk, rfl, rfl⟩ := hrel
    by_cases hlt : k < n
    · obtain ⟨b, off, rfl, hb, q⟩ := H.out.cell (k := k) (by rw [HN.out]; exact hlt)
      have zlt := HS.out.getD k
      have hsum := Lib.hid (sumN_take (L := L) (k := k) (by rw [HN.out]; exact hlt))
      have slt := sumN_lt (L.take k)
      generalize L.getD k 0 = z at *
      generalize sumN (L.take k) = s at *
      go_wp2
      refine ⟨⟨k + 1, by omega, by go_num, ?_⟩, by simp [intOf]; omega⟩
      rw [hsum.out]
      go_num
    · obtain rfl : k = n := by omega
      have e1 := Lib.hid (show L.take k = L from List.take_of_length_le (by rw [HN.out]; exact Nat.le_refl _))
      go_wp2
      go_ret
      exact ⟨by rw [e1.out]; rfl, rfl⟩

set_option maxHeartbeats 1000000 in
theorem l4Of_any (v : Value) (L : List Nat) (i : Nat) (q : Int) (hq : q = i) (w : World) (h : Bt w w.heap.size v L) (hi : i + 1 < L.length) :
    Calls Tryz.prog 57 #[v, .int .i64 q] w fun e w' => e = .returned (.int .i64 (at2 L i)) ∧ Below w.heap.size w w' := by
  subst hq
  have H := Lib.hid h
  obtain ⟨⟨A, c, rfl, hcap, -⟩, hl, hs⟩ := h
  have hl' : L.length ≤ 2 ^ 63 - 1 := by unfold maxLen at hl; omega
  obtain ⟨b, off, rfl, hb, q0⟩ := H.out.cell (k := i) (by omega)
  obtain ⟨b', off', e, hb', q1⟩ := H.out.cell (k := i + 1) (by omega)
  injection e with e
  injection e with e1 e2
  subst e1 e2
  have z0 := hs.getD i
  have z1 := hs.getD (i + 1)
  have hat := Lib.hid (show at2 L i = L.getD i 0 + 256 * L.getD (i + 1) 0 from rfl)
  generalize at2 L i = a at *
  generalize L.getD i 0 = x at *
  generalize L.getD (i + 1) 0 = y at *
  clear hs hl hcap
  generalize L.length = n at *
  go_enter Tryz.func57, Tryz.ntmps57
  go_wp2_with fail
  go_quiet (fail)
  go_wp2
  go_ret
  exact ⟨by rw [hat.out]; congr 1, below_drewN (Below.refl _ _) _⟩
end Go.Proofs.YtfibgpikjfopgaaGreat
/- Ek -/
set_option linter.unusedVariables false
namespace Go.Proofs.YtfibgpikjfopgaaGreat
open Go.RowKit

theorem OB.two {w : World} {B : Nat} (hB : B ≤ w.heap.size) {x y : Nat} (hx : x < 256) (hy : y < 256) : OB (w.alloc (.cells #[.int .u8 x, .int .u8 y] 5)) B (.slice (some ⟨w.heap.size, 0, none⟩) 2 2) [x, y] := by
  refine ⟨⟨rfl, .inr ⟨w.heap.size, 2, _, rfl, hB, heap_alloc_new w _, Nat.le_refl _, by unfold maxLen; decide, rfl, rfl⟩⟩, fun z hz => ?_⟩
  rcases List.mem_cons.1 hz with rfl | hz
  · exact hx
  · obtain rfl : z = y := by simpa using hz
    exact hy
set_option maxHeartbeats 400000 in
theorem l4Two_any (n : Nat) (w : World) (hn : n < 65536) :
    Calls Tryz.prog 92 #[.int .i64 n] w fun e w' => ∃ v, e = .returned v ∧ OB w' w.heap.size v (twoN n) ∧ Below w.heap.size w w' := by
  go_enter Tryz.func92, Tryz.ntmps92
  go_wp2
  go_ret
  refine ⟨_, rfl, ?_, (Below.refl _ _).alloc (Nat.le_refl _) _⟩
  have := OB.two (w := w) (Nat.le_refl _) (x := n % 256) (y := n / 256) (by omega) (by omega)
  first
    | exact this
    | (simpa [twoN] using this)

/-- What Framed answers. -/
def framedD (l : List RecD) : List Nat := if writeB l then frameN (wroteN l) else []
theorem framedD_yes {l : List RecD} (h : writeB l = true) : framedD l = frameN (wroteN l) := if_pos h
theorem framedD_no {l : List RecD} (h : writeB l = false) : framedD l = [] := if_neg (by rw [h]; decide)
def FramedD (l : List RecD) (w : World) (e : Ending) (w' : World) : Prop :=
  ∃ v, e = .returned (.tuple #[v, .bool (writeB l)]) ∧ OB w' w.heap.size v (framedD l) ∧ Below w.heap.size w w'
theorem wroteN_pos {l : List RecD} (h : writeB l = true) : 0 < (wroteN l).length := by
  rw [wroteN_yes h, List.length_append]
  have := putN_pos l.length
  omega
theorem news_bytes {w : World} {g : Nat} {L : List Nat} (hC : ∀ j, j < L.length → w.cell? ⟨g, j, none⟩ = some (.int .u8 (L.getD j 0 : Nat))) : ∀ j u, (L.map byteV)[j]? = some u → w.cell? ((⟨g, 0, none⟩ : Addr).add j) = some u := fun j u hu => by
  have hj : j < L.length := by
    have := (List.getElem?_eq_some_iff.1 hu).1
    simpa using this
  rw [byteV_get hj] at hu
  cases hu
  rw [add_zero_block]
  exact hC j hj
theorem one_bytes {L : List Nat} : ∀ u ∈ L.map byteV, u.oneCell' = true := fun u hu => by
  obtain ⟨z, _, rfl⟩ := List.mem_map.1 hu
  rfl
set_option maxRecDepth 100000 in
set_option maxHeartbeats 2000000 in
theorem specFramed_any (v : Value) (l : List RecD) (w : World) (h : Rt w w.heap.size v l) :
    Calls Tryz.prog 63 #[v] w (FramedD l w) := by
  have H := Lib.hid h
  obtain ⟨i0, hi, hz0, hz1, hz2⟩ := info_parts info_u8
  have HI := Lib.hid hi
  have HZ0 := Lib.hid hz0
  have HZ1 := Lib.hid hz1
  have HZ2 := Lib.hid hz2
  clear h hi hz0 hz1 hz2
  go_enter Tryz.func63, Tryz.ntmps63
  go_wp2_with fail
  refine (specRecBytes_any v l w H.out).mono ?_
  rintro e w1 ⟨v1, rfl, O1, K1⟩
  have HO1 := Lib.hid O1
  have HK1 := Lib.hid K1
  have hlen := wroteN_len l
  have hbt := O1.bt
  obtain ⟨A1, c1, g1, rfl, hcap, hA1, hB1, hg1, C1⟩ := O1.open_
  have HBT := Lib.hid hbt
  have HC1 := Lib.hid C1
  clear O1 K1 hbt C1
  cases hw : writeB l
  · have HW := Lib.hid hw
    clear hw
    go_wp2_with fail
    go_ret2
    refine ⟨_, ret_two rfl (bool_eq HW.out.symm), ?_, HK1.out.alloc HK1.out.size _⟩
    rw [framedD_no HW.out]
    exact OB.empty HK1.out.size
  · have HW := Lib.hid hw
    have hpos := wroteN_pos hw
    have hg1' := hg1 hpos
    obtain rfl := hA1 hpos
    clear hw hg1 hA1
    have HF := Lib.hid (framedD_yes HW.out)
    generalize wroteN l = M at *
    generalize hm : M.length = m at *
    have HM := Lib.hid hm
    clear hm
    go_wp2_with fail
    refine (l4Two_any m w1 (by omega)).mono ?_
    rintro e w2 ⟨v2, rfl, O2, K2⟩
    have HO2 := Lib.hid O2
    have HK2 := Lib.hid K2
    clear O2 K2
    go_wp2_with fail
    refine (specSumOf_any _ M w2 (HBT.out.go HK2.out)).mono ?_
    rintro e w3 ⟨rfl, rfl⟩
    have hs := sumN_lt M
    generalize hsm : sumN M = s at *
    have HSM := Lib.hid hsm
    clear hsm
    go_wp2_with fail
    refine (l4Two_any s w2 (by omega)).mono ?_
    rintro e w3 ⟨v3, rfl, O3, K3⟩
    have HO3 := Lib.hid O3
    have HK3 := Lib.hid K3
    have hl3 : (twoN s).length = 2 := rfl
    obtain ⟨A3, c3, g3, rfl, hcap3, hA3, hB3, hg3, C3⟩ := O3.open_
    obtain rfl := hA3 (by rw [hl3]; decide)
    have HC3 := Lib.hid C3
    clear O3 K3 hA3 hg3 C3
    rw [hl3] at *
    have HR2 := Lib.hid (ownsRow_below HO2.out.own HK3.out)
    have hl2 : (twoN m).length = 2 := rfl
    rw [hl2] at HR2
    have hb3 := Nat.le_trans HK2.out.size HK3.out.size
    have HN3 : Hid (∀ j u, ((twoN s).map byteV)[j]? = some u → w3.cell? ((⟨g3, 0, none⟩ : Addr).add j) = some u) := Lib.hid (news_bytes fun j hj => (HC3.out j hj).1)
    have HK := Lib.hid ((HK1.out.trans (HK2.out.mono HK1.out.size)).trans (HK3.out.mono (Nat.le_trans HK1.out.size HK2.out.size)))
    have HN1 : Hid (∀ j, j < M.length → w3.cell? ⟨g1, j, none⟩ = some (.int .u8 (M.getD j 0 : Nat))) := Lib.hid fun j hj =>
      ((HK3.out.mono HK2.out.size).cell (p := ⟨g1, j, none⟩) hg1').trans ((HK2.out.cell (p := ⟨g1, j, none⟩) hg1').trans (HC1.out j (by rw [HM.out] at hj; exact hj)).1)
    have HV2 : Hid (∀ r, v2.ownBlock = some r → w1.heap.size ≤ r) := Lib.hid fun r hr => (HO2.out.lt hr).1
    have HS : Hid (SmallB (frameN M)) := Lib.hid (by
      unfold frameN
      rw [HM.out, HSM.out]
      exact HO2.out.small.append (HO3.out.small.append HO1.out.small))
    clear HC1 HC3 HK2 HK3 HBT HO3
    go_wp2_with (first
      | (at_builtin; refine wpList_append_own _ rfl _ _ 22 rfl w1.heap.size 5 i0 (.int .u8 0) 1 1 Tryz.underlying22 HI.out HZ0.out HZ1.out HZ2.out rfl (by decide) v2 2 _ rfl HR2.out ⟨g3, 0, none⟩ 2 c3 ((twoN s).map byteV) rfl rfl HN3.out one_bytes (by unfold maxLen; decide) (by decide) hb3 ?_; clear HR2; intro v4 w4 hown4 hgrow4 hnil4; have HR4 := Lib.hid hown4; have HG4 := Lib.hid hgrow4; clear hown4 hgrow4)
      | (at_builtin; (refine wpList_append_own _ rfl _ _ 22 rfl w1.heap.size 5 i0 (.int .u8 0) 1 1 Tryz.underlying22 HI.out HZ0.out HZ1.out HZ2.out rfl (by decide) v4 4 _ rfl HR4.out ⟨g1, 0, none⟩ m c1 (M.map byteV) rfl (by rw [List.length_map, HM.out, Nat.mul_one]) (news_bytes fun j hj => HG4.out.cell (HN1.out j hj) (fun e => by have : w1.heap.size ≤ g1 := HV2.out g1 e.symm; omega)) one_bytes (by unfold maxLen; omega) (by omega) (Nat.le_trans hb3 HG4.out.size) ?_; intro v5 w5 hown5 hgrow5 hnil5)))
    go_ret2
    refine ⟨_, ret_two rfl (bool_eq HW.out.symm), ⟨?_, by rw [HF.out]; exact HS.out⟩, ?_⟩
    · rw [HF.out, frameN_length]
      have e1 : (frameN M).map byteV = (twoN m).map byteV ++ (twoN s).map byteV ++ M.map byteV := by
        unfold frameN
        rw [HM.out, HSM.out, List.map_append, List.map_append, List.append_assoc]
      rw [e1, HM.out]
      exact ownsRow_base hown5 HK1.out.size
    · exact (HK.out.grown HG4.out HK.out.size (fun r hr => Nat.le_trans HK1.out.size (HV2.out r hr))).grown hgrow5 (Nat.le_trans HK.out.size HG4.out.size) (fun r hr => Nat.le_trans HK1.out.size (World.ownsRow.lt HR4.out r hr).1)
end Go.Proofs.YtfibgpikjfopgaaGreat
/- El -/
set_option linter.unusedVariables false
namespace Go.Proofs.YtfibgpikjfopgaaGreat
open Go.RowKit

theorem writeN_of {l : List RecD} (h : writeB l = true) : writeN l = some (wroteN l) := by
  unfold writeN
  rw [if_pos (writeB_true h), wroteN_yes h]
theorem readN_wrote {l : List RecD} (h : writeB l = true) : readN (wroteN l) = some l := read_write (writeN_of h)
/-- Is there a frame more, and room for it? -/
def withOk (b : List Nat) (l : List RecD) : Bool := writeB l && decide ((framesN b).2 + (framedD l).length ≤ 1200)
/-- The store with the frame; as it was where there is none. -/
def withD (b : List Nat) (l : List RecD) : List Nat := if withOk b l then b.take (framesN b).2 ++ framedD l else b
theorem withD_yes {b : List Nat} {l : List RecD} (h : withOk b l = true) : withD b l = b.take (framesN b).2 ++ framedD l := if_pos h
theorem withD_no {b : List Nat} {l : List RecD} (h : withOk b l = false) : withD b l = b := if_neg (by rw [h]; decide)
theorem withD_len (b : List Nat) (l : List RecD) : (withD b l).length ≤ 1200 + b.length := by
  cases h : withOk b l
  · rw [withD_no h]; omega
  · rw [withD_yes h]
    have := framesN_le b
    simp [withOk] at h
    rw [List.length_append, List.length_take]
    omega
/-- What WithFrame answers. -/
def WithD (b : List Nat) (l : List RecD) (w : World) (e : Ending) (w' : World) : Prop :=
  ∃ v, e = .returned (.tuple #[v, .bool (withOk b l)]) ∧ OB w' w.heap.size v (withD b l) ∧ Below w.heap.size w w'
theorem framedD_len {l : List RecD} (h : writeB l = true) : (framedD l).length = 4 + (wroteN l).length := by rw [framedD_yes h, frameN_length]
theorem framedD_max (l : List RecD) : (framedD l).length ≤ 727 := by
  cases h : writeB l
  · rw [framedD_no h]; simp
  · rw [framedD_len h]
    have := wroteN_len l
    omega
theorem framedD_few {l : List RecD} (h : writeB l = true) : (framedD l).length ≤ 7 + 9 * l.length := by
  obtain ⟨h1, h2⟩ := writeB_true h
  rw [framedD_len h, wroteN_yes h, List.length_append]
  have := recsN_len h2
  have := putN_len3 (n := l.length) (by omega)
  omega
/-- A frame behind whole frames: there is room, it is behind them, all are read; torn, it is not there. -/
theorem torn_round {b : List Nat} {ls : List (List RecD)} {l : List RecD} (hb : framesN b = (ls, b.length)) (hw : writeB l = true) (hsz : b.length + (framedD l).length ≤ 1200) :
    withOk b l = true ∧ withD b l = b ++ framedD l ∧ framesN (b ++ framedD l) = (ls ++ [l], (b ++ framedD l).length) ∧ ∀ k, k < (framedD l).length → framesN ((b ++ framedD l).take (b.length + k)) = (ls, b.length) := by
  have h1 : withOk b l = true := by simp [withOk, hw, hb, hsz]
  refine ⟨h1, ?_, ?_, fun k hk => ?_⟩
  · rw [withD_yes h1, hb, List.take_of_length_le (Nat.le_refl _)]
  · rw [framedD_yes hw]
    exact framesN_one hb (readN_wrote hw)
  · rw [framedD_len hw] at hk
    rw [framedD_yes hw]
    exact framesN_torn hb hk
end Go.Proofs.YtfibgpikjfopgaaGreat
/- Eb -/
set_option linter.unusedVariables false
namespace Go.Proofs.YtfibgpikjfopgaaGreat
open Go.RowKit

theorem info_recs : (Tryz.prog.info? 93).map (fun i => (i.zero, i.size, i.bytes)) = some (some (.slice none 0 0), 1, 24) := by kernel_rfl
def listAt (ls : List (List RecD)) (i : Nat) : List RecD := ls.getD i []
theorem listAt_snoc (ls : List (List RecD)) (l : List RecD) (i : Nat) : listAt (ls ++ [l]) i = if i = ls.length then l else listAt ls i := by
  unfold listAt
  by_cases h : i < ls.length
  · rw [if_neg (by omega)]
    simp [List.getD, List.getElem?_append_left h]
  · by_cases e : i = ls.length
    · subst e; simp [List.getD]
    · rw [if_neg e]
      simp only [List.getD]
      rw [List.getElem?_eq_none (by simp; omega), List.getElem?_eq_none (by omega)]
/-- A slice of the lists ls, lying below block B. -/
structure St (w : World) (B : Nat) (v : Value) (ls : List (List RecD)) : Prop where
  it : ∃ A c, v = .slice A ls.length c ∧ (0 < ls.length → ∃ b off, A = some ⟨b, off, none⟩ ∧ b < B ∧ ∀ i, i < ls.length → ∃ u, w.cell? ⟨b, off + i, none⟩ = some u ∧ Rt w B u (listAt ls i))
  len : ls.length ≤ maxLen
theorem St.below {w w' : World} {B B' : Nat} {v : Value} {ls : List (List RecD)} (h : St w B v ls) (hb : Below B' w w') (hB : B ≤ B') : St w' B v ls := by
  obtain ⟨⟨A, c, rfl, hc⟩, hl⟩ := h
  refine ⟨⟨A, c, rfl, fun hn => ?_⟩, hl⟩
  obtain ⟨b, off, rfl, hlt, hc⟩ := hc hn
  refine ⟨b, off, rfl, hlt, fun i hi => ?_⟩
  obtain ⟨u, hu, hr⟩ := hc i hi
  exact ⟨u, (hb.cell (p := ⟨b, off + i, none⟩) (by show b < B'; omega)).trans hu, hr.below hb hB⟩
theorem St.more {w : World} {B B' : Nat} {v : Value} {ls : List (List RecD)} (h : St w B v ls) (hB : B ≤ B') : St w B' v ls := by
  obtain ⟨⟨A, c, rfl, hc⟩, hl⟩ := h
  refine ⟨⟨A, c, rfl, fun hn => ?_⟩, hl⟩
  obtain ⟨b, off, rfl, hlt, hc⟩ := hc hn
  refine ⟨b, off, rfl, by omega, fun i hi => ?_⟩
  obtain ⟨u, hu, hr⟩ := hc i hi
  exact ⟨u, hu, hr.more hB⟩
theorem St.go {w w' : World} {v : Value} {ls : List (List RecD)} (h : St w w.heap.size v ls) (hb : Below w.heap.size w w') : St w' w'.heap.size v ls := (h.below hb (Nat.le_refl _)).more hb.size
theorem St.cell {w : World} {B : Nat} {A : Option Addr} {n c : Nat} {ls : List (List RecD)} (h : St w B (.slice A n c) ls) {i : Nat} (hi : i < ls.length) :
    ∃ b off u, A = some ⟨b, off, none⟩ ∧ b < B ∧ w.cell? ⟨b, off + i, none⟩ = some u ∧ Rt w B u (listAt ls i) := by
  obtain ⟨⟨A', c', hv, hc⟩, hl⟩ := h
  injection hv with h1 _ _
  subst h1
  obtain ⟨b, off, e, hlt, hc⟩ := hc (by omega)
  obtain ⟨u, hu, hr⟩ := hc i hi
  exact ⟨b, off, u, e, hlt, hu, hr⟩

/-- The slices vs hold the lists ls, in blocks from B to T, each beyond those ahead of it. -/
def Seg (w : World) : Nat → Nat → List Value → List (List RecD) → Prop
  | B, T, [], [] => B ≤ T
  | B, T, v :: vs, l :: ls => ∃ M, B ≤ M ∧ OR w B v l ∧ (∀ r, v.ownBlock = some r → r < M) ∧ Seg w M T vs ls
  | _, _, _, _ => False
theorem Seg.below {w w' : World} {T : Nat} (hb : Below w.heap.size w w') : ∀ {vs : List Value} {ls : List (List RecD)} {B : Nat}, Seg w B T vs ls → Seg w' B T vs ls
  | [], [], _, h => h
  | [], _ :: _, _, h => h.elim
  | _ :: _, [], _, h => h.elim
  | v :: vs, l :: ls, B, ⟨M, h1, h2, h3, h4⟩ => ⟨M, h1, h2.below hb, h3, Seg.below hb h4⟩
theorem Seg.base {w : World} {T : Nat} : ∀ {vs : List Value} {ls : List (List RecD)} {B B' : Nat}, B' ≤ B → Seg w B T vs ls → Seg w B' T vs ls
  | [], [], _, _, hB, h => Nat.le_trans hB h
  | [], _ :: _, _, _, _, h => h.elim
  | _ :: _, [], _, _, _, h => h.elim
  | v :: vs, l :: ls, B, B', hB, ⟨M, h1, h2, h3, h4⟩ => ⟨M, Nat.le_trans hB h1, h2.base hB, h3, h4⟩
theorem Seg.top {w : World} {T T' : Nat} (hT : T ≤ T') : ∀ {vs : List Value} {ls : List (List RecD)} {B : Nat}, Seg w B T vs ls → Seg w B T' vs ls
  | [], [], _, h => Nat.le_trans h hT
  | [], _ :: _, _, h => h.elim
  | _ :: _, [], _, h => h.elim
  | v :: vs, l :: ls, B, ⟨M, h1, h2, h3, h4⟩ => ⟨M, h1, h2, h3, Seg.top hT h4⟩
theorem Seg.len {w : World} {T : Nat} : ∀ {vs : List Value} {ls : List (List RecD)} {B : Nat}, Seg w B T vs ls → vs.length = ls.length
  | [], [], _, _ => rfl
  | [], _ :: _, _, h => h.elim
  | _ :: _, [], _, h => h.elim
  | v :: vs, l :: ls, B, ⟨M, h1, h2, h3, h4⟩ => by rw [List.length_cons, List.length_cons, Seg.len h4]
theorem Seg.snoc {w : World} {T T' : Nat} {v : Value} {l : List RecD} (hv : OR w T v l) (hT : T ≤ T') (ht : ∀ r, v.ownBlock = some r → r < T') :
    ∀ {vs : List Value} {ls : List (List RecD)} {B : Nat}, Seg w B T vs ls → Seg w B T' (vs ++ [v]) (ls ++ [l])
  | [], [], B, h => ⟨T', Nat.le_trans h hT, hv.base h, ht, Nat.le_refl _⟩
  | [], _ :: _, _, h => h.elim
  | _ :: _, [], _, h => h.elim
  | v :: vs, l :: ls, B, ⟨M, h1, h2, h3, h4⟩ => ⟨M, h1, h2, h3, Seg.snoc hv hT ht h4⟩
theorem Seg.at_ {w : World} {T : Nat} : ∀ {vs : List Value} {ls : List (List RecD)} {B i : Nat}, Seg w B T vs ls → i < ls.length → ∃ v, vs[i]? = some v ∧ OR w B v (listAt ls i)
  | [], [], _, _, _, hi => absurd hi (Nat.not_lt_zero _)
  | [], _ :: _, _, _, h, _ => h.elim
  | _ :: _, [], _, _, h, _ => h.elim
  | v :: vs, l :: ls, B, 0, ⟨M, h1, h2, h3, h4⟩, _ => ⟨v, rfl, h2⟩
  | v :: vs, l :: ls, B, i + 1, ⟨M, h1, h2, h3, h4⟩, hi => by
    obtain ⟨v, e, h⟩ := Seg.at_ h4 (i := i) (by simpa using hi)
    exact ⟨v, by simpa using e, by unfold listAt at h ⊢; simpa using h.base h1⟩
theorem Seg.lo {w : World} {T : Nat} : ∀ {vs : List Value} {ls : List (List RecD)} {B i : Nat} {v : Value} {r : Nat}, Seg w B T vs ls → vs[i]? = some v → v.ownBlock = some r → B ≤ r
  | [], [], _, _, _, _, _, hi, _ => by simp at hi
  | [], _ :: _, _, _, _, _, h, _, _ => h.elim
  | _ :: _, [], _, _, _, _, h, _, _ => h.elim
  | v :: vs, l :: ls, B, 0, v', r, ⟨M, h1, h2, h3, h4⟩, hi, hr => by
    obtain rfl : v = v' := by simpa using hi
    exact (h2.lt hr).1
  | v :: vs, l :: ls, B, i + 1, v', r, ⟨M, h1, h2, h3, h4⟩, hi, hr => Nat.le_trans h1 (Seg.lo h4 (i := i) (by simpa using hi) hr)
theorem Seg.apart {w : World} {T : Nat} : ∀ {vs : List Value} {ls : List (List RecD)} {B i j : Nat} {v v' : Value} {r r' : Nat}, Seg w B T vs ls → i < j → vs[i]? = some v → vs[j]? = some v' → v.ownBlock = some r → v'.ownBlock = some r' → r < r'
  | [], [], _, _, _, _, _, _, _, _, _, hi, _, _, _ => by simp at hi
  | [], _ :: _, _, _, _, _, _, _, _, h, _, _, _, _, _ => h.elim
  | _ :: _, [], _, _, _, _, _, _, _, h, _, _, _, _, _ => h.elim
  | v :: vs, l :: ls, B, i, 0, _, _, _, _, _, hij, _, _, _, _ => absurd hij (Nat.not_lt_zero _)
  | v :: vs, l :: ls, B, 0, j + 1, v1, v2, r, r', ⟨M, h1, h2, h3, h4⟩, _, hi, hj, hr, hr' => by
    obtain rfl : v = v1 := by simpa using hi
    exact Nat.lt_of_lt_of_le (h3 r hr) (Seg.lo h4 (i := j) (by simpa using hj) hr')
  | v :: vs, l :: ls, B, i + 1, j + 1, v1, v2, r, r', ⟨M, h1, h2, h3, h4⟩, hij, hi, hj, hr, hr' =>
    Seg.apart h4 (i := i) (j := j) (by omega) (by simpa using hi) (by simpa using hj) hr hr'

/-- A row of lists of the call's own, each in memory of its own. -/
def OS (w : World) (B : Nat) (v : Value) (ls : List (List RecD)) : Prop := ∃ vs, w.ownsRow B 93 1 v ls.length vs ∧ Seg w B w.heap.size vs ls
theorem OS.below {w w' : World} {B : Nat} {v : Value} {ls : List (List RecD)} (h : OS w B v ls) (hb : Below w.heap.size w w') : OS w' B v ls := by
  obtain ⟨vs, h1, h2⟩ := h
  exact ⟨vs, ownsRow_below h1 hb, (h2.below hb).top hb.size⟩
theorem OS.base {w : World} {B B' : Nat} {v : Value} {ls : List (List RecD)} (h : OS w B v ls) (hb : B' ≤ B) : OS w B' v ls := by
  obtain ⟨vs, h1, h2⟩ := h
  exact ⟨vs, ownsRow_base h1 hb, h2.base hb⟩
theorem OS.lt {w : World} {B : Nat} {v : Value} {ls : List (List RecD)} (h : OS w B v ls) {r : Nat} (hr : v.ownBlock = some r) : B ≤ r ∧ r < w.heap.size := by
  obtain ⟨vs, h1, h2⟩ := h
  exact World.ownsRow.lt h1 r hr
theorem OS.len {w : World} {B : Nat} {v : Value} {ls : List (List RecD)} (h : OS w B v ls) : ls.length ≤ maxLen := by
  obtain ⟨vs, h, -⟩ := h
  rcases h.2 with ⟨_, h0⟩ | ⟨g, cap, cur, _, _, _, hnc, hcm, _⟩
  · rw [h0]; exact Nat.zero_le _
  · exact Nat.le_trans hnc hcm
theorem OS.empty {w : World} {B : Nat} (hB : B ≤ w.heap.size) : OS (w.alloc (.cells #[] 93)) B (.slice (some ⟨w.heap.size, 0, none⟩) 0 0) [] := by
  have := World.ownsRow_made (base := w.heap.size) (e := 93) (size := 1) w #[] 0 (by simp) (Nat.zero_le _) rfl
  exact ⟨[], ownsRow_base (by simpa using this) hB, by simp [Seg]; omega⟩
/-- What lies where. -/
theorem OS.open_ {w : World} {B : Nat} {v : Value} {ls : List (List RecD)} (h : OS w B v ls) :
    ∃ (A : Option Addr) (c g : Nat) (vs : List Value), v = .slice A ls.length c ∧ (0 < ls.length → A = some ⟨g, 0, none⟩) ∧ B ≤ g ∧ (0 < ls.length → g < w.heap.size) ∧ Seg w B w.heap.size vs ls ∧
      (∀ (i : Nat) (u : Value), vs[i]? = some u → w.cell? ⟨g, i, none⟩ = some u ∧ w.frozen? ⟨g, i, none⟩ = false) ∧ (∀ (i : Nat) (u : Value) (r : Nat), vs[i]? = some u → u.ownBlock = some r → r ≠ g) := by
  obtain ⟨vs, h1, h2⟩ := h
  have hlen := h2.len
  rcases h1.2 with ⟨rfl, h0⟩ | ⟨g, cap, cur, rfl, hb, hh, hnc, _⟩
  · refine ⟨none, 0, B, vs, by rw [h0], fun h => by omega, Nat.le_refl _, fun h => by omega, h2, fun i u hi => ?_, fun i u r hi => ?_⟩
    all_goals
      have : vs = [] := List.eq_nil_of_length_eq_zero (by omega)
      subst this
      simp at hi
  · refine ⟨_, cap, g, vs, rfl, fun _ => rfl, hb, fun _ => (Array.getElem?_eq_some_iff.1 hh).1, h2, fun i u hi => ⟨?_, frozen_of_row _ _ _ _ _ hh⟩, fun i u r hi hr e => ?_⟩
    · have := h1.cells (g := g) rfl i _ hi
      rwa [add_zero_block] at this
    · subst e
      obtain ⟨u', e', ho⟩ := h2.at_ (i := i) (by rw [← hlen]; exact (List.getElem?_eq_some_iff.1 hi).1)
      rw [hi] at e'
      cases e'
      rcases ho.2 with ⟨rfl, _⟩ | ⟨g', cap', cur', rfl, _, hh', _⟩
      · simp [Value.ownBlock] at hr
      · obtain rfl : g' = r := by simpa [Value.ownBlock] using hr
        rw [hh] at hh'
        injection hh' with hh'
        injection hh' with _ ht _
        exact absurd ht (by decide)
theorem OS.st {w : World} {B : Nat} {v : Value} {ls : List (List RecD)} (h : OS w B v ls) : St w w.heap.size v ls := by
  have hl := h.len
  obtain ⟨A, c, g, vs, rfl, hA, hB, hg, hS, hC, -⟩ := h.open_
  refine ⟨⟨A, c, rfl, fun hn => ⟨g, 0, hA hn, hg hn, fun i hi => ?_⟩⟩, hl⟩
  obtain ⟨u, hu, ho⟩ := hS.at_ hi
  exact ⟨u, by rw [Nat.zero_add]; exact (hC i u hu).1, ho.rt⟩
theorem Keeps.of_grownE {w w' : World} {row : Option Nat} (h : w.grownBy w' row) : Keeps (fun b => row = some b) w w' :=
  ⟨h.os, h.tape, h.output, h.size, fun b hb hn => h.block b hb (fun e => hn e.symm)⟩
theorem OR.keepsV {S : Nat → Prop} {w w' : World} {B : Nat} {v : Value} {l : List RecD} (h : OR w B v l) (k : Keeps S w w') (hS : ∀ r, v.ownBlock = some r → ¬ S r) : OR w' B v l := by
  refine ⟨h.1, ?_⟩
  rcases h.2 with h0 | ⟨g, cap, cur, rfl, hb, hh, hr⟩
  · exact .inl h0
  · exact .inr ⟨g, cap, cur, rfl, hb, (k.block g (Array.getElem?_eq_some_iff.1 hh).1 (hS g rfl)).trans hh, hr⟩
theorem Seg.keeps {S : Nat → Prop} {w w' : World} {T : Nat} (k : Keeps S w w') : ∀ {vs : List Value} {ls : List (List RecD)} {B : Nat}, (∀ (i : Nat) (u : Value) (r : Nat), vs[i]? = some u → u.ownBlock = some r → ¬ S r) → Seg w B T vs ls → Seg w' B T vs ls
  | [], [], _, _, h => h
  | [], _ :: _, _, _, h => h.elim
  | _ :: _, [], _, _, h => h.elim
  | v :: vs, l :: ls, B, hS, ⟨M, h1, h2, h3, h4⟩ => ⟨M, h1, h2.keepsV k (fun r hr => hS 0 v r rfl hr), h3, Seg.keeps k (fun i u r hi hr => hS (i + 1) u r (by simpa using hi) hr) h4⟩
theorem row_apartS {w : World} {B B' n r : Nat} {v u : Value} {l : List RecD} {vs : List Value} (h : w.ownsRow B 93 1 v n vs) (hu : OR w B' u l) (hv : v.ownBlock = some r) : ¬ u.ownBlock = some r := fun hr => by
  rcases h.2 with ⟨rfl, _⟩ | ⟨g, cap, cur, rfl, hb, hh, _⟩
  · simp [Value.ownBlock] at hv
  · rcases hu.2 with ⟨rfl, _⟩ | ⟨g', cap', cur', rfl, _, hh', _⟩
    · simp [Value.ownBlock] at hr
    · obtain rfl : g = r := by simpa [Value.ownBlock] using hv
      obtain rfl : g' = g := by simpa [Value.ownBlock] using hr
      rw [hh] at hh'
      injection hh' with hh'
      injection hh' with _ ht _
      exact absurd ht (by decide)
theorem OS.push {w w' : World} {B T : Nat} {v v' u : Value} {l : List RecD} {ls : List (List RecD)} {vs : List Value} (h0 : w.ownsRow B 93 1 v ls.length vs) (hS : Seg w B T vs ls) (hT : T ≤ w.heap.size) (hu : OR w T u l)
    (k : Keeps (fun b => v.ownBlock = some b) w w') (h' : w'.ownsRow B 93 1 v' (ls.length + 1) (vs ++ [u])) : OS w' B v' (ls ++ [l]) := by
  refine ⟨vs ++ [u], by rw [List.length_append]; exact h', ?_⟩
  refine (Seg.keeps k (fun i x r hi hr hv => ?_) (Seg.snoc hu hT (fun r hr => (hu.lt hr).2) hS)).top k.size
  by_cases hlt : i < vs.length
  · rw [List.getElem?_append_left hlt] at hi
    obtain ⟨x', e, ho⟩ := hS.at_ (i := i) (by rw [← hS.len]; exact hlt)
    rw [hi] at e
    cases e
    exact row_apartS h0 ho hv hr
  · have : x = u := by
      have hlt2 := (List.getElem?_eq_some_iff.1 hi).1
      simp at hlt2
      obtain rfl : i = vs.length := by omega
      simpa using hi.symm
    subst this
    exact row_apartS h0 hu hv hr
theorem St.keeps {S : Nat → Prop} {w w' : World} {B : Nat} {v : Value} {ls : List (List RecD)} (h : St w B v ls) (hk : Keeps S w w') (hB : B ≤ w.heap.size) (hS : ∀ b, b < B → ¬ S b) : St w' B v ls :=
  h.below (hk.below (B := B) hB hS) (Nat.le_refl _)
theorem OS.keeps {S : Nat → Prop} {w w' : World} {B : Nat} {v : Value} {ls : List (List RecD)} (h : OS w B v ls) (hk : Keeps S w w') (hS : ∀ r, B ≤ r → ¬ S r) : OS w' B v ls := by
  obtain ⟨vs, ⟨hl, ho⟩, h2⟩ := h
  refine ⟨vs, ⟨hl, ho.imp id ?_⟩, (Seg.keeps hk (fun i u r hi hr => hS r (h2.lo hi hr)) h2).top hk.size⟩
  rintro ⟨g, cap, cur, hv, hb', hh, rest⟩
  exact ⟨g, cap, cur, hv, hb', (hk.block g (Array.getElem?_eq_some_iff.1 hh).1 (hS g hb')).trans hh, rest⟩
end Go.Proofs.YtfibgpikjfopgaaGreat
/- Ec -/
set_option linter.unusedVariables false
namespace Go.Proofs.YtfibgpikjfopgaaGreat
open Go.RowKit

/-- What ReadFrames answers of the bytes L. -/
def ReadAll (L : List Nat) (w : World) (e : Ending) (w' : World) : Prop :=
  ∃ v, e = .returned (.tuple #[v, .int .i64 ((framesN L).2 : Nat)]) ∧ OS w' w.heap.size v (framesN L).1 ∧ Below w.heap.size w w'
theorem getFrame_short {L : List Nat} (h : L.length < 4) : getFrame L = none := by unfold getFrame; rw [if_pos h]
theorem getFrame_cut {L : List Nat} (h : L.length < 4 + at2 L 0) : getFrame L = none := by
  unfold getFrame
  by_cases h4 : L.length < 4
  · rw [if_pos h4]
  · rw [if_neg h4, if_pos h]
theorem getFrame_sum {L : List Nat} (h : sumN ((L.drop 4).take (at2 L 0)) ≠ at2 L 2) : getFrame L = none := by
  unfold getFrame
  by_cases h4 : L.length < 4
  · rw [if_pos h4]
  · by_cases h5 : L.length < 4 + at2 L 0
    · rw [if_neg h4, if_pos h5]
    · rw [if_neg h4, if_neg h5, if_pos h]
theorem getFrame_bad {L : List Nat} (h : readN ((L.drop 4).take (at2 L 0)) = none) : getFrame L = none := by
  unfold getFrame
  by_cases h4 : L.length < 4
  · rw [if_pos h4]
  · by_cases h5 : L.length < 4 + at2 L 0
    · rw [if_neg h4, if_pos h5]
    · by_cases h6 : sumN ((L.drop 4).take (at2 L 0)) ≠ at2 L 2
      · rw [if_neg h4, if_neg h5, if_pos h6]
      · rw [if_neg h4, if_neg h5, if_neg h6, h]
theorem getFrame_good {L : List Nat} {l : List RecD} (h : 4 + at2 L 0 ≤ L.length) (hs : sumN ((L.drop 4).take (at2 L 0)) = at2 L 2) (hr : readN ((L.drop 4).take (at2 L 0)) = some l) : getFrame L = some (l, 4 + at2 L 0) := by
  unfold getFrame
  rw [if_neg (by omega), if_neg (by omega), if_neg (by simp [hs]), hr]

/-- So far it has come: p bytes, the lists done. -/
structure SoFar (L : List Nat) (p : Nat) (done : List (List RecD)) : Prop where
  le : p ≤ L.length
  short : done.length ≤ p
  it : framesN L = (done ++ (framesN (L.drop p)).1, p + (framesN (L.drop p)).2)
theorem SoFar.start (L : List Nat) : SoFar L 0 [] := ⟨Nat.zero_le _, Nat.le_refl _, by simp⟩
theorem SoFar.stop {L : List Nat} {p : Nat} {done : List (List RecD)} (h : SoFar L p done) (hg : getFrame (L.drop p) = none) : (framesN L).1 = done ∧ (framesN L).2 = p := by
  rw [h.it, framesN_none hg]
  simp
theorem SoFar.step {L : List Nat} {p k : Nat} {l : List RecD} {done : List (List RecD)} (h : SoFar L p done) (hg : getFrame (L.drop p) = some (l, k)) : SoFar L (p + k) (done ++ [l]) := by
  have hk := getFrame_len hg
  have hs := h.short
  rw [List.length_drop] at hk
  have hl := h.le
  refine ⟨by omega, by rw [List.length_append, List.length_singleton]; omega, ?_⟩
  rw [h.it, framesN_some hg, List.drop_drop]
  simp
  omega
end Go.Proofs.YtfibgpikjfopgaaGreat
/- Ed -/
set_option linter.unusedVariables false
namespace Go.Proofs.YtfibgpikjfopgaaGreat
open Go.RowKit

set_option maxRecDepth 100000 in
set_option maxHeartbeats 4000000 in
theorem specReadFrames_any (v : Value) (L : List Nat) (w : World) (h : Bt w w.heap.size v L) (hsz : L.length ≤ 4194304) :
    Calls Tryz.prog 38 #[v] w (ReadAll L w) := by
  have H := Lib.hid h
  obtain ⟨⟨A, c, rfl, hcap, -⟩, hl, hs⟩ := h
  have HS := Lib.hid hs
  have HL := Lib.hid hl
  have hl' : L.length ≤ 4194304 := hsz
  clear hs hl hsz
  obtain ⟨i0, hi, hz0, hz1, hz2⟩ := info_parts info_recs
  have HI := Lib.hid hi
  have HZ0 := Lib.hid hz0
  have HZ1 := Lib.hid hz1
  have HZ2 := Lib.hid hz2
  clear hi hz0 hz1 hz2
  generalize hn : L.length = n at *
  have HN := Lib.hid hn
  clear hn
  go_enter Tryz.func38, Tryz.ntmps38
  go_wp2_with fail
  go_loopw [4, 5] (fun s4 s5 wr => ∃ (p : Nat) (done : List (List RecD)), s5 = .int .i64 p ∧ p ≤ n ∧ SoFar L p done ∧ OS wr w.heap.size s4 done ∧ Below w.heap.size w wr) (fun _ s5 _ => n - (intOf s5).toNat)
  case atStart => exact ⟨0, [], rfl, Nat.zero_le _, SoFar.start L, OS.empty (Nat.le_refl _), (Below.refl _ _).alloc (Nat.le_refl _) _⟩
  case round =>
    obtain ⟨p, done, rfl, hp, hsf, O, K⟩ := hrel
    have HSF := Lib.hid hsf
    have HO := Lib.hid O
    have HK := Lib.hid K
    clear hsf O K
    by_cases h4 : p + 4 ≤ n
    · go_wp2_with fail
      have HB := Lib.hid ((H.out.below HK.out (Nat.le_refl _)).more HK.out.size)
      refine (l4Of_any _ L p _ rfl wr HB.out (by rw [HN.out]; omega)).mono ?_
      rintro e w1 ⟨rfl, hb1⟩
      have HAT := Lib.hid (at2_drop L p 0)
      have hm := at2_lt HS.out p
      have HK1 := Lib.hid (HK.out.trans (hb1.mono HK.out.size))
      have HO1 := Lib.hid (HO.out.below hb1)
      clear HB hb1 HK HO
      rw [Nat.add_zero] at HAT
      generalize hmm : at2 L p = m at *
      have HM := Lib.hid hmm
      clear hmm
      by_cases h5 : p + 4 + m ≤ n
      · obtain ⟨b, off, rfl, hb, -⟩ := H.out.cell (k := p) (by rw [HN.out]; omega)
        have e4 : (L.drop p).drop 4 = L.drop (p + 4) := by rw [List.drop_drop]
        have HE1 : Hid (sumN ((L.drop (p + 4)).take m) ≠ at2 L (p + 2) → (framesN L).1 = done ∧ (framesN L).2 = p) := Lib.hid fun hh =>
          HSF.out.stop (getFrame_sum (by rw [HAT.out, at2_drop, e4]; exact hh))
        have HE2 : Hid (readN ((L.drop (p + 4)).take m) = none → (framesN L).1 = done ∧ (framesN L).2 = p) := Lib.hid fun hh =>
          HSF.out.stop (getFrame_bad (by rw [HAT.out, e4]; exact hh))
        have HE3 : Hid (∀ l, sumN ((L.drop (p + 4)).take m) = at2 L (p + 2) → readN ((L.drop (p + 4)).take m) = some l → SoFar L (p + (4 + m)) (done ++ [l])) := Lib.hid fun l h1 h2 =>
          HSF.out.step (by
            have := getFrame_good (L := L.drop p) (l := l) (by rw [HAT.out, List.length_drop, HN.out]; omega) (by rw [HAT.out, at2_drop, e4]; exact h1) (by rw [HAT.out, e4]; exact h2)
            rwa [HAT.out] at this)
        have HB : Hid (∀ Q, (¬ c = p + 4 → Q = some ⟨b, off + (p + 4), none⟩) → Bt w w.heap.size (.slice Q m (c - (p + 4))) ((L.drop (p + 4)).take m)) := Lib.hid fun Q hQ => by
          by_cases hc : c = p + 4
          · obtain rfl : m = 0 := by omega
            rw [List.take_zero]
            exact Bt.nil _ _ _ _
          · rw [hQ hc]
            exact (H.out.drop_at (k := p + 4) (A := some ⟨b, off + (p + 4), none⟩) (by omega) (fun _ => rfl)).take (k := m) (c' := c - (p + 4)) (by rw [List.length_drop, HN.out]; omega) (by omega)
        have HLB := Lib.hid ((H.out.below HK1.out (Nat.le_refl _)).more HK1.out.size)
        obtain ⟨vs, O0, SG⟩ := HO1.out
        have HO0 := Lib.hid O0
        have HSG := Lib.hid SG
        clear O0 SG e4 HSF
        generalize (L.drop (p + 4)).take m = M at *
        by_cases hc : c = p + 4
        · subst hc
          have HBT := Lib.hid (((HB.out (some ⟨b, off, none⟩) (fun h => absurd rfl h)).below HK1.out (Nat.le_refl _)).more HK1.out.size)
          rw [Nat.sub_self] at HBT
          clear HB
          go_wp2_with fail
          refine (specReadRecs_any _ M w1 HBT.out).mono ?_
          rintro e w2 ⟨v2, rfl, O2, hb2⟩
          have HBT2 := Lib.hid (HBT.out.go hb2)
          have HLB2 := Lib.hid (HLB.out.go hb2)
          have HH2 := Lib.hid hb2
          have HO2 := Lib.hid O2
          obtain ⟨A2, c2, g2, rfl, -⟩ := O2.open_
          clear O2 hb2 HBT HLB
          generalize hq : readN M = q at *
          clear hq
          go_wp2_with fail
          refine (specSumOf_any _ M w2 HBT2.out).mono ?_
          rintro e w3 ⟨rfl, rfl⟩
          go_wp2_with fail
          refine (l4Of_any _ L (p + 2) ((p : Int) + 2) (by omega) w2 HLB2.out (by rw [HN.out]; omega)).mono ?_
          rintro e w3 ⟨rfl, hb3⟩
          have HH3 := Lib.hid hb3
          have HK3 := Lib.hid ((HK1.out.trans (HH2.out.mono HK1.out.size)).trans (hb3.mono (HK1.out.trans (HH2.out.mono HK1.out.size)).size))
          clear hb3 HBT2 HLB2
          generalize sumN M = sm at *
          generalize at2 L (p + 2) = t at *
          by_cases hs : sm = t
          · subst hs
            cases q with
            | none =>
              have HC := Lib.hid (HE2.out rfl)
              go_wp2
              go_ret2
              exact ⟨_, ret_two rfl (int_eq (by rw [HC.out.2])), by rw [HC.out.1]; exact (HO1.out.below HH2.out).below HH3.out, HK3.out⟩
            | some l =>
              have HS3 := Lib.hid (HE3.out l rfl rfl)
              have h63 : Hid (done.length + 1 ≤ maxLen) := Lib.hid (by have := HS3.out.short; have := HS3.out.le; rw [HN.out] at this; simp at *; unfold maxLen; omega)
              have hby : Hid ((done.length + 1) * 24 ≤ 140737488355328) := Lib.hid (by have := HS3.out.short; have := HS3.out.le; rw [HN.out] at this; simp at *; omega)
              have hs3 := HK3.out.size
              have HR3 := Lib.hid (ownsRow_below (ownsRow_below HO0.out HH2.out) HH3.out)
              have HU3 := Lib.hid (HO2.out.below HH3.out)
              have HSG3 := Lib.hid ((HSG.out.below HH2.out).below HH3.out)
              have h13 := Lib.hid (Nat.le_trans HH2.out.size HH3.out.size)
              clear HE1 HE2 HE3 HH2 HH3 HO0 HO2 HSG HO1
              simp only [Option.getD_some] at HU3 ⊢
              go_wp2_with ((at_builtin; refine wpList_append_own _ rfl _ _ 88 rfl w.heap.size 93 i0 (.slice none 0 0) 1 24 Tryz.underlying88 HI.out HZ0.out HZ1.out HZ2.out rfl (by decide) _ _ _ rfl (ownsRow_below HR3.out ((Below.refl _ _).alloc (Nat.le_refl _) _)) ⟨w3.heap.size, 0, none⟩ 1 1 [.slice A2 l.length c2] rfl rfl (cell_one_new _ _ _) (fun x hx => by simp at hx; subst hx; rfl) h63.out hby.out (by simp; omega) ?_; intro v' w4 hown' hgrow hnil))
              refine ⟨⟨p + (4 + m), done ++ [l], int_eq (by omega), by omega, HS3.out, OS.push HR3.out HSG3.out h13.out HU3.out (((Keeps.of_below ((Below.refl _ _).alloc (Nat.le_refl _) _)).trans (Keeps.of_grownE hgrow))) hown', (HK3.out.alloc hs3 _).grown hgrow (by simp; omega) fun r hr => (World.ownsRow.lt HR3.out r hr).1⟩, by simp [intOf]; omega⟩
          · have hne : ¬ (sm : Int) = (t : Int) := by omega
            have HC := Lib.hid (HE1.out hs)
            go_wp2
            go_ret2
            exact ⟨_, ret_two rfl (int_eq (by rw [HC.out.2])), by rw [HC.out.1]; exact (HO1.out.below HH2.out).below HH3.out, HK3.out⟩
        · have HBT := Lib.hid (((HB.out _ (fun _ => rfl)).below HK1.out (Nat.le_refl _)).more HK1.out.size)
          clear HB
          go_wp2_with fail
          refine (specReadRecs_any _ M w1 HBT.out).mono ?_
          rintro e w2 ⟨v2, rfl, O2, hb2⟩
          have HBT2 := Lib.hid (HBT.out.go hb2)
          have HLB2 := Lib.hid (HLB.out.go hb2)
          have HH2 := Lib.hid hb2
          have HO2 := Lib.hid O2
          obtain ⟨A2, c2, g2, rfl, -⟩ := O2.open_
          clear O2 hb2 HBT HLB
          generalize hq : readN M = q at *
          clear hq
          go_wp2_with fail
          refine (specSumOf_any _ M w2 HBT2.out).mono ?_
          rintro e w3 ⟨rfl, rfl⟩
          go_wp2_with fail
          refine (l4Of_any _ L (p + 2) ((p : Int) + 2) (by omega) w2 HLB2.out (by rw [HN.out]; omega)).mono ?_
          rintro e w3 ⟨rfl, hb3⟩
          have HH3 := Lib.hid hb3
          have HK3 := Lib.hid ((HK1.out.trans (HH2.out.mono HK1.out.size)).trans (hb3.mono (HK1.out.trans (HH2.out.mono HK1.out.size)).size))
          clear hb3 HBT2 HLB2
          generalize sumN M = sm at *
          generalize at2 L (p + 2) = t at *
          by_cases hs : sm = t
          · subst hs
            cases q with
            | none =>
              have HC := Lib.hid (HE2.out rfl)
              go_wp2
              go_ret2
              exact ⟨_, ret_two rfl (int_eq (by rw [HC.out.2])), by rw [HC.out.1]; exact (HO1.out.below HH2.out).below HH3.out, HK3.out⟩
            | some l =>
              have HS3 := Lib.hid (HE3.out l rfl rfl)
              have h63 : Hid (done.length + 1 ≤ maxLen) := Lib.hid (by have := HS3.out.short; have := HS3.out.le; rw [HN.out] at this; simp at *; unfold maxLen; omega)
              have hby : Hid ((done.length + 1) * 24 ≤ 140737488355328) := Lib.hid (by have := HS3.out.short; have := HS3.out.le; rw [HN.out] at this; simp at *; omega)
              have hs3 := HK3.out.size
              have HR3 := Lib.hid (ownsRow_below (ownsRow_below HO0.out HH2.out) HH3.out)
              have HU3 := Lib.hid (HO2.out.below HH3.out)
              have HSG3 := Lib.hid ((HSG.out.below HH2.out).below HH3.out)
              have h13 := Lib.hid (Nat.le_trans HH2.out.size HH3.out.size)
              clear HE1 HE2 HE3 HH2 HH3 HO0 HO2 HSG HO1
              simp only [Option.getD_some] at HU3 ⊢
              go_wp2_with ((at_builtin; refine wpList_append_own _ rfl _ _ 88 rfl w.heap.size 93 i0 (.slice none 0 0) 1 24 Tryz.underlying88 HI.out HZ0.out HZ1.out HZ2.out rfl (by decide) _ _ _ rfl (ownsRow_below HR3.out ((Below.refl _ _).alloc (Nat.le_refl _) _)) ⟨w3.heap.size, 0, none⟩ 1 1 [.slice A2 l.length c2] rfl rfl (cell_one_new _ _ _) (fun x hx => by simp at hx; subst hx; rfl) h63.out hby.out (by simp; omega) ?_; intro v' w4 hown' hgrow hnil))
              refine ⟨⟨p + (4 + m), done ++ [l], int_eq (by omega), by omega, HS3.out, OS.push HR3.out HSG3.out h13.out HU3.out (((Keeps.of_below ((Below.refl _ _).alloc (Nat.le_refl _) _)).trans (Keeps.of_grownE hgrow))) hown', (HK3.out.alloc hs3 _).grown hgrow (by simp; omega) fun r hr => (World.ownsRow.lt HR3.out r hr).1⟩, by simp [intOf]; omega⟩
          · have hne : ¬ (sm : Int) = (t : Int) := by omega
            have HC := Lib.hid (HE1.out hs)
            go_wp2
            go_ret2
            exact ⟨_, ret_two rfl (int_eq (by rw [HC.out.2])), by rw [HC.out.1]; exact (HO1.out.below HH2.out).below HH3.out, HK3.out⟩
      · have hcut := HSF.out.stop (getFrame_cut (by rw [List.length_drop, HN.out, HAT.out]; omega))
        have HC := Lib.hid hcut
        clear hcut
        go_wp2
        go_ret2
        exact ⟨_, ret_two rfl (int_eq (by rw [HC.out.2])), by rw [HC.out.1]; exact HO1.out, HK1.out⟩
    · have hend := HSF.out.stop (getFrame_short (by rw [List.length_drop, HN.out]; omega))
      have HC := Lib.hid hend
      clear hend
      go_wp2
      go_ret2
      exact ⟨_, ret_two rfl (int_eq (by rw [HC.out.2])), by rw [HC.out.1]; exact HO.out, HK.out⟩
end Go.Proofs.YtfibgpikjfopgaaGreat
/- Fj -/
set_option linter.unusedVariables false
namespace Go.Proofs.YtfibgpikjfopgaaGreat
open Go.RowKit

/-- A slice that has a place, or nil. -/
def Real (v : Value) : Prop := v = .slice none 0 0 ∨ ∃ ad m c, v = .slice (some ad) m c
theorem OB.real {w : World} {B : Nat} {v : Value} {L : List Nat} (h : OB w B v L) : Real v := by
  rcases h.own.2 with ⟨h0, -⟩ | ⟨g, cap, cur, rfl, -⟩
  · exact .inl h0
  · exact .inr ⟨_, _, _, rfl⟩
def headOf (v : Value) (p : Nat) : Value := match v with
  | .slice none _ _ => .slice none 0 0
  | .slice (some ad) _ c => .slice (some ad) p c
  | v => v
theorem Real.head {v : Value} (h : Real v) (p : Nat) : Real (headOf v p) := by
  rcases h with rfl | ⟨ad, m, c, rfl⟩
  · exact .inl rfl
  · exact .inr ⟨_, _, _, rfl⟩
theorem Bt.slice_len {w : World} {B : Nat} {A : Option Addr} {m c : Nat} {L : List Nat} (h : Bt w B (.slice A m c) L) : L.length = m ∧ m ≤ c := by
  obtain ⟨⟨A', c1, hv, hcap, hc⟩, hl, hs⟩ := h
  injection hv with h1 h2 h3
  subst h2 h3
  exact ⟨rfl, hcap⟩
theorem Bt.head {w : World} {B p : Nat} {v : Value} {L : List Nat} (h : Bt w B v L) (hr : Real v) (hp : p ≤ L.length) : Bt w B (headOf v p) (L.take p) := by
  rcases hr with rfl | ⟨ad, m, c, rfl⟩
  · have e := h.slice_len.1
    have : L = [] := List.eq_nil_of_length_eq_zero e
    subst this
    simpa [headOf] using Bt.nil w B none 0
  · exact h.take hp (by have := h.slice_len; omega)

theorem wpList_append_bt {w : World} {ops : Array Oper} {rest : List Oper} {o : Oper} {a : Act} {Q : Exit → Act → World → Prop} (hgd : o.guard = none) (s x : Operand)
    (ho : o.op = .call { callee := .builtin .append, args := #[s, x], argTypes := #[22, 22] }) (base : Nat) (v : Value) (M : List Nat) (hs : a.eval s = v) (hown : OB w base v M)
    (u : Value) (L : List Nat) (hx : a.eval x = u) {B : Nat} (hb : Bt w B u L) (hr : Real u) (hlen : M.length + L.length ≤ 8388608) (hbase : base ≤ w.heap.size)
    (h : ∀ v' w', OB w' base v' (M ++ L) → w.grownBy w' v.ownBlock → wpList Tryz.prog ops Q rest (a.put o.dst v') w') : wpList Tryz.prog ops Q (o :: rest) a w := by
  obtain ⟨i0, hi, hz0, hz1, hz2⟩ := info_parts info_u8
  rcases hr with rfl | ⟨ad, m, c, rfl⟩
  · have hL : L = [] := List.eq_nil_of_length_eq_zero hb.slice_len.1
    subst hL
    refine wpList_append_own_none hgd s x 22 ho base 5 i0 1 Tryz.underlying22 hi v M.length _ hs hown.own hx ?_
    have := h v w (by rw [List.append_nil]; exact hown) ⟨rfl, rfl, rfl, Nat.le_refl _, fun _ _ _ => rfl⟩
    exact this
  · obtain ⟨hm, hmc⟩ := hb.slice_len
    refine wpList_append_own w hgd s x 22 ho base 5 i0 (.int .u8 0) 1 1 Tryz.underlying22 hi hz0 hz1 hz2 rfl (by decide) v M.length _ hs hown.own ad m c (L.map byteV) hx (by rw [List.length_map, hm, Nat.mul_one]) ?_ one_bytes (by unfold maxLen; omega) (by omega) hbase ?_
    · intro j y hy
      have hj : j < L.length := by
        have := (List.getElem?_eq_some_iff.1 hy).1
        simpa using this
      rw [byteV_get hj] at hy
      cases hy
      obtain ⟨b, off, e, hb1, q⟩ := hb.cell hj
      cases e
      have ha : (⟨b, off, none⟩ : Addr).add j = ⟨b, off + j, none⟩ := by unfold Addr.add; split <;> simp_all
      rw [ha]
      exact q
    · intro v' w' h1 h2 _
      exact h v' w' ⟨by rw [List.length_append, List.map_append, hm]; exact h1, hown.small.append hb.small⟩ h2
end Go.Proofs.YtfibgpikjfopgaaGreat
/- Da -/
set_option linter.unusedVariables false
namespace Go.Proofs.YtfibgpikjfopgaaGreat
open Go.RowKit

/-- Block g holds just cs, all writable. -/
structure Blk (w : World) (g : Nat) (cs : Array Value) : Prop where
  z : g < w.heap.size
  C : ∀ o, w.cell? ⟨g, o, none⟩ = cs[o]?
  F : ∀ o, w.frozen? ⟨g, o, none⟩ = false
theorem Blk.new (w : World) (cs : Array Value) (t : TypeId) : Blk (w.alloc (.cells cs t)) w.heap.size cs := ⟨by simp, cell_new w cs t, fun o => frozen_of_row _ _ _ _ _ (heap_alloc_new w _)⟩
theorem Blk.keeps {S : Nat → Prop} {w w' : World} {g : Nat} {cs : Array Value} (h : Blk w g cs) (k : Keeps S w w') (hn : ¬ S g) : Blk w' g cs :=
  ⟨Nat.lt_of_lt_of_le h.z k.size, fun o => (k.cell (p := ⟨g, o, none⟩) h.z hn).trans (h.C o), fun o => (k.frozen (p := ⟨g, o, none⟩) h.z hn).trans (h.F o)⟩
theorem Blk.below {w w' : World} {g : Nat} {cs : Array Value} (h : Blk w g cs) (hb : Below w.heap.size w w') : Blk w' g cs := h.keeps (S := fun _ => False) (Keeps.of_below hb) id
theorem Blk.alloc {w : World} {g : Nat} {cs : Array Value} (h : Blk w g cs) (o : Obj) : Blk (w.alloc o) g cs := h.below ((Below.refl _ _).alloc (Nat.le_refl _) _)
theorem Blk.set {w : World} {g : Nat} {cs : Array Value} (h : Blk w g cs) {i : Nat} (hi : i < cs.size) (v : Value) : Blk (w.setCell ⟨g, i, none⟩ v) g (cs.setIfInBounds i v) :=
  ⟨by simpa [World.setCell] using h.z, fun o => by
    by_cases e : o = i
    · subst e
      rw [World.cell?_setCell_same _ _ _ ((h.C o).trans (Array.getElem?_eq_getElem hi))]
      simp [hi]
    · rw [World.cell?_setCell_other _ _ _ _ (fun he => e (by injection he with _ h2 _; exact h2.symm)), h.C o, Array.getElem?_setIfInBounds_ne (fun he => e he.symm)],
   fun o => by rw [World.frozen?_setCell]; exact h.F o⟩

theorem Keeps.far {S : Nat → Prop} {w w' : World} (h : Keeps S w w') {p : Addr} (hp : w.heap.size ≤ p.block) (v : Value) : Keeps S w (w'.setCell p v) :=
  ⟨h.os, h.tape, h.output, by simpa [World.setCell] using h.size, fun b hb hn => (Below.heap_setCell _ _ _ _ (fun e => by omega)).trans (h.block b hb hn)⟩
theorem Keeps.alloc {S : Nat → Prop} {w w' : World} (h : Keeps S w w') (o : Obj) : Keeps S w (w'.alloc o) := h.trans (Keeps.of_below ((Below.refl _ _).alloc (Nat.le_refl _) o))
theorem Cur.far {T : TypeId} {k : IntKind} {w : World} {g : Nat} (h : Cur T k w g) {p : Addr} (hp : g < p.block) (v : Value) : Cur T k (w.setCell p v) g :=
  h.keeps (S := (· = p.block)) ((Keeps.refl (· = p.block) w).set (p := p) rfl v) (fun b hb e => by have e : b = p.block := e; omega)
theorem Cur.alloc {T : TypeId} {k : IntKind} {w : World} {g : Nat} (h : Cur T k w g) (o : Obj) : Cur T k (w.alloc o) g := h.below ((Below.refl _ _).alloc (Nat.le_refl _) o)

/-- Behind a draw of a record, whichever. -/
def DrawnRec (g : Nat) (w : World) (e : Ending) (w' : World) : Prop :=
  ∃ r : RecD, e = .returned (recV r) ∧ Cur 110 .i64 w' g ∧ Keeps (· = g) w w'
def pick3 (a b c : Int) (x : Nat) : Int := if x = 0 then a else if x = 1 then b else c
theorem pick3_get (a b c : Int) (x : Nat) (hx : x < ([.int .i64 a, .int .i64 b, .int .i64 c] : List Value).length) : ([.int .i64 a, .int .i64 b, .int .i64 c] : List Value)[x]'hx = .int .i64 (pick3 a b c x) := by
  have hx' : x < 3 := hx
  rcases (by omega : x = 0 ∨ x = 1 ∨ x = 2) with rfl | rfl | rfl <;> rfl

end Go.Proofs.YtfibgpikjfopgaaGreat
/- Dm -/
set_option linter.unusedVariables false
namespace Go.Proofs.YtfibgpikjfopgaaGreat
open Go.RowKit

def noByte : Value → Bool
  | .int .u8 _ => false
  | _ => true
theorem keepsRow_ (W : World) (g : Nat) (cs : Array Value) : Keeps (· = g) W (W.setRow g cs) := ⟨rfl, rfl, rfl, by simp, fun b hb hn => setRow_other W g b cs hn⟩
theorem Cur.row {T T' : TypeId} {k : IntKind} {w : World} {g B : Nat} {cs : Array Value} (h : Cur T k w g) (hb : w.heap[B]? = some (.cells cs T' (0, 0))) (hs : cs.all noByte = true) (hne : ¬ B = g) (cs' : Array Value) : Cur T k (w.setRow B cs') g := by
  have kk := keepsRow_ w B cs'
  have hlt := h.lt
  obtain ⟨A, n, c, i, hh, hg, i0, i1, hm, hB⟩ := h
  refine ⟨A, n, c, i, hh, (kk.block g hlt (by show ¬ g = B; omega)).trans hg, i0, i1, hm, fun hn => ?_⟩
  obtain ⟨b, off, rfl, hbl, hc⟩ := hB hn
  have hbB : ¬ b = B := by
    rintro rfl
    obtain ⟨z, hz, -⟩ := hc 0 hn
    rw [cell_of_row _ _ _ _ _ _ hb] at hz
    have := Array.all_eq_true.1 hs (off + 0) (Array.getElem?_eq_some_iff.1 hz).1
    rw [(Array.getElem?_eq_some_iff.1 hz).2] at this
    simp [noByte] at this
  exact ⟨b, off, rfl, hbl, fun j hj => by
    obtain ⟨z, hz, hr⟩ := hc j hj
    exact ⟨z, (kk.cell (p := ⟨b, off + j, none⟩) (by show b < w.heap.size; omega) hbB).trans hz, hr⟩⟩
/-- A box of the call's own is written whole. -/
theorem belowRow_ {w W : World} (h : Below w.heap.size w W) {B : Nat} (hB : w.heap.size ≤ B) (cs : Array Value) : Below w.heap.size w (W.setRow B cs) :=
  h.trans ((keepsRow_ W B cs).below (B := w.heap.size) h.size (by rintro b hb rfl; omega))
theorem Blk.row {W : World} {g B : Nat} {cs : Array Value} (h : Blk W g cs) (hne : ¬ g = B) (cs' : Array Value) : Blk (W.setRow B cs') g cs := h.keeps (keepsRow_ W B cs') hne
theorem Keeps.grown {S : Nat → Prop} {w w1 w2 : World} (h : Keeps S w w1) {row : Option Nat} (hg : w1.grownBy w2 row) (hr : ∀ r, row = some r → w.heap.size ≤ r) : Keeps S w w2 :=
  ⟨hg.os.trans h.os, hg.tape.trans h.tape, hg.output.trans h.output, Nat.le_trans h.size hg.size, fun b hb hn => (hg.block b (Nat.lt_of_lt_of_le hb h.size) (fun e => by have := hr b e.symm; omega)).trans (h.block b hb hn)⟩
theorem Cur.grown {T : TypeId} {k : IntKind} {w w' : World} {g : Nat} (h : Cur T k w g) {row : Option Nat} (hg : w.grownBy w' row) (hr : ∀ r, row = some r → g < r) : Cur T k w' g :=
  h.keeps (S := fun b => row = some b) ⟨hg.os, hg.tape, hg.output, hg.size, fun b hb hn => hg.block b hb (fun e => hn e.symm)⟩ (fun b hb e => by have := hr b e; omega)
theorem OR.keep {S : Nat → Prop} {w w' : World} {B : Nat} {v : Value} {l : List RecD} (h : OR w B v l) (hk : Keeps S w w') (hS : ∀ r, B ≤ r → ¬ S r) : OR w' B v l := by
  obtain ⟨hl, ho⟩ := h
  refine ⟨hl, ho.imp id ?_⟩
  rintro ⟨g, cap, cur, hv, hb', hh, rest⟩
  exact ⟨g, cap, cur, hv, hb', (hk.block g (Array.getElem?_eq_some_iff.1 hh).1 (hS g hb')).trans hh, rest⟩
end Go.Proofs.YtfibgpikjfopgaaGreat
/- Ma -/
set_option linter.unusedVariables false
namespace Go.Proofs.YtfibgpikjfopgaaGreat
open Go.RowKit Go.Maps

theorem plainElem_bool_is {H : Type} {P : Program} {e : TypeId} (he : P.underlying e = some .bool) {v : Value} {z : DataW H × List MemPlace} (h : plainElem P e v = some z) : ∃ x, v = .bool x ∧ z = (.lit (.bool x), []) := by
  unfold plainElem at h
  rw [he] at h
  cases v <;> simp at h
  subst h
  exact ⟨_, rfl, rfl⟩

theorem lookup_bool {H : Type} {P : Program} {w : World} {ops : Array Oper} {rest : List Oper} {o : Oper} {a : Act} {Q : Exit → Act → World → Prop}
    (hg : o.guard = none) (m x : Operand) (t : TypeId) (hop : o.op = Op.lookup t m x false)
    (k e : TypeId) (K : Keyed P k) (ht : P.underlying t = some (.map k e)) (he : P.underlying e = some .bool) (hz : (zeroValue e).run P w = .ok (.bool false) w) (b n : Nat) (D : DataW H)
    (hm : a.eval m = .map (some b)) (hown : w.ownsMap P k (plainElem P e) b n D) (key : Value) (kl : Lit) (hx : a.eval x = key) (hkey : keyOf P k key = some kl) (ans : Bool) (hans : D.atKey kl (.lit (.bool false)) = .lit (.bool ans))
    (hK : wpList P ops Q rest (a.put o.dst (.bool ans)) w) :
    wpList P ops Q (o :: rest) a w := by
  refine wpList_plain hg fun K' hK' => ?_
  obtain ⟨v, ps, hrun, hv⟩ := hown.lookup K ht hz (plainElem_bool he false) hkey
  obtain ⟨c, rfl, hc⟩ := plainElem_bool_is he hv
  rw [hans] at hc
  simp only [Prod.mk.injEq, DataW.lit.injEq, Lit.bool.injEq] at hc
  rw [← hc.1] at hrun
  unfold Oper.wp
  simp [execOp, hop, hm, hx, hrun, Result.andThen]
  exact hK' _ _ hK

/-- A map of whole numbers to true: those at which f is, n of them. -/
structure SetD (D : DataW Unit) (f : Int → Bool) (n : Nat) : Prop where
  tidy : Tidy D
  at_ : ∀ i : Int, D.atKey (.int .i64 i) (.lit (.bool false)) = .lit (.bool (f i))
  has_ : ∀ i : Int, Go.Maps.has D (.int .i64 i) = f i
  size_ : Go.Maps.size D = n
theorem SetD.empty : SetD (.map []) (fun _ => false) 0 := ⟨tidy_empty, fun _ => rfl, fun _ => rfl, rfl⟩
theorem SetD.congr {D : DataW Unit} {f g : Int → Bool} {n m : Nat} (h : SetD D f n) (hf : ∀ i, f i = g i) (hn : n = m) : SetD D g m :=
  ⟨h.tidy, fun i => by rw [h.at_, hf], fun i => by rw [h.has_, hf], by rw [h.size_, hn]⟩
theorem SetD.put {D : DataW Unit} {f : Int → Bool} {n : Nat} (h : SetD D f n) (j : Int) (hj : f j = false) : SetD (D.put (.int .i64 j) (.lit (.bool true))) (fun i => f i || decide (i = j)) (n + 1) := by
  have hk : WideAt.IsKeyLit (.int .i64 j) := trivial
  refine ⟨h.tidy.put hk _, fun i => ?_, fun i => ?_, ?_⟩
  · by_cases e : i = j
    · subst e
      rw [atKey_put_same h.tidy.isMap hk]; simp
    · rw [atKey_put_other (fun e2 => e (by cases e2; rfl)), h.at_]; simp [e]
  · by_cases e : i = j
    · subst e
      rw [has_put_same h.tidy.isMap hk]; simp
    · rw [has_put_other (fun e2 => e (by cases e2; rfl)), h.has_]; simp [e]
  · rw [size_put h.tidy, h.has_, hj, h.size_]; rfl
theorem SetD.del {D : DataW Unit} {f : Int → Bool} {n : Nat} (h : SetD D f n) (j : Int) : SetD (D.del (.int .i64 j)) (fun i => f i && !decide (i = j)) (n - if f j then 1 else 0) := by
  refine ⟨h.tidy.del _, fun i => ?_, fun i => ?_, ?_⟩
  · by_cases e : i = j
    · subst e
      rw [atKey_del_same]; simp
    · rw [atKey_del_other (fun e2 => e (by cases e2; rfl)), h.at_]; simp [e]
  · by_cases e : i = j
    · subst e
      rw [has_del_same]; simp
    · rw [has_del_other (fun e2 => e (by cases e2; rfl)), h.has_]; simp [e]
  · have := size_del (k := .int .i64 j) h.tidy
    rw [h.has_, h.size_] at this
    omega
end Go.Proofs.YtfibgpikjfopgaaGreat
/- Xb -/
set_option linter.unusedVariables false
namespace Go.Proofs.YtfibgpikjfopgaaGreat
open Go.RowKit Go.Shelf

end Go.Proofs.YtfibgpikjfopgaaGreat
/- Xc -/
set_option linter.unusedVariables false
namespace Go.Proofs.YtfibgpikjfopgaaGreat
open Go.RowKit

/-- A block of so many cells. -/
def Row1 (w : World) (g cap : Nat) : Prop := ∃ cur, w.heap[g]? = some (.cells cur 2) ∧ cur.size = cap
theorem Row1.set {w : World} {g cap : Nat} (h : Row1 w g cap) (b i : Nat) (v : Value) : Row1 (w.setCell ⟨b, i, none⟩ v) g cap := by
  obtain ⟨cur, hc, hs⟩ := h
  by_cases e : g = b
  · subst e
    exact ⟨_, heap_setCell_same w g i cur _ v hc, by simpa using hs⟩
  · exact ⟨cur, (heap_setCell_other w ⟨b, i, none⟩ g v e).trans hc, hs⟩
theorem Row1.sets {g cap : Nat} (b : Nat) : ∀ (vs : List Value) (o : Nat) {w : World}, Row1 w g cap → Row1 (w.setCells b o vs) g cap
  | [], _, _, h => h
  | v :: vs, o, _, h => Row1.sets b vs (o + 1) (h.set b o v)
theorem grown_sets (g : Nat) : ∀ (vs : List Value) (o : Nat) (w : World), Keeps (· = g) w (w.setCells g o vs)
  | [], _, w => Keeps.refl _ w
  | v :: vs, o, w => ((Keeps.refl (· = g) w).set rfl v).trans (grown_sets g vs (o + 1) _)
theorem Keeps.below' {w w1 w2 : World} (h : Keeps (· = w.heap.size) w1 w2) (hb : Below w.heap.size w w1) : Below w.heap.size w w2 := hb.trans (h.below hb.size fun b hlt e => by omega)
theorem Row1.own {w : World} {g cap n B : Nat} {xs : List Value} (h : Row1 w g cap) (hx : ∀ j v, xs[j]? = some v → w.cell? ⟨g, j, none⟩ = some v) (hl : xs.length = n) (hB : B ≤ g) (hn : n ≤ cap) (hm : cap ≤ maxLen) :
    w.ownsRow B 2 1 (.slice (some ⟨g, 0, none⟩) n cap) n xs := by
  obtain ⟨cur, hc, hs⟩ := h
  refine ⟨by omega, .inr ⟨g, cap, cur, rfl, hB, hc, hn, hm, by omega, ?_⟩⟩
  apply List.ext_getElem?
  intro j
  by_cases hj : j < n
  · have h1 := hx j _ (List.getElem?_eq_getElem (show j < xs.length by omega))
    rw [cell_of_row _ _ _ _ _ _ hc] at h1
    rw [List.getElem?_take_of_lt (by omega), Array.getElem?_toList, h1, List.getElem?_eq_getElem (by omega)]
  · rw [List.getElem?_eq_none (by rw [List.length_take]; omega), List.getElem?_eq_none (by omega)]
theorem lkCs_put (l : List Int) (i : Nat) (x : Int) : lkCs (l.take i ++ x :: l.drop i) = (lkCs l).take i ++ .int .i64 x :: (lkCs l).drop i := by simp [lkCs, List.map_take, List.map_drop]
/-- What one put into a list answers. -/
def Puts (w : World) (B : Nat) (v : Value) (l : List Int) (e : Ending) (w' : World) : Prop := ∃ v', e = .returned v' ∧ LkR w' B v' l ∧ Keeps (fun g => v.ownBlock = some g) w w'
theorem Keeps.of_grownX {w w' : World} {v : Value} (h : w.grownBy w' v.ownBlock) : Keeps (fun g => v.ownBlock = some g) w w' := ⟨h.os, h.tape, h.output, h.size, fun b hb hn => h.block b hb fun e => hn e.symm⟩
theorem lk_oneC (l : List Int) : ∀ v ∈ lkCs l, v.oneCell' = true := lkCs_one l

theorem put_len {l : List Int} {x : Int} {i n : Nat} (hi : i ≤ n) (hn : l.length = n) : (l.take i ++ x :: l.drop i).length = n + 1 := by
  simp
  omega
theorem put_cells {W : World} {g i : Nat} {P D : List Value} {y : Value} (hi : P.length = i) (hP : ∀ j u, P[j]? = some u → W.cell? ⟨g, j, none⟩ = some u) (hy : W.cell? ⟨g, i, none⟩ = some y)
    (hD : ∀ j u, D[j]? = some u → W.cell? ⟨g, i + 1 + j, none⟩ = some u) : ∀ j u, (P ++ y :: D)[j]? = some u → W.cell? ⟨g, j, none⟩ = some u := by
  intro j u hj
  by_cases h1 : j < i
  · exact hP j u (by rwa [List.getElem?_append_left (by omega)] at hj)
  · rw [List.getElem?_append_right (by omega), hi] at hj
    by_cases h2 : j = i
    · subst h2
      rw [Nat.sub_self] at hj
      exact hy.trans hj
    · obtain ⟨k, rfl⟩ : ∃ k, j = i + 1 + k := ⟨j - (i + 1), by omega⟩
      rw [show i + 1 + k - i = k + 1 by omega] at hj
      exact hD k u hj

section
variable (l : List Int) (x : Int) (w : World) (B vb : Nat)

end
end Go.Proofs.YtfibgpikjfopgaaGreat
/- Xd -/
set_option linter.unusedVariables false
namespace Go.Proofs.YtfibgpikjfopgaaGreat
open Go.RowKit Go.Shelf Go.Sort

/-- How many lie ahead of it. -/
def placeN (l : List Int) (x : Int) : Nat := l.countP (· < x)
theorem place_le (l : List Int) (x : Int) : placeN l x ≤ l.length := List.countP_le_length
theorem place_all {l : List Int} {x : Int} (h : ∀ y ∈ l, x < y) : placeN l x = 0 := by
  unfold placeN
  rw [List.countP_eq_zero]
  intro y hy
  have := h y hy
  simp
  omega
theorem with_place {l : List Int} (x : Int) (h : l.Pairwise (· < ·)) : withN x l = if l.contains x then l else l.take (placeN l x) ++ x :: l.drop (placeN l x) := by
  induction l with
  | nil => rfl
  | cons y l ih =>
    obtain ⟨h1, h2⟩ := List.pairwise_cons.1 h
    unfold withN
    by_cases e1 : x < y
    · have hp : placeN (y :: l) x = 0 := place_all fun z hz => by
        rcases List.mem_cons.1 hz with rfl | hz
        · exact e1
        · have := h1 z hz; omega
      have hc : (y :: l).contains x = false := by
        rw [List.contains_eq_mem, decide_eq_false_iff_not]
        intro hm
        rcases List.mem_cons.1 hm with rfl | hm
        · omega
        · have := h1 x hm; omega
      rw [if_pos e1, hc, hp]
      rfl
    · rw [if_neg e1]
      by_cases e2 : x = y
      · subst e2
        simp
      · have hy : y < x := by omega
        have hp : placeN (y :: l) x = placeN l x + 1 := by simp [placeN, hy]
        have hc : (y :: l).contains x = l.contains x := by simp [e2]
        rw [if_neg e2, ih h2, hc, hp]
        split <;> simp
theorem without_place {l : List Int} (x : Int) (h : l.Pairwise (· < ·)) : withoutN l x = if l.contains x then l.take (placeN l x) ++ l.drop (placeN l x + 1) else l := by
  induction l with
  | nil => rfl
  | cons y l ih =>
    obtain ⟨h1, h2⟩ := List.pairwise_cons.1 h
    by_cases e2 : y = x
    · subst e2
      have hp : placeN (y :: l) y = 0 := by
        have : placeN l y = 0 := place_all h1
        simpa [placeN] using this
      have hf : withoutN (y :: l) y = l := by
        have : ∀ z ∈ l, (z != y) = true := fun z hz => by have := h1 z hz; simp; omega
        simp [withoutN]
        exact fun z hz => by have := h1 z hz; omega
      rw [hf, hp]
      simp
    · have hc : (y :: l).contains x = l.contains x := by
        have : ¬ x = y := fun e => e2 e.symm
        simp [this]
      have hw : withoutN (y :: l) x = y :: withoutN l x := by simp [withoutN, e2]
      rw [hw, hc, ih h2]
      by_cases hm : l.contains x = true
      · have hx : y < x := h1 x (by simpa using hm)
        have hp : placeN (y :: l) x = placeN l x + 1 := by simp [placeN, hx]
        rw [if_pos hm, if_pos hm, hp]
        simp
      · rw [if_neg hm, if_neg hm]
theorem place_lt {l : List Int} {x : Int} (hc : l.contains x = true) (h : l.Pairwise (· < ·)) : placeN l x < l.length := by
  induction l with
  | nil => simp at hc
  | cons y l ih =>
    obtain ⟨h1, h2⟩ := List.pairwise_cons.1 h
    by_cases e : x = y
    · subst e
      have : placeN l x = 0 := place_all h1
      have hp : placeN (x :: l) x = 0 := by simpa [placeN] using this
      rw [hp]
      simp
    · have hm : l.contains x = true := by simpa [e] using hc
      have := ih hm h2
      have hp : placeN (y :: l) x ≤ placeN l x + 1 := by unfold placeN; rw [List.countP_cons]; split <;> omega
      simp only [List.length_cons]
      omega

theorem row_cut {w : World} {B e g n m c : Nat} {xs : List Value} (h : w.ownsRow B e 1 (.slice (some ⟨g, 0, none⟩) n c) n xs) (hm : m ≤ n) : w.ownsRow B e 1 (.slice (some ⟨g, 0, none⟩) m c) m (xs.take m) := by
  obtain ⟨hl, ⟨h0, -⟩ | ⟨g', cap, cur, hv, hb, hh, hnc, hcm, hsz, ht⟩⟩ := h
  · cases h0
  · cases hv
    refine ⟨by rw [List.length_take]; omega, .inr ⟨g, c, cur, rfl, hb, hh, by omega, hcm, hsz, ?_⟩⟩
    rw [← ht, List.take_take]
    congr 1
    omega

end Go.Proofs.YtfibgpikjfopgaaGreat
