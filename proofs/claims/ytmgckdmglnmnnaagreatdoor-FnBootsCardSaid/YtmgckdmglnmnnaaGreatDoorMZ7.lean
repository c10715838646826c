/-
  NextBand: the program's and the model's, each answers the same.
-/
import Derived.Test.YtmgckdmglnmnnaaGreatDoorMZ6
/- Se -/
set_option linter.unusedVariables false
namespace Go.Proofs.YtmgckdmglnmnnaaGreatDoor
open Go.RowKit Go.Sort

/-- Block g, of n whole numbers, is being filled: the first k are as f tells. -/
structure Filling (wr : World) (g n k : Nat) (f : Nat → Int) : Prop where
  it : ∃ cur, wr.heap[g]? = some (.cells cur 2 (0, 0)) ∧ cur.size = n ∧ ∀ j, j < k → cur[j]? = some (.int .i64 (f j))
theorem Filling.lt {wr : World} {g n k : Nat} {f : Nat → Int} (h : Filling wr g n k f) : g < wr.heap.size := by
  obtain ⟨cur, hh, _⟩ := h
  exact (Array.getElem?_eq_some_iff.1 hh).1
theorem Filling.below {wr w' : World} {g n k : Nat} {f : Nat → Int} (h : Filling wr g n k f) (hb : Below wr.heap.size wr w') : Filling w' g n k f := by
  have hl := h.lt
  obtain ⟨cur, hh, r⟩ := h
  exact ⟨cur, (hb.block g hl).trans hh, r⟩
theorem Filling.at_ {wr : World} {g n k i : Nat} {f : Nat → Int} (h : Filling wr g n k f) (hi : i < n) : ∃ v, wr.cell? ⟨g, i, none⟩ = some v ∧ wr.frozen? ⟨g, i, none⟩ = false := by
  obtain ⟨cur, hh, hs, _⟩ := h
  exact ⟨cur[i]'(by omega), (cell_of_row _ _ _ _ _ _ hh).trans (Array.getElem?_eq_getElem (by omega)), frozen_of_row _ _ _ _ _ hh⟩
theorem Filling.set {wr : World} {g n k : Nat} {f : Nat → Int} (h : Filling wr g n k f) (hk : k < n) : Filling (wr.setCell ⟨g, k, none⟩ (.int .i64 (f k))) g n (k + 1) f := by
  obtain ⟨cur, hh, hs, hc⟩ := h
  refine ⟨cur.setIfInBounds k (.int .i64 (f k)), ?_, by simp [hs], fun j hj => ?_⟩
  · rw [setCell_eq]
    simp [mapBlock, Array.getElem?_modify, hh, onCells]
  · by_cases e : j = k
    · subst e
      simp [hs, hk]
    · rw [Array.getElem?_setIfInBounds_ne (fun he => e he.symm)]
      exact hc j (by omega)
theorem made_emptyI (w : World) {B : Nat} (hB : B ≤ w.heap.size) : (w.alloc (.cells #[] 2)).ownsRow B 2 1 (.slice (some ⟨w.heap.size, 0, none⟩) 0 0) 0 [] := by
  have := World.ownsRow_made (base := B) (e := 2) (size := 1) w #[] 0 hB (Nat.zero_le _) rfl
  simpa using this
set_option maxRecDepth 100000 in
set_option maxHeartbeats 2000000 in
theorem specBands_any (v : Value) (d : PlanD) (w : World) (h : IsPlan w w.heap.size v d) (hn : d.n0 ≤ 1048576) :
    Calls Tryz.prog 132 #[v] w (Listed w (bandsL d)) := by
  have P := Lib.hid h
  have HN := Lib.hid hn
  obtain ⟨⟨A0, A1, A2, A3, c0, c1, c2, c3, rfl, s0, s1, s2, s3⟩, b0, b1, b2, b3⟩ := h
  clear s0 s1 s2 s3 b0 b1 b2 b3 hn
  obtain ⟨i0, hi, hz0, hz1, hz2⟩ := info_parts info_i64
  have HI := Lib.hid hi
  have HZ0 := Lib.hid hz0
  have HZ1 := Lib.hid hz1
  have HZ2 := Lib.hid hz2
  clear hi hz0 hz1 hz2
  go_enter Tryz.func132, Tryz.ntmps132
  go_wp2
  have X1 := (Own.box w (planC A0 A1 A2 A3 d.n0 c0 d.n1 c1 d.n2 c2 d.n3 c3 d.l d.p d.t) 29).alloc (.cells #[] 2)
  have O1 := made_emptyI (w.alloc (.cells (planC A0 A1 A2 A3 d.n0 c0 d.n1 c1 d.n2 c2 d.n3 c3 d.l d.p d.t) 29)) (B := w.heap.size + 1) (by simp)
  rw [heap_size_alloc_] at O1
  go_loopw [3, 4] (fun v i wr => ∃ k : Nat, k ≤ 6 ∧ i = .int .i64 k ∧ wr.ownsRow (w.heap.size + 1) 2 1 v (picks k (hasB d)).length ((picks k (hasB d)).map (Value.int .i64)) ∧
    Own w wr w.heap.size (planC A0 A1 A2 A3 d.n0 c0 d.n1 c1 d.n2 c2 d.n3 c3 d.l d.p d.t)) (fun _ i _ => 6 - (intOf i).toNat)
  case atStart => exact ⟨0, Nat.zero_le _, rfl, O1, X1⟩
  case round =>
    clear O1 X1
    obtain ⟨k, hk, rfl, O, X⟩ := hrel
    have HO := Lib.hid O
    clear O
    have hC := X.C
    have hz := X.z
    by_cases hlt : k < 6
    · have hle := picks_le k (hasB d)
      have h63 : (picks k (hasB d)).length + 1 ≤ maxLen := by unfold maxLen; omega
      have hby : ((picks k (hasB d)).length + 1) * 8 ≤ 140737488355328 := by omega
      have H63 := Lib.hid h63
      have HBY := Lib.hid hby
      clear h63 hby hle
      have hp := Lib.hid (specPods_any _ d k _ ((P.out.below X.K (Nat.le_refl _)).more X.K.size) HN.out)
      have hl0 := podsL_le d k
      have hl1 := HN.out
      have hl : (podsL d k).length ≤ 1048576 := by omega
      clear hl0 hl1
      cases hv : hasB d k
      · have HV := Lib.hid (picks_no hv)
        simp only [hasB, decide_eq_false_iff_not] at hv
        go_wp2_with (go_at_call 127; refine hp.out.mono ?_; rintro e w2 ⟨v', rfl, O2, hb2⟩; obtain ⟨A', c', g', rfl, -⟩ := open_list O2; have X2 := X.step hb2)
        refine ⟨⟨k + 1, by omega, by go_num, by rw [HV.out]; exact ownsRow_below HO.out hb2, X2⟩, by simp [intOf]; omega⟩
      · have HV := Lib.hid (picks_yes hv)
        simp only [hasB, decide_eq_true_eq] at hv
        go_wp2_with (first
          | (go_at_call 127; refine hp.out.mono ?_; rintro e w2 ⟨v', rfl, O2, hb2⟩; obtain ⟨A', c', g', rfl, -⟩ := open_list O2; have X2 := X.step hb2; clear O2)
          | (at_builtin; refine wpList_append_own _ rfl _ _ 25 rfl (w.heap.size + 1) 2 i0 (.int .i64 0) 1 8 Tryz.underlying25 HI.out HZ0.out HZ1.out HZ2.out rfl (by decide) _ _ _ rfl ((ownsRow_below HO.out hb2).alloc _) ⟨w2.heap.size, 0, none⟩ 1 1 [.int .i64 k] rfl rfl (cell_one_new _ _ _) (fun x hx => by simp at hx; subst hx; rfl) H63.out HBY.out (by have := X2.z; simp; omega) ?_; intro v' w4 hown' hgrow hnil))
        have X3 := X2.alloc (.cells #[.int .i64 k] 2)
        have OB := (ownsRow_below HO.out hb2)
        refine ⟨⟨k + 1, by omega, by go_num, ?_, ?_⟩, by simp [intOf]; omega⟩
        · rw [HV.out]
          simpa using hown'
        · exact X3.grown hgrow fun g hg => by have := (OB.lt g hg).1; omega
    · obtain rfl : k = 6 := by omega
      go_wp2
      go_ret
      exact ⟨_, rfl, ownsRow_base HO.out (Nat.le_succ _), X.K⟩
end Go.Proofs.YtmgckdmglnmnnaaGreatDoor
/- Sf -/
set_option linter.unusedVariables false
namespace Go.Proofs.YtmgckdmglnmnnaaGreatDoor
open Go.RowKit

theorem step_le {L : List Int} {b : Int} {k : Nat} (h : ∀ j, j < k → L.getD j 0 ≤ b) (hk : L.getD k 0 ≤ b) : ∀ j, j < k + 1 → L.getD j 0 ≤ b := fun j hj => by
  by_cases e : j = k
  · rw [e]; exact hk
  · exact h j (by omega)
theorem firstOver_hit {L : List Int} {b : Int} {k : Nat} (hk : k < L.length) (h : ∀ j, j < k → L.getD j 0 ≤ b) (hb : b < L.getD k 0) : firstOver L b = L.getD k 0 := by
  rw [getD_at hk] at hb ⊢
  exact firstOver_at hk (fun j hj => by have := h j hj; rwa [getD_at (by omega)] at this) hb
theorem firstOver_miss {L : List Int} {b : Int} (h : ∀ j, j < L.length → L.getD j 0 ≤ b) : firstOver L b = -1 := by
  refine firstOver_none fun x hx => ?_
  obtain ⟨j, hj, rfl⟩ := List.getElem_of_mem hx
  have := h j hj
  rwa [getD_at hj] at this

set_option maxRecDepth 100000 in
set_option maxHeartbeats 2000000 in
theorem specNext_any (v : Value) (d : PlanD) (b : Int) (w : World) (h : IsPlan w w.heap.size v d) (hn : d.n0 ≤ 1048576) :
    Calls Tryz.prog 123 #[v, .int .i64 b] w fun e w' => e = .returned (.int .i64 (nextL d b)) ∧ Below w.heap.size w w' := by
  have P := Lib.hid h
  have HN := Lib.hid hn
  obtain ⟨⟨A0, A1, A2, A3, c0, c1, c2, c3, rfl, s0, s1, s2, s3⟩, b0, b1, b2, b3⟩ := h
  clear s0 s1 s2 s3 b0 b1 b2 b3 hn
  go_enter Tryz.func123, Tryz.ntmps123
  go_wp2_with fail
  have X1 := Own.box w (planC A0 A1 A2 A3 d.n0 c0 d.n1 c1 d.n2 c2 d.n3 c3 d.l d.p d.t) 29
  refine (specBands_any _ d _ ((P.out.below X1.K (Nat.le_refl _)).more X1.K.size) HN.out).mono ?_
  rintro e w2 ⟨v', rfl, O2, hb⟩
  have K2 := Lib.hid (X1.step hb).K
  obtain ⟨A, c, g, rfl, hA, hg, hgl, R⟩ := open_list O2
  have HA := Lib.hid hA
  have hle := bandsL_le d
  have HF := Lib.hid (show ∀ x, firstOver (bandsL d) x = nextL d x from fun _ => rfl)
  clear X1 hb O2 hA hg hgl
  generalize bandsL d = L at *
  have HR := Lib.hid R
  clear R
  go_wp2
  go_loopw [6] (fun i wr => ∃ k : Nat, k ≤ L.length ∧ i = .int .i64 k ∧ wr = w2 ∧ ∀ j, j < k → L.getD j 0 ≤ b) (fun i _ => L.length - (intOf i).toNat)
  case atStart => exact ⟨0, Nat.zero_le _, rfl, rfl, fun j hj => absurd hj (by omega)⟩
  case round =>
    obtain ⟨k, hk, rfl, rfl, hall⟩ := hrel
    have HL := Lib.hid hall
    clear hall
    by_cases hlt : k < L.length
    · obtain rfl := HA.out (by omega)
      obtain ⟨t0, f0⟩ : wr.cell? ⟨g, k, none⟩ = some (.int .i64 (L.getD k 0)) ∧ wr.frozen? ⟨g, k, none⟩ = false := HR.out k hlt
      generalize hx : L.getD k 0 = x at t0
      have HX := Lib.hid hx
      clear hx
      by_cases hb : b < x
      · go_wp2
        go_ret
        exact ⟨ret_int (by rw [← HF.out, firstOver_hit hlt HL.out (by rw [HX.out]; exact hb), HX.out]), K2.out⟩
      · go_wp2
        exact ⟨⟨k + 1, by omega, by go_num, by trivial, step_le HL.out (by rw [HX.out]; omega)⟩, by simp [intOf]; omega⟩
    · obtain rfl : k = L.length := by omega
      go_wp2
      go_ret
      exact ⟨ret_int (by rw [← HF.out, firstOver_miss HL.out]), K2.out⟩
end Go.Proofs.YtmgckdmglnmnnaaGreatDoor
