/-
  Chapter 7 as data, at every number (what is spent may have wrapped around); the model's and the program's.
-/
import Derived.Test.YtfilbodigooenaaGreatDoorMZ6
import Derived.Test.YtfilbodigooenaaGreatDoorMZ0
import Derived.BigQuiet
import Derived.Deep.QuietTactic
import Derived.Deep.RegionHeld3
import Derived.Sort.Row
import Derived.RegionTactic
import Derived.BigRegion
import Derived.Lib.SliceRun
import Derived.Test.YtfilbodigooenaaGreatDoorMZ1
import Derived.Test.YtfilbodigooenaaGreatDoorMZ2
import Derived.Lib.Hide
/- Bb -/
set_option linter.unusedVariables false
namespace Go.Proofs.YtfilbodigooenaaGreatDoor
open Go.RowKit

end Go.Proofs.YtfilbodigooenaaGreatDoor
/- Bh -/
set_option linter.unusedVariables false
namespace Go.Proofs.YtfilbodigooenaaGreatDoor
open Go.RowKit

/-- Block g holds bytes, x 0, x 1, .. x (N-1), all writable. -/
def RowU (w : World) (g N : Nat) (x : Nat → Int) : Prop := ∀ j, j < N → w.cell? ⟨g, j, none⟩ = some (.int .u8 (x j)) ∧ w.frozen? ⟨g, j, none⟩ = false
theorem RowU.set {w : World} {g N : Nat} {x : Nat → Int} (h : RowU w g N x) {i : Nat} (v : Int) : RowU (w.setCell ⟨g, i, none⟩ (.int .u8 v)) g N (fun j => if j = i then v else x j) := fun j hj => by
  refine ⟨?_, by rw [World.frozen?_setCell]; exact (h j hj).2⟩
  by_cases e : j = i
  · subst e
    show _ = some (Value.int _ (if j = j then v else x j))
    rw [if_pos rfl]
    exact World.cell?_setCell_same _ _ _ (h j hj).1
  · show _ = some (Value.int _ (if j = i then v else x j))
    rw [if_neg e, World.cell?_setCell_other _ _ _ _ (fun he => e (by injection he with _ h2 _; exact h2.symm))]
    exact (h j hj).1
theorem RowU.below {w w' : World} {B g N : Nat} {x : Nat → Int} (h : RowU w g N x) (hb : Below B w w') (hg : g < B) : RowU w' g N x := fun j hj =>
  ⟨(hb.cell (p := ⟨g, j, none⟩) hg).trans (h j hj).1, (hb.frozen (p := ⟨g, j, none⟩) hg).trans (h j hj).2⟩
theorem RowU.congr {w : World} {g N : Nat} {x y : Nat → Int} (h : RowU w g N x) (e : ∀ j, j < N → x j = y j) : RowU w g N y := fun j hj => by rw [← e j hj]; exact h j hj
theorem RowU.go {w w' : World} {g n : Nat} {x : Nat → Int} (R : RowU w g n x) (hg : 0 < n → g < w.heap.size) (hb : Below w.heap.size w w') : RowU w' g n x := fun j hj => R.below hb (hg (by omega)) j hj

theorem Made.rt {w w' : World} {n : Nat} {x : Nat → Int} {e : Ending} (h : Made w (n * 3) n x e w') (hn : n ≤ maxLen) : ∃ g, e = .returned (.slice (some ⟨g, 0, none⟩) n n) ∧ w.heap.size ≤ g ∧ g < w'.heap.size ∧ RowF w' g (n * 3) x ∧
    Rt w' w'.heap.size (.slice (some ⟨g, 0, none⟩) n n) (recsFrom n x) ∧ Below w.heap.size w w' := by
  obtain ⟨g, he, hg, hlt, R, K⟩ := h
  refine ⟨g, he, hg, hlt, R, ⟨⟨some ⟨g, 0, none⟩, n, by rw [recsFrom_length], ?_⟩, by rw [recsFrom_length]; exact hn⟩, K⟩
  rw [recsFrom_length]
  exact fun _ => ⟨g, 0, rfl, hlt, fun j hj => by rw [Nat.zero_add, cellR_from hj]; exact (R j hj).1⟩

end Go.Proofs.YtfilbodigooenaaGreatDoor
/- Sa -/
set_option linter.unusedVariables false
namespace Go.Proofs.YtfilbodigooenaaGreatDoor
open Go.RowKit
/-- Block g holds n whole numbers, as x tells, and no more. -/
structure Cells (w : World) (g n : Nat) (x : Nat → Int) : Prop where
  it : ∃ cur, w.heap[g]? = some (.cells cur 2 (0, 0)) ∧ cur.size = n ∧ ∀ j, j < n → cur[j]? = some (.int .i64 (x j))
theorem Cells.lt {w : World} {g n : Nat} {x : Nat → Int} (h : Cells w g n x) : g < w.heap.size := by
  obtain ⟨cur, hh, _⟩ := h
  exact (Array.getElem?_eq_some_iff.1 hh).1
theorem Cells.at_ {w : World} {g n : Nat} {x : Nat → Int} (h : Cells w g n x) {j : Nat} (hj : j < n) : w.cell? ⟨g, j, none⟩ = some (.int .i64 (x j)) ∧ w.frozen? ⟨g, j, none⟩ = false := by
  obtain ⟨cur, hh, _, hc⟩ := h
  exact ⟨(cell_of_row _ _ _ _ _ _ hh).trans (hc j hj), frozen_of_row _ _ _ _ _ hh⟩
theorem Cells.set {w : World} {g n : Nat} {x : Nat → Int} (h : Cells w g n x) (i : Nat) (v : Int) : Cells (w.setCell ⟨g, i, none⟩ (.int .i64 v)) g n (fun j => if j = i then v else x j) := by
  obtain ⟨cur, hh, hs, hc⟩ := h
  refine ⟨cur.setIfInBounds i (.int .i64 v), ?_, by simp [hs], fun j hj => ?_⟩
  · rw [Go.Sort.setCell_eq]
    simp [Go.Sort.mapBlock, Array.getElem?_modify, hh, Go.Sort.onCells]
  · by_cases e : j = i
    · subst e
      simp [hs, hj]
    · rw [Array.getElem?_setIfInBounds_ne (fun he => e he.symm), hc j hj, if_neg e]
theorem Cells.congr {w : World} {g n : Nat} {x y : Nat → Int} (h : Cells w g n x) (e : ∀ j, j < n → x j = y j) : Cells w g n y := by
  obtain ⟨cur, hh, hs, hc⟩ := h
  exact ⟨cur, hh, hs, fun j hj => by rw [hc j hj, e j hj]⟩
theorem Cells.drewN {w : World} {g n : Nat} {x : Nat → Int} (h : Cells w g n x) (q : Nat) : Cells (w.drewN q) g n x := ⟨h.it⟩
/-- The same numbers, in whichever order and however often. -/
structure Same (n : Nat) (x y : Nat → Int) : Prop where
  there : ∀ j, j < n → ∃ k, k < n ∧ y k = x j
  back : ∀ k, k < n → ∃ j, j < n ∧ y k = x j
theorem Same.refl (n : Nat) (x : Nat → Int) : Same n x x := ⟨fun j hj => ⟨j, hj, rfl⟩, fun j hj => ⟨j, hj, rfl⟩⟩
/-- y with what lies at two places put each in the other's. -/
def swapped (y : Nat → Int) (a b : Nat) : Nat → Int := fun j => if j = b then y a else if j = a then y b else y j
theorem Same.swap {n : Nat} {x y : Nat → Int} (h : Same n x y) {a b : Nat} (ha : a < n) (hb : b < n) : Same n x (swapped y a b) := by
  refine ⟨fun j hj => ?_, fun k hk => ?_⟩
  · obtain ⟨k, hk, e⟩ := h.there j hj
    by_cases e1 : k = a
    · exact ⟨b, hb, by rw [← e, e1]; exact if_pos rfl⟩
    · by_cases e2 : k = b
      · refine ⟨a, ha, ?_⟩
        rw [← e, e2]
        unfold swapped
        by_cases e3 : a = b
        · rw [if_pos e3, e3]
        · rw [if_neg e3, if_pos rfl]
      · exact ⟨k, hk, by rw [← e]; unfold swapped; rw [if_neg e2, if_neg e1]⟩
  · unfold swapped
    split
    · exact h.back a ha
    · split
      · exact h.back b hb
      · exact h.back k hk
/-- Up to m all rise (or stay), but for what lies at place j, which may be too small for its place. -/
def RiseBut (y : Nat → Int) (m j : Nat) : Prop := ∀ a b, a < b → b < m → b ≠ j → y a ≤ y b
def Rises (y : Nat → Int) (m : Nat) : Prop := ∀ a b, a < b → b < m → y a ≤ y b
theorem Rises.but {y : Nat → Int} {m : Nat} (h : Rises y m) : RiseBut y (m + 1) m := fun a b h1 h2 h3 => h a b h1 (by omega)
theorem RiseBut.stop {y : Nat → Int} {m j : Nat} (h : RiseBut y m j) (hs : j = 0 ∨ y (j - 1) ≤ y j) : Rises y m := fun a b h1 h2 => by
  by_cases e : b = j
  · subst e
    have h3 := hs.resolve_left (by omega)
    by_cases e2 : a = b - 1
    · subst e2; exact h3
    · exact Int.le_trans (h a (b - 1) (by omega) (by omega) (by omega)) h3
  · exact h a b h1 h2 e
theorem RiseBut.swap {y : Nat → Int} {m j : Nat} (h : RiseBut y m j) (hj : 0 < j) (hl : y j < y (j - 1)) : RiseBut (swapped y j (j - 1)) m (j - 1) := fun a b h1 h2 h3 => by
  unfold swapped
  rw [if_neg h3]
  by_cases e1 : b = j
  · rw [if_pos e1]
    by_cases e2 : a = j - 1
    · rw [if_pos e2]; omega
    · rw [if_neg e2, if_neg (by omega)]
      exact h a (j - 1) (by omega) (by omega) (by omega)
  · rw [if_neg e1]
    by_cases e2 : a = j - 1
    · rw [if_pos e2]
      by_cases e3 : j < b
      · exact h j b e3 h2 e1
      · omega
    · rw [if_neg e2]
      by_cases e3 : a = j
      · rw [if_pos e3]
        exact h (j - 1) b (by omega) h2 e1
      · rw [if_neg e3]
        exact h a b h1 h2 e1

set_option maxHeartbeats 400000 in
theorem isNaN_any (x : Int) (w : World) : Calls Tryz.prog 202 #[.int .i64 x] w fun e w' => e = .returned (.bool false) ∧ w' = w := by
  go_enter Tryz.func202, Tryz.ntmps202
  go_wp2
  go_ret
  exact ⟨ret_bool (by simp), rfl⟩
set_option maxHeartbeats 400000 in
theorem less_any (x y : Int) (w : World) : Calls Tryz.prog 192 #[.int .i64 x, .int .i64 y] w fun e w' => e = .returned (.bool (decide (x < y))) ∧ w' = w := by
  go_enter Tryz.func192, Tryz.ntmps192
  go_wp2_with (go_at_call 202; refine (isNaN_any _ _).mono ?_; rintro e w' ⟨rfl, rfl⟩)
  go_ret
  exact ⟨rfl, rfl⟩

set_option maxRecDepth 100000 in
set_option maxHeartbeats 1000000 in
theorem len64_any (n : Nat) (w : World) (hn : n ≤ 12) : Calls Tryz.prog 196 #[.int .u64 n] w fun e w' => (∃ k : Int, e = .returned (.int .i64 k)) ∧ w' = w := by
  have : n = 0 ∨ n = 1 ∨ n = 2 ∨ n = 3 ∨ n = 4 ∨ n = 5 ∨ n = 6 ∨ n = 7 ∨ n = 8 ∨ n = 9 ∨ n = 10 ∨ n = 11 ∨ n = 12 := by omega
  rcases this with rfl | rfl | rfl | rfl | rfl | rfl | rfl | rfl | rfl | rfl | rfl | rfl | rfl
  all_goals
    go_enter Tryz.func196, Tryz.ntmps196
    go_wp2
    go_ret
    exact ⟨⟨_, rfl⟩, rfl⟩
theorem len_any (n : Nat) (w : World) (hn : n ≤ 12) : Calls Tryz.prog 185 #[.int .u64 n] w fun e w' => (∃ k : Int, e = .returned (.int .i64 k)) ∧ w' = w := by
  go_enter Tryz.func185, Tryz.ntmps185
  go_wp2_with (go_at_call 196; refine (len64_any _ _ hn).mono ?_; rintro e w' ⟨⟨k, rfl⟩, rfl⟩)
  go_ret
  exact ⟨⟨_, rfl⟩, rfl⟩

/-- What a sort leaves: nothing is answered, the same numbers rise, all else is as it was. -/
def Sorted (g n : Nat) (x : Nat → Int) (w : World) (e : Ending) (w' : World) : Prop :=
  e = .returned (.tuple #[]) ∧ ∃ y, Cells w' g n y ∧ Same n x y ∧ Rises y n ∧ Keeps (· = g) w w'

set_option maxRecDepth 100000 in
set_option maxHeartbeats 2000000 in
theorem insertionSort_any (g n : Nat) (x : Nat → Int) (w : World) (hX : Cells w g n x) (hn : n ≤ 12) :
    Calls Tryz.prog 186 #[.slice (some ⟨g, 0, none⟩) n n, .int .i64 0, .int .i64 n] w (Sorted g n x w) := by
  go_enter Tryz.func186, Tryz.ntmps186
  go_wp2
  go_loopw [6] (fun vi wr => ∃ i : Nat, vi = .int .i64 i ∧ 1 ≤ i ∧ i ≤ n + 1 ∧ ∃ y, Cells wr g n y ∧ Same n x y ∧ Rises y (min i n) ∧ Keeps (· = g) w wr) (fun vi _ => n + 1 - (intOf vi).toNat)
  case atStart => exact ⟨1, rfl, Nat.le_refl _, by omega, x, hX, Same.refl _ _, fun a b h1 h2 => by omega, Keeps.refl _ _⟩
  case round =>
    clear hX
    obtain ⟨i, rfl, h1, h2, y, hY, hS, hR, hK⟩ := hrel
    have HY := Lib.hid hY
    have HS := Lib.hid hS
    have HR := Lib.hid hR
    have HK := Lib.hid hK
    clear hY hS hR hK
    by_cases hlt : i < n
    · go_wp2
      go_loopw [7] (fun vj wr2 => ∃ j : Nat, vj = .int .i64 j ∧ j ≤ i ∧ ∃ z, Cells wr2 g n z ∧ Same n x z ∧ RiseBut z (i + 1) j ∧ Keeps (· = g) w wr2) (fun vj _ => (intOf vj).toNat)
      case atStart => exact ⟨i, rfl, Nat.le_refl _, y, HY.out, HS.out, by have := HR.out; rw [Nat.min_eq_left (by omega)] at this; exact this.but, HK.out⟩
      case round =>
        clear HY HS HR HK
        obtain ⟨j, rfl, hj, z, hZ, hS, hR, hK⟩ := hrel
        have HZ := Lib.hid hZ
        have HS := Lib.hid hS
        have HR := Lib.hid hR
        have HK := Lib.hid hK
        have hdone : (j = 0 ∨ z (j - 1) ≤ z j) → ∀ q, ∃ i' : Nat, Value.int .i64 ((i : Int) + 1) = .int .i64 i' ∧ 1 ≤ i' ∧ i' ≤ n + 1 ∧ ∃ y, Cells (wr.drewN q) g n y ∧ Same n x y ∧ Rises y (min i' n) ∧ Keeps (· = g) w (wr.drewN q) := fun hs q =>
          ⟨i + 1, by go_num, by omega, by omega, z, HZ.out.drewN q, HS.out, by rw [Nat.min_eq_left (by omega)]; exact HR.out.stop hs, HK.out.drewN q⟩
        have HD := Lib.hid hdone
        obtain ⟨c1, f1⟩ := hZ.at_ (j := j) (by omega)
        obtain ⟨c0, f0⟩ := hZ.at_ (j := j - 1) (by omega)
        clear hZ hS hR hK hdone
        by_cases hj0 : 0 < j
        · generalize hp : z j = p at c1
          generalize hq : z (j - 1) = r at c0
          have HP := Lib.hid hp
          have HQ := Lib.hid hq
          clear hp hq
          go_wp2_with fail
          go_quiet (first | (go_at_call 192; refine Calls.quiet_of_same (less_any _ _ _)))
          by_cases hpr : p < r
          · go_wp2_with fail
            go_region
            all_goals go_wp2
            go_roundw
            case rel =>
              refine ⟨j - 1, by congr 1; omega, by omega, swapped z j (j - 1), ?_, HS.out.swap (by omega) (by omega), HR.out.swap hj0 (by rw [HP.out, HQ.out]; exact hpr), ?_⟩
              · refine ((((HZ.out.drewN _).set j r).set (j - 1) p)).congr fun k _ => ?_
                unfold swapped
                rw [HP.out, HQ.out]
              · exact ((HK.out.drewN _).set (p := ⟨g, j, none⟩) rfl _).set (p := ⟨g, j - 1, none⟩) rfl _
            case measure => simp [intOf]; omega
          · go_wp2
            go_roundw
            case rel => exact HD.out (.inr (by rw [HP.out, HQ.out]; omega)) _
            case measure => simp [intOf]; omega
        · go_wp2_with fail
          go_quiet (first | (go_at_call 192; refine Calls.quiet_of_same (less_any _ _ _)))
          go_wp2
          go_roundw
          case rel => exact HD.out (.inl (by omega)) _
          case measure => simp [intOf]; omega
    · go_wp2
      go_end0
      exact ⟨rfl, y, HY.out, HS.out, by have := HR.out; rw [Nat.min_eq_right (by omega)] at this; exact this, HK.out⟩

set_option maxRecDepth 100000 in
set_option maxHeartbeats 2000000 in
theorem pdqsort_any (g n : Nat) (k : Int) (x : Nat → Int) (w : World) (hX : Cells w g n x) (hn : n ≤ 12) :
    Calls Tryz.prog 184 #[.slice (some ⟨g, 0, none⟩) n n, .int .i64 0, .int .i64 n, .int .i64 k] w (Sorted g n x w) := by
  have hc := Lib.hid (insertionSort_any g n x w hX hn)
  clear hX
  go_enter Tryz.func184, Tryz.ntmps184
  go_wp2
  go_loopw [1, 2, 3, 8, 9] (fun s1 s2 s3 s8 s9 wr => s1 = .int .i64 0 ∧ s2 = .int .i64 n ∧ s3 = .int .i64 k ∧ s8 = .bool true ∧ s9 = .bool true ∧ wr = w) (fun _ _ _ _ _ _ => 0)
  case atStart => exact ⟨rfl, rfl, rfl, rfl, rfl, rfl⟩
  case round =>
    obtain ⟨rfl, rfl, rfl, rfl, rfl, rfl⟩ := hrel
    go_wp2_with (go_at_call 186; refine hc.out.mono ?_; rintro e w1 ⟨rfl, hw1⟩)
    (try simp only [Exit.inBlock, Exit.then])
    exact bodyPost_ret (results_none rfl _ _ _) rfl ⟨rfl, hw1⟩

set_option maxRecDepth 100000 in
set_option maxHeartbeats 1000000 in
theorem sort_any (g n : Nat) (x : Nat → Int) (w : World) (hX : Cells w g n x) (hn : n ≤ 12) :
    Calls Tryz.prog 181 #[.slice (some ⟨g, 0, none⟩) n n] w (Sorted g n x w) := by
  have HX := Lib.hid hX
  clear hX
  go_enter Tryz.func181, Tryz.ntmps181
  go_wp2_with (first
    | (go_at_call 185; refine (len_any _ _ hn).mono ?_; rintro e w' ⟨⟨k, rfl⟩, rfl⟩)
    | (go_at_call 184; refine (pdqsort_any g n _ x _ HX.out hn).mono ?_; rintro e w' ⟨rfl, hw1⟩))
  go_end0
  exact ⟨rfl, hw1⟩
end Go.Proofs.YtfilbodigooenaaGreatDoor
/- Sb -/
set_option linter.unusedVariables false
namespace Go.Proofs.YtfilbodigooenaaGreatDoor
open Go.RowKit

/-- Of the first m those that are not as the one ahead of them. -/
def dd (x : Nat → Int) : Nat → List Int
  | 0 => []
  | m + 1 => if m = 0 ∨ x m ≠ x (m - 1) then dd x m ++ [x m] else dd x m
theorem dd_new {x : Nat → Int} {m : Nat} (h : m = 0 ∨ x m ≠ x (m - 1)) : dd x (m + 1) = dd x m ++ [x m] := if_pos h
theorem dd_old {x : Nat → Int} {m : Nat} (hm : 0 < m) (h : x m = x (m - 1)) : dd x (m + 1) = dd x m := if_neg (by omega)
theorem dd_le (x : Nat → Int) : ∀ m, (dd x m).length ≤ m
  | 0 => Nat.le_refl _
  | m + 1 => by
    have := dd_le x m
    unfold dd
    split
    · simp; omega
    · omega
/-- Where no two neighbours are alike all stay. -/
theorem dd_all {x : Nat → Int} : ∀ {m : Nat}, (∀ j, 0 < j → j < m → x j ≠ x (j - 1)) → (dd x m).length = m ∧ ∀ j, j < m → x j = (dd x m).getD j 0
  | 0, _ => ⟨rfl, fun j hj => by omega⟩
  | m + 1, h => by
    obtain ⟨h1, h2⟩ := dd_all (m := m) fun j h0 hj => h j h0 (by omega)
    have hn : m = 0 ∨ x m ≠ x (m - 1) := by
      by_cases e : m = 0
      · exact .inl e
      · exact .inr (h m (by omega) (by omega))
    rw [dd_new hn]
    refine ⟨by simp [h1], fun j hj => ?_⟩
    by_cases e : j = m
    · subst e
      simp [List.getD, h1]
    · rw [h2 j (by omega)]
      simp [List.getD, List.getElem?_append_left (show j < (dd x m).length by omega)]

theorem Cells.fill {g n : Nat} : ∀ (m o : Nat) {w : World} {y : Nat → Int}, Cells w g n y → ∃ z, Cells (w.setCells g o (List.replicate m (.int .i64 0))) g n z ∧ ∀ j, j < o → z j = y j
  | 0, o, w, y, h => ⟨y, h, fun _ _ => rfl⟩
  | m + 1, o, w, y, h => by
    obtain ⟨z, hz, e⟩ := Cells.fill m (o + 1) (h.set o 0)
    exact ⟨z, hz, fun j hj => (e j (by omega)).trans (if_neg (by omega))⟩
theorem Keeps.fill {S : Nat → Prop} {g : Nat} (hg : S g) {w : World} : ∀ (m o : Nat) {w' : World}, Keeps S w w' → Keeps S w (w'.setCells g o (List.replicate m (.int .i64 0)))
  | 0, o, w', h => h
  | m + 1, o, w', h => Keeps.fill hg m (o + 1) (h.set (p := ⟨g, o, none⟩) hg _)

/-- Of the first m places' numbers those that stay lie ahead; behind them all is as it was. -/
structure Moved (x y : Nat → Int) (n m k : Nat) : Prop where
  len : (dd x m).length = k
  lt : k < m
  low : ∀ j, j < k → y j = (dd x m).getD j 0
  high : ∀ j, k ≤ j → j < n → y j = x j
theorem Moved.old {x y : Nat → Int} {n m k : Nat} (h : Moved x y n m k) (hm : 0 < m) (e : x m = x (m - 1)) : Moved x y n (m + 1) k := by
  obtain ⟨h1, h2, h3, h4⟩ := h
  exact ⟨by rw [dd_old hm e]; exact h1, by omega, by rw [dd_old hm e]; exact h3, h4⟩
theorem Moved.new {x y : Nat → Int} {n m k : Nat} (h : Moved x y n m k) (e : x m ≠ x (m - 1)) : Moved x (fun j => if j = k then x m else y j) n (m + 1) (k + 1) := by
  obtain ⟨h1, h2, h3, h4⟩ := h
  refine ⟨by rw [dd_new (.inr e)]; simp [h1], by omega, fun j hj => ?_, fun j h5 h6 => ?_⟩
  · rw [dd_new (.inr e)]
    by_cases e2 : j = k
    · rw [if_pos e2, e2]
      simp [List.getD, ← h1]
    · rw [if_neg e2, h3 j (by omega)]
      simp [List.getD, List.getElem?_append_left (show j < (dd x m).length by omega)]
  · rw [if_neg (by omega)]
    exact h4 j (by omega) h6

/-- What Compact leaves. -/
def Compacted (g n : Nat) (x : Nat → Int) (w : World) (e : Ending) (w' : World) : Prop :=
  e = .returned (.slice (some ⟨g, 0, none⟩) (dd x n).length n) ∧ ∃ y, Cells w' g n y ∧ (∀ j, j < (dd x n).length → y j = (dd x n).getD j 0) ∧ Keeps (· = g) w w'
theorem Compacted.same {g n : Nat} {x : Nat → Int} {w w' : World} (h : ∀ j, 0 < j → j < n → x j ≠ x (j - 1)) (hX : Cells w' g n x) (hK : Keeps (· = g) w w') : Compacted g n x w (.returned (.slice (some ⟨g, 0, none⟩) n n)) w' := by
  obtain ⟨h1, h2⟩ := dd_all h
  exact ⟨by rw [h1], x, hX, by rw [h1]; exact h2, hK⟩

set_option maxRecDepth 100000 in
set_option maxHeartbeats 4000000 in
theorem compact_any (g n : Nat) (x : Nat → Int) (w : World) (hX : Cells w g n x) (hn : n ≤ 12) :
    Calls Tryz.prog 182 #[.slice (some ⟨g, 0, none⟩) n n] w (Compacted g n x w) := by
  have HX := Lib.hid hX
  clear hX
  go_enter Tryz.func182, Tryz.ntmps182
  by_cases h2 : n < 2
  · go_wp2
    go_ret
    exact Compacted.same (fun j h0 hj => by omega) HX.out (Keeps.refl _ _)
  · go_wp2
    go_loopw [3] (fun v wr => ∃ k : Nat, v = .int .i64 k ∧ 1 ≤ k ∧ k ≤ n ∧ (∀ j, 0 < j → j < k → x j ≠ x (j - 1)) ∧ Cells wr g n x ∧ Keeps (· = g) w wr) (fun v _ => n - (intOf v).toNat)
    case atStart => exact ⟨1, rfl, Nat.le_refl _, by omega, fun j h0 hj => by omega, HX.out, Keeps.refl _ _⟩
    case round =>
      clear HX
      obtain ⟨k, rfl, hk1, hk, hall, hX, hK⟩ := hrel
      have HA := Lib.hid hall
      have HX := Lib.hid hX
      have HK := Lib.hid hK
      clear hall hK
      by_cases hlt : k < n
      · obtain ⟨c1, f1⟩ := hX.at_ hlt
        obtain ⟨c0, f0⟩ := hX.at_ (j := k - 1) (by omega)
        clear hX
        generalize hp : x k = p at c1
        generalize hr : x (k - 1) = r at c0
        have HP := Lib.hid hp
        have HR := Lib.hid hr
        clear hp hr
        by_cases hdup : p = r
        · subst hdup
          go_wp2_with fail
          go_region
          go_wp2
          clear c0 c1 f0 f1
          have M0 : Moved x x n (k + 1) k := by
            obtain ⟨h1, h3⟩ := dd_all HA.out
            have e : x k = x (k - 1) := by rw [HP.out, HR.out]
            exact ⟨by rw [dd_old (by omega) e]; exact h1, by omega, by rw [dd_old (by omega) e]; exact h3, fun _ _ _ => rfl⟩
          have HM0 := Lib.hid M0
          clear M0
          go_loopw [3, 5] (fun v3 v5 wr2 => ∃ kk k2 : Nat, v3 = .int .i64 kk ∧ v5 = .int .i64 k2 ∧ 1 ≤ k2 ∧ k + k2 ≤ n ∧ ∃ y, Moved x y n (k + k2) kk ∧ Cells wr2 g n y ∧ Keeps (· = g) w wr2) (fun _ v5 _ => n - (intOf v5).toNat)
          case atStart => exact ⟨k, 1, rfl, rfl, Nat.le_refl _, by omega, x, HM0.out, HX.out.drewN _, HK.out.drewN _⟩
          case round =>
            clear HX HK HM0
            obtain ⟨kk, k2, rfl, rfl, h1, hle, y, hM, hY, hK⟩ := hrel
            have hkk := hM.lt
            have HM := Lib.hid hM
            have HY := Lib.hid hY
            have HK := Lib.hid hK
            clear hK
            by_cases hlt2 : k + k2 < n
            · obtain ⟨cm, _⟩ := hY.at_ (j := k + k2) (by omega)
              obtain ⟨cp, _⟩ := hY.at_ (j := k + (k2 - 1)) (by omega)
              obtain ⟨ck, fk⟩ := hY.at_ (j := kk) (by omega)
              rw [hM.high (k + k2) (by omega) (by omega)] at cm
              rw [hM.high (k + (k2 - 1)) (by omega) (by omega)] at cp
              clear hY hM
              generalize hu : x (k + k2) = u at cm
              generalize hv : x (k + (k2 - 1)) = v at cp
              generalize y kk = old at ck
              have HU := Lib.hid hu
              have HV := Lib.hid (show x (k + k2 - 1) = v by rw [← hv]; congr 1; omega)
              clear hu hv
              by_cases huv : u = v
              · subst huv
                go_wp2_with fail
                go_region
                go_wp2
                go_roundw
                case measure => simp [intOf]; omega
                case rel => exact ⟨kk, k2 + 1, by first | rfl | trivial, by go_num, by omega, by omega, y, HM.out.old (by omega) (by rw [HU.out, HV.out]), HY.out.drewN _, HK.out.drewN _⟩
              · go_wp2_with fail
                go_region
                go_wp2
                go_roundw
                case measure => simp [intOf]; omega
                case rel =>
                  refine ⟨kk + 1, k2 + 1, by go_num, by go_num, by omega, by omega, _, HM.out.new (by rw [HU.out, HV.out]; exact huv), ?_, ?_⟩
                  · rw [HU.out]
                    first
                      | exact ((HY.out.set kk u).drewN 1)
                      | exact (HY.out.drewN _).set kk u
                  · first
                      | exact ((HK.out.set (p := ⟨g, kk, none⟩) rfl _).drewN 1)
                      | exact (HK.out.drewN _).set (p := ⟨g, kk, none⟩) rfl _
            · have hend : k + k2 = n := by omega
              have hcl : ∀ ty, (Builtin.clear_ #[23] ty #[.slice (some ⟨g, kk, none⟩) (n - kk) (n - kk)]).run Tryz.prog wr = .ok (.tuple #[]) (wr.setCells g kk (List.replicate (n - kk) (.int .i64 0))) :=
                fun ty => Lib.run_clear_slice wr _ _ ty _ Tryz.underlying23 (fun w => by simp [go_sem]) rfl rfl g kk _ _ (by omega) (fun j hj => by rw [(hY.at_ (j := kk + j) (by omega)).1]; rfl) (fun j hj => (hY.at_ (j := kk + j) (by omega)).2)
              clear hY hM
              go_wp2
              go_ret
              obtain ⟨z, hz, ez⟩ := Cells.fill (n - kk) kk HY.out
              have hl := HM.out.len
              have hlow := HM.out.low
              rw [hend] at hl hlow
              exact ⟨by rw [hl]; rfl, z, hz, by rw [hl]; exact fun j hj => (ez j hj).trans (hlow j hj), Keeps.fill (S := (· = g)) rfl _ _ HK.out⟩
        · go_wp2_with fail
          go_region
          go_wp2
          go_roundw
          case measure => simp [intOf]; omega
          case rel =>
            refine ⟨k + 1, by go_num, by omega, by omega, fun j h0 hj => ?_, HX.out.drewN _, HK.out.drewN _⟩
            by_cases e : j = k
            · rw [e, HP.out, HR.out]; exact hdup
            · exact HA.out j h0 (by omega)
      · obtain rfl : k = n := by omega
        clear hX
        go_wp2
        go_ret
        exact Compacted.same HA.out HX.out HK.out
end Go.Proofs.YtfilbodigooenaaGreatDoor
/- Sc -/
set_option linter.unusedVariables false
namespace Go.Proofs.YtfilbodigooenaaGreatDoor
open Go.RowKit

set_option maxHeartbeats 400000 in
theorem bandOfPod_any (A0 A1 A2 A3 : Option Addr) (n0 c0 n1 c1 n2 c2 n3 c3 : Nat) (l p t : Int) (x0 : Nat → Int) (i : Nat) (w : World)
    (s0 : Sl w w.heap.size 4 A0 n0 x0) (hi : i < n0) (b0 : n0 ≤ maxLen) :
    Calls Tryz.prog 151 #[planV A0 A1 A2 A3 n0 c0 n1 c1 n2 c2 n3 c3 l p t, .int .i64 i] w fun e w' =>
      e = .returned (.int .i64 (x0 (i * 4 + 1))) ∧ Below w.heap.size w w' := by
  unfold maxLen at b0
  obtain ⟨b, off, rfl, hb, q0, q1, q2, q3⟩ := s0.cell4 hi
  clear s0
  go_enter Tryz.func151, Tryz.ntmps151
  go_wp2
  go_ret
  exact ⟨rfl, (Below.refl _ _).alloc (Nat.le_refl _) _⟩
theorem enter_bandOfPod (x y : Value) (wr : World) : (callFunc 151 #[x, y]).run Tryz.prog wr = .ok (.enter 151 #[x, y]) wr := by simp [go_sem]

set_option maxRecDepth 100000 in
set_option maxHeartbeats 1000000 in
theorem implPodsOf_any (v : Value) (d : PlanD) (wanted : Int) (w : World) (h : IsPlan w w.heap.size v d) (hn : d.n0 ≤ 1048576) :
    Calls Tryz.prog 102 #[v, .int .i64 wanted] w (Listed w (found d d.n0 (fun i => d.x0 (i * 4 + 1)) wanted)) := by
  have P := Lib.hid h
  obtain ⟨⟨A0, A1, A2, A3, c0, c1, c2, c3, rfl, s0, s1, s2, s3⟩, b0, b1, b2, b3⟩ := h
  have S := Lib.hid s0
  have B := Lib.hid b0
  have HN := Lib.hid hn
  clear s0 s1 s2 s3 b0 b1 b2 b3 hn
  go_enter Tryz.func102, Tryz.ntmps102
  go_wp2_with fail
  have X1 := Own.box w (planC A0 A1 A2 A3 d.n0 c0 d.n1 c1 d.n2 c2 d.n3 c3 d.l d.p d.t) 44
  refine (numbersWith_any _ d _ d.n0 (fun i => d.x0 (i * 4 + 1)) wanted _ ((P.out.below X1.K (Nat.le_refl _)).more X1.K.size) HN.out enter_bandOfPod ?_).mono ?_
  · exact fun i hi wr hb => bandOfPod_any A0 A1 A2 A3 d.n0 c0 d.n1 c1 d.n2 c2 d.n3 c3 d.l d.p d.t d.x0 i wr ((S.out.below (X1.K.trans (hb.mono X1.K.size)) (Nat.le_refl _)).more (X1.K.trans (hb.mono X1.K.size)).size) hi B.out
  · intro e w2 hL
    obtain ⟨v', rfl, O, K⟩ := hL.back X1.K
    clear hL
    go_wp2_with fail
    go_ret
    exact ⟨_, rfl, O, K⟩

set_option maxRecDepth 100000 in
set_option maxHeartbeats 2000000 in
theorem specPodsOf_any (v : Value) (d : PlanD) (wanted : Int) (w : World) (h : IsPlan w w.heap.size v d) (hn : d.n0 ≤ 1048576) :
    Calls Tryz.prog 160 #[v, .int .i64 wanted] w (Listed w (found d d.n0 (fun i => d.x0 (i * 4 + 1)) wanted)) := by
  have P := Lib.hid h
  obtain ⟨⟨A0, A1, A2, A3, c0, c1, c2, c3, rfl, s0, s1, s2, s3⟩, b0, b1, b2, b3⟩ := h
  have S := Lib.hid s0
  have HN := Lib.hid hn
  have hn' : d.n0 ≤ 2 ^ 63 - 1 := by omega
  clear s0 s1 s2 s3 b0 b1 b2 b3 hn
  obtain ⟨i0, hi, hz0, hz1, hz2⟩ := info_parts info_i64
  have HI := Lib.hid hi
  have HZ0 := Lib.hid hz0
  have HZ1 := Lib.hid hz1
  have HZ2 := Lib.hid hz2
  clear hi hz0 hz1 hz2
  go_enter Tryz.func160, Tryz.ntmps160
  go_wp2
  have X1 := (Own.box w (planC A0 A1 A2 A3 d.n0 c0 d.n1 c1 d.n2 c2 d.n3 c3 d.l d.p d.t) 44).alloc (.cells #[] 2)
  have O1 : ((w.alloc (.cells (planC A0 A1 A2 A3 d.n0 c0 d.n1 c1 d.n2 c2 d.n3 c3 d.l d.p d.t) 44)).alloc (.cells #[] 2)).ownsRow (w.heap.size + 1) 2 1 (.slice (some ⟨w.heap.size + 1, 0, none⟩) 0 0) 0 [] := by
    have := World.ownsRow_made (base := w.heap.size + 1) (e := 2) (size := 1) (w.alloc (.cells (planC A0 A1 A2 A3 d.n0 c0 d.n1 c1 d.n2 c2 d.n3 c3 d.l d.p d.t) 44)) #[] 0 (by simp) (Nat.zero_le _) rfl
    simpa using this
  go_loopw [5, 6] (fun v i wr => ∃ k : Nat, k ≤ d.n0 ∧ i = .int .i64 k ∧ (k = 0 ∨ planOkB d = true) ∧ wr.ownsRow (w.heap.size + 1) 2 1 v (hits k (fun i => d.x0 (i * 4 + 1)) wanted).length ((hits k (fun i => d.x0 (i * 4 + 1)) wanted).map (Value.int .i64)) ∧
    Own w wr w.heap.size (planC A0 A1 A2 A3 d.n0 c0 d.n1 c1 d.n2 c2 d.n3 c3 d.l d.p d.t)) (fun _ i _ => d.n0 - (intOf i).toNat)
  case atStart => exact ⟨0, Nat.zero_le _, rfl, .inl rfl, O1, X1⟩
  case round =>
    clear O1 X1
    obtain ⟨k, hk, rfl, hor, O, X⟩ := hrel
    have HR := Lib.hid hor
    have HO := Lib.hid O
    clear hor O
    have hC := X.C
    have hz := X.z
    by_cases hlt : k < d.n0
    · cases hq : planOkB d
      · have HQ := Lib.hid hq
        go_wp2_with (go_at_call 57; refine (spec_planOk_any _ d _ ((P.out.below X.K (Nat.le_refl _)).more X.K.size)).mono ?_; rintro e w2 ⟨rfl, hb2⟩; have X2 := X.step hb2)
        go_ret
        refine ⟨_, rfl, ?_, X2.K⟩
        have hk0 : k = 0 := HR.out.resolve_right (by rw [HQ.out]; decide)
        rw [found_no HQ.out]
        have := ownsRow_base (ownsRow_below HO.out hb2) (Nat.le_succ _)
        rw [hk0] at this
        exact this
      · have HQ := Lib.hid hq
        have hle := hits_le k (fun i => d.x0 (i * 4 + 1)) wanted
        have h63 : (hits k (fun i => d.x0 (i * 4 + 1)) wanted).length + 1 ≤ maxLen := by have := HN.out; unfold maxLen; omega
        have hby : ((hits k (fun i => d.x0 (i * 4 + 1)) wanted).length + 1) * 8 ≤ 140737488355328 := by have := HN.out; omega
        have H63 := Lib.hid h63
        have HBY := Lib.hid hby
        clear h63 hby hle
        obtain ⟨b, off, rfl, hb, q0, q1, q2, q3⟩ := (S.out.own X).cell4 hlt
        cases hv : (d.x0 (k * 4 + 1) == wanted)
        · have HV := Lib.hid (hits_no (f := fun i => d.x0 (i * 4 + 1)) hv)
          go_wp2_with (go_at_call 57; refine (spec_planOk_any _ d _ ((P.out.below X.K (Nat.le_refl _)).more X.K.size)).mono ?_; rintro e w2 ⟨rfl, hb2⟩; have X2 := X.step hb2; have hC2 := X2.C; have hD2 := (bcell hb2).1)
          refine ⟨⟨k + 1, by omega, by go_num, .inr (by first | exact HQ.out | trivial), by rw [HV.out]; exact ownsRow_below HO.out hb2, X2⟩, by simp [intOf]; omega⟩
        · have HV := Lib.hid (hits_yes (f := fun i => d.x0 (i * 4 + 1)) hv)
          go_wp2_with (first
            | (go_at_call 57; refine (spec_planOk_any _ d _ ((P.out.below X.K (Nat.le_refl _)).more X.K.size)).mono ?_; rintro e w2 ⟨rfl, hb2⟩; have X2 := X.step hb2; have hC2 := X2.C; have hD2 := (bcell hb2).1)
            | (at_builtin; refine wpList_append_own _ rfl _ _ 23 rfl (w.heap.size + 1) 2 i0 (.int .i64 0) 1 8 Tryz.underlying23 HI.out HZ0.out HZ1.out HZ2.out rfl (by decide) _ _ _ rfl ((ownsRow_below HO.out hb2).alloc _) ⟨w2.heap.size, 0, none⟩ 1 1 [.int .i64 k] rfl rfl (cell_one_new _ _ _) (fun x hx => by simp at hx; subst hx; rfl) H63.out HBY.out (by have := X2.z; simp; omega) ?_; intro v' w4 hown' hgrow hnil))
          have X3 := X2.alloc (.cells #[.int .i64 k] 2)
          have OB := (ownsRow_below HO.out hb2)
          refine ⟨⟨k + 1, by omega, by go_num, .inr (by first | exact HQ.out | trivial), ?_, ?_⟩, by simp [intOf]; omega⟩
          · rw [HV.out]
            simpa using hown'
          · exact X3.grown hgrow fun g hg => by have := (OB.lt g hg).1; omega
    · obtain rfl : k = d.n0 := by omega
      go_wp2
      go_ret
      refine ⟨_, rfl, ?_, X.K⟩
      have := ownsRow_base HO.out (Nat.le_succ _)
      rcases HR.out with h0 | h1
      · cases hq : planOkB d
        · rw [found_no hq]
          rw [h0] at this
          exact this
        · rw [found_yes hq]; exact this
      · rw [found_yes h1]; exact this

theorem implPods_any (v : Value) (d : PlanD) (b : Int) (w : World) (h : IsPlan w w.heap.size v d) (hn : d.n0 ≤ 1048576) :
    Calls Tryz.prog 102 #[v, .int .i64 b] w (Listed w (podsL d b)) := implPodsOf_any v d b w h hn
theorem specPods_any (v : Value) (d : PlanD) (b : Int) (w : World) (h : IsPlan w w.heap.size v d) (hn : d.n0 ≤ 1048576) :
    Calls Tryz.prog 160 #[v, .int .i64 b] w (Listed w (podsL d b)) := specPodsOf_any v d b w h hn
end Go.Proofs.YtfilbodigooenaaGreatDoor
/- Sd -/
set_option linter.unusedVariables false
namespace Go.Proofs.YtfilbodigooenaaGreatDoor
open Go.RowKit

theorem rise_unique : ∀ {L M : List Int}, L.Pairwise (· < ·) → M.Pairwise (· < ·) → (∀ x, x ∈ L ↔ x ∈ M) → L = M
  | [], [], _, _, _ => rfl
  | [], b :: M, _, _, h => by have := (h b).2 (by simp); cases this
  | a :: L, [], _, _, h => by have := (h a).1 (by simp); cases this
  | a :: L, b :: M, hL, hM, h => by
    have hL' := List.pairwise_cons.1 hL
    have hM' := List.pairwise_cons.1 hM
    have hab : a = b := by
      have h1 := (h a).1 (by simp)
      have h2 := (h b).2 (by simp)
      rcases List.mem_cons.1 h1 with e | e
      · exact e
      · rcases List.mem_cons.1 h2 with e2 | e2
        · exact e2.symm
        · have := hM'.1 a e
          have := hL'.1 b e2
          omega
    subst hab
    congr 1
    refine rise_unique hL'.2 hM'.2 fun x => ⟨fun hx => ?_, fun hx => ?_⟩
    · have := hL'.1 x hx
      rcases List.mem_cons.1 ((h x).1 (by simp [hx])) with e | e
      · omega
      · exact e
    · have := hM'.1 x hx
      rcases List.mem_cons.1 ((h x).2 (by simp [hx])) with e | e
      · omega
      · exact e

theorem dd_mem {x : Nat → Int} {v : Int} : ∀ {m : Nat}, v ∈ dd x m ↔ ∃ j, j < m ∧ x j = v
  | 0 => by simp [dd]
  | m + 1 => by
    by_cases h : m = 0 ∨ x m ≠ x (m - 1)
    · rw [dd_new h, List.mem_append, dd_mem (m := m), List.mem_singleton]
      refine ⟨?_, fun ⟨j, hj, e⟩ => ?_⟩
      · rintro (⟨j, hj, e⟩ | e)
        · exact ⟨j, by omega, e⟩
        · exact ⟨m, by omega, e.symm⟩
      · by_cases e2 : j = m
        · subst e2; exact .inr e.symm
        · exact .inl ⟨j, by omega, e⟩
    · rw [dd_old (by omega) (by omega), dd_mem (m := m)]
      refine ⟨fun ⟨j, hj, e⟩ => ⟨j, by omega, e⟩, fun ⟨j, hj, e⟩ => ?_⟩
      by_cases e2 : j = m
      · subst e2
        exact ⟨j - 1, by omega, by rw [← e]; omega⟩
      · exact ⟨j, by omega, e⟩
theorem dd_rise {x : Nat → Int} {n : Nat} (h : Rises x n) : ∀ {m : Nat}, m ≤ n → (dd x m).Pairwise (· < ·)
  | 0, _ => List.Pairwise.nil
  | m + 1, hm => by
    have ih := dd_rise h (m := m) (by omega)
    by_cases hn : m = 0 ∨ x m ≠ x (m - 1)
    · rw [dd_new hn, List.pairwise_append]
      refine ⟨ih, List.pairwise_singleton _ _, fun a ha b hb => ?_⟩
      obtain rfl := List.mem_singleton.1 hb
      obtain ⟨j, hj, rfl⟩ := dd_mem.1 ha
      have h1 := h (m - 1) m (by omega) (by omega)
      by_cases e : j = m - 1
      · rw [e]; omega
      · have h2 := h j (m - 1) (by omega) (by omega)
        omega
    · rw [dd_old (by omega) (by omega)]
      exact ih

theorem picks_mem_iff {n : Nat} {p : Nat → Bool} {x : Int} : x ∈ picks n p ↔ ∃ i : Nat, i < n ∧ x = i ∧ p i = true := by
  refine ⟨picks_mem, ?_⟩
  rintro ⟨i, h1, rfl, h2⟩
  simp only [picks, List.mem_map, List.mem_filter, List.mem_range]
  exact ⟨i, ⟨h1, h2⟩, rfl⟩
/-- Numbers that rise, made of the pods' bands, without repeats: the chapter's list. -/
theorem rising_bands {d : PlanD} (h : planOkB d = true) {y : Nat → Int} (hS : Same d.n0 (fun i => d.x0 (i * 4 + 1)) y) (hR : Rises y d.n0) : dd y d.n0 = bandsL d := by
  refine rise_unique (dd_rise hR (Nat.le_refl _)) (bandsL_rise d) fun v => ?_
  rw [dd_mem]
  unfold bandsL
  rw [picks_mem_iff]
  constructor
  · rintro ⟨k, hk, rfl⟩
    obtain ⟨i, hi, e⟩ := hS.back k hk
    have hb := planOk_band h hi
    have e : y k = d.x0 (i * 4 + 1) := e
    rw [e]
    refine ⟨(d.x0 (i * 4 + 1)).toNat, by omega, by omega, ?_⟩
    simp only [hasB, decide_eq_true_eq]
    unfold podsL
    rw [found_yes h]
    refine List.length_pos_of_mem (a := (i : Int)) ?_
    rw [hits_picks, picks_mem_iff]
    exact ⟨i, hi, rfl, by simp; omega⟩
  · rintro ⟨b, hb, rfl, hp⟩
    simp only [hasB, decide_eq_true_eq] at hp
    obtain ⟨v, hv⟩ := List.exists_mem_of_length_pos hp
    obtain ⟨i, hi, _, e⟩ := podsL_mem hv
    obtain ⟨k, hk, ek⟩ := hS.there i hi
    exact ⟨k, hk, ek.trans e⟩
theorem bandsL_no {d : PlanD} (h : planOkB d = false) : bandsL d = [] := by
  refine List.eq_nil_iff_forall_not_mem.2 fun x hx => ?_
  obtain ⟨i, _, _, hp⟩ := picks_mem hx
  simp only [hasB, decide_eq_true_eq] at hp
  unfold podsL at hp
  rw [found_no h] at hp
  exact absurd hp (by decide)

theorem Cells.owns {w : World} {g n : Nat} {y : Nat → Int} {L : List Int} (h : Cells w g n y) (hn : n ≤ 12) (hl : L.length ≤ n) (hL : ∀ j, j < L.length → y j = L.getD j 0) :
    w.ownsRow g 2 1 (.slice (some ⟨g, 0, none⟩) L.length n) L.length (L.map (Value.int .i64)) := by
  obtain ⟨cur, hh, hs, hc⟩ := h
  refine ⟨by simp, .inr ⟨g, n, cur, rfl, Nat.le_refl _, hh, hl, by unfold maxLen; omega, by omega, ?_⟩⟩
  rw [Nat.mul_one]
  refine List.ext_getElem? fun j => ?_
  by_cases hj : j < L.length
  · rw [List.getElem?_take_of_lt hj, Array.getElem?_toList, hc j (by omega), hL j hj]
    simp [List.getD, hj]
  · rw [List.getElem?_take_eq_none (by omega), List.getElem?_eq_none (by simp; omega)]

set_option maxRecDepth 100000 in
set_option maxHeartbeats 1000000 in
/-- The program's rising list, made in the list's own block. -/
theorem rising_any (d : PlanD) (g : Nat) (w : World) (hq : planOkB d = true) (hX : Cells w g d.n0 (fun i => d.x0 (i * 4 + 1))) :
    Calls Tryz.prog 178 #[.slice (some ⟨g, 0, none⟩) d.n0 d.n0] w fun e w' =>
      ∃ v, e = .returned v ∧ w'.ownsRow g 2 1 v (bandsL d).length ((bandsL d).map (Value.int .i64)) ∧ Keeps (· = g) w w' := by
  have hn := (planOk_lock hq).2.2.1
  have HQ := Lib.hid hq
  have HX := Lib.hid hX
  clear hq hX
  go_enter Tryz.func178, Tryz.ntmps178
  go_wp2_with fail
  refine (sort_any g d.n0 _ _ HX.out hn).mono ?_
  rintro e w1 ⟨rfl, y, hY, hS, hR, hK⟩
  have hb := rising_bands HQ.out hS hR
  have hc := compact_any g d.n0 y w1 hY hn
  unfold Compacted at hc
  have hle := dd_le y d.n0
  rw [hb] at hc hle
  have HC := Lib.hid hc
  have HK := Lib.hid hK
  clear hb hc hY hS hR hK
  go_wp2_with fail
  refine HC.out.mono ?_
  rintro e w2 ⟨rfl, z, hZ, hz, hK2⟩
  have HO := Lib.hid (hZ.owns hn hle hz)
  have HK2 := Lib.hid (HK.out.trans hK2)
  clear hZ hz hK2
  go_wp2_with fail
  go_ret
  exact ⟨_, rfl, HO.out, HK2.out⟩
end Go.Proofs.YtfilbodigooenaaGreatDoor
/- Se -/
set_option linter.unusedVariables false
namespace Go.Proofs.YtfilbodigooenaaGreatDoor
open Go.RowKit Go.Sort

/-- Block g, of n whole numbers, is being filled: the first k are as f tells. -/
structure Filling (wr : World) (g n k : Nat) (f : Nat → Int) : Prop where
  it : ∃ cur, wr.heap[g]? = some (.cells cur 2 (0, 0)) ∧ cur.size = n ∧ ∀ j, j < k → cur[j]? = some (.int .i64 (f j))
theorem Filling.lt {wr : World} {g n k : Nat} {f : Nat → Int} (h : Filling wr g n k f) : g < wr.heap.size := by
  obtain ⟨cur, hh, _⟩ := h
  exact (Array.getElem?_eq_some_iff.1 hh).1
theorem Filling.below {wr w' : World} {g n k : Nat} {f : Nat → Int} (h : Filling wr g n k f) (hb : Below wr.heap.size wr w') : Filling w' g n k f := by
  have hl := h.lt
  obtain ⟨cur, hh, r⟩ := h
  exact ⟨cur, (hb.block g hl).trans hh, r⟩
theorem Filling.at_ {wr : World} {g n k i : Nat} {f : Nat → Int} (h : Filling wr g n k f) (hi : i < n) : ∃ v, wr.cell? ⟨g, i, none⟩ = some v ∧ wr.frozen? ⟨g, i, none⟩ = false := by
  obtain ⟨cur, hh, hs, _⟩ := h
  exact ⟨cur[i]'(by omega), (cell_of_row _ _ _ _ _ _ hh).trans (Array.getElem?_eq_getElem (by omega)), frozen_of_row _ _ _ _ _ hh⟩
theorem Filling.set {wr : World} {g n k : Nat} {f : Nat → Int} (h : Filling wr g n k f) (hk : k < n) : Filling (wr.setCell ⟨g, k, none⟩ (.int .i64 (f k))) g n (k + 1) f := by
  obtain ⟨cur, hh, hs, hc⟩ := h
  refine ⟨cur.setIfInBounds k (.int .i64 (f k)), ?_, by simp [hs], fun j hj => ?_⟩
  · rw [setCell_eq]
    simp [mapBlock, Array.getElem?_modify, hh, onCells]
  · by_cases e : j = k
    · subst e
      simp [hs, hk]
    · rw [Array.getElem?_setIfInBounds_ne (fun he => e he.symm)]
      exact hc j (by omega)
theorem Filling.full {wr : World} {g n : Nat} {f : Nat → Int} (h : Filling wr g n n f) : Cells wr g n f := ⟨h.it⟩
theorem made_emptyI (w : World) {B : Nat} (hB : B ≤ w.heap.size) : (w.alloc (.cells #[] 2)).ownsRow B 2 1 (.slice (some ⟨w.heap.size, 0, none⟩) 0 0) 0 [] := by
  have := World.ownsRow_made (base := B) (e := 2) (size := 1) w #[] 0 hB (Nat.zero_le _) rfl
  simpa using this
theorem filling_new {w : World} {B g n : Nat} {f : Nat → Int} {xs : List Value} (h : w.ownsRow B 2 1 (.slice (some ⟨g, 0, none⟩) n n) n xs) : B ≤ g ∧ Filling w g n 0 f := by
  rcases h.2 with ⟨h1, _⟩ | ⟨g', cap, cur, h1, hb, h2, h3, h4, h5, h6⟩
  · cases h1
  · injection h1 with h1 _ h7
    injection h1 with h1
    injection h1 with h1 _ _
    subst h1 h7
    exact ⟨hb, cur, h2, by omega, fun j hj => absurd hj (by omega)⟩

set_option maxRecDepth 100000 in
set_option maxHeartbeats 2000000 in
theorem implBands_any (v : Value) (d : PlanD) (w : World) (h : IsPlan w w.heap.size v d) :
    Calls Tryz.prog 170 #[v] w (Listed w (bandsL d)) := by
  have P := Lib.hid h
  obtain ⟨⟨A0, A1, A2, A3, c0, c1, c2, c3, rfl, s0, s1, s2, s3⟩, b0, b1, b2, b3⟩ := h
  have S := Lib.hid s0
  have B := Lib.hid b0
  clear s0 s1 s2 s3 b0 b1 b2 b3
  obtain ⟨i0, hi, hz0, hz1, hz2⟩ := info_parts info_i64
  go_enter Tryz.func170, Tryz.ntmps170
  go_wp2_with fail
  have X1 := Own.box w (planC A0 A1 A2 A3 d.n0 c0 d.n1 c1 d.n2 c2 d.n3 c3 d.l d.p d.t) 44
  refine (planOk_any _ d _ ((P.out.below X1.K (Nat.le_refl _)).more X1.K.size)).mono ?_
  rintro e w2 ⟨rfl, hb⟩
  have X2 := X1.step hb
  clear X1 hb
  have hC := X2.C
  cases hq : planOkB d
  · have HF := Lib.hid (bandsL_no hq)
    clear hq
    go_wp2
    go_ret
    refine ⟨_, rfl, ?_, (X2.alloc (.cells #[] 2)).K⟩
    rw [HF.out]
    exact made_emptyI w2 X2.K.size
  · have HQ := Lib.hid hq
    have hn12 : d.n0 ≤ 12 := (planOk_lock hq).2.2.1
    clear hq
    have hz := X2.K.size
    have hz' := X2.z
    go_wp2_with (at_make; refine wpList_make_full _ rfl _ _ 23 rfl (w.heap.size + 1) 2 i0 (.int .i64 0) 1 Tryz.underlying23 hi hz0 hz1 _ _ _ _ d.n0 rfl rfl rfl rfl ?b2 ?b3 (by omega) ?_)
    case b2 => rw [hz2]; omega
    case b3 => unfold maxLen; omega
    intro w3 hown hgrow
    obtain ⟨hg, F3⟩ := filling_new (f := fun i => d.x0 (i * 4 + 1)) hown
    have X3 : Own w w3 w.heap.size _ := X2.grown hgrow (fun r hr => by cases hr)
    generalize w2.heap.size = g at hg F3 ⊢
    clear hown hgrow hz0 hz1 hz2 hi hC X2 hz hz'
    go_wp2
    go_loopw [15] (fun i wr => ∃ k : Nat, k ≤ d.n0 ∧ i = .int .i64 k ∧ Own w wr w.heap.size (planC A0 A1 A2 A3 d.n0 c0 d.n1 c1 d.n2 c2 d.n3 c3 d.l d.p d.t) ∧ Filling wr g d.n0 k (fun i => d.x0 (i * 4 + 1))) (fun i _ => d.n0 - (intOf i).toNat)
    case atStart => exact ⟨0, Nat.zero_le _, rfl, X3, F3⟩
    case round =>
      clear X3 F3
      obtain ⟨k, hk, rfl, X, F⟩ := hrel
      have hC := X.C
      have hz := X.z
      by_cases hlt : k < d.n0
      · go_wp2_with (go_at_call 151; refine (bandOfPod_any A0 A1 A2 A3 d.n0 c0 d.n1 c1 d.n2 c2 d.n3 c3 d.l d.p d.t d.x0 k _ (S.out.own X) hlt B.out).mono ?_; rintro e w4 ⟨rfl, hb4⟩; have X4 := X.step hb4; have F4 := F.below hb4; obtain ⟨v0, t0, f0⟩ := F4.at_ hlt; clear hb4)
        exact ⟨⟨k + 1, by omega, by go_num, X4.far (p := ⟨g, k, none⟩) (by show w.heap.size ≤ g; omega) (by show g ≠ w.heap.size; omega) _, F4.set hlt⟩, by simp [intOf]; omega⟩
      · obtain rfl : k = d.n0 := by omega
        have HR := Lib.hid (rising_any d g wr HQ.out F.full)
        go_wp2_with fail
        refine HR.out.mono ?_
        rintro e w5 ⟨v', rfl, O5, K5⟩
        have HO := Lib.hid O5
        have HK := Lib.hid K5
        clear O5 K5
        go_wp2_with fail
        go_ret
        exact ⟨_, rfl, ownsRow_base HO.out (by omega), X.K.trans (HK.out.below X.K.size (fun b hb e => by omega))⟩

set_option maxRecDepth 100000 in
set_option maxHeartbeats 2000000 in
theorem specBands_any (v : Value) (d : PlanD) (w : World) (h : IsPlan w w.heap.size v d) (hn : d.n0 ≤ 1048576) :
    Calls Tryz.prog 166 #[v] w (Listed w (bandsL d)) := by
  have P := Lib.hid h
  have HN := Lib.hid hn
  obtain ⟨⟨A0, A1, A2, A3, c0, c1, c2, c3, rfl, s0, s1, s2, s3⟩, b0, b1, b2, b3⟩ := h
  clear s0 s1 s2 s3 b0 b1 b2 b3 hn
  obtain ⟨i0, hi, hz0, hz1, hz2⟩ := info_parts info_i64
  have HI := Lib.hid hi
  have HZ0 := Lib.hid hz0
  have HZ1 := Lib.hid hz1
  have HZ2 := Lib.hid hz2
  clear hi hz0 hz1 hz2
  go_enter Tryz.func166, Tryz.ntmps166
  go_wp2
  have X1 := (Own.box w (planC A0 A1 A2 A3 d.n0 c0 d.n1 c1 d.n2 c2 d.n3 c3 d.l d.p d.t) 44).alloc (.cells #[] 2)
  have O1 := made_emptyI (w.alloc (.cells (planC A0 A1 A2 A3 d.n0 c0 d.n1 c1 d.n2 c2 d.n3 c3 d.l d.p d.t) 44)) (B := w.heap.size + 1) (by simp)
  rw [heap_size_alloc_] at O1
  go_loopw [3, 4] (fun v i wr => ∃ k : Nat, k ≤ 6 ∧ i = .int .i64 k ∧ wr.ownsRow (w.heap.size + 1) 2 1 v (picks k (hasB d)).length ((picks k (hasB d)).map (Value.int .i64)) ∧
    Own w wr w.heap.size (planC A0 A1 A2 A3 d.n0 c0 d.n1 c1 d.n2 c2 d.n3 c3 d.l d.p d.t)) (fun _ i _ => 6 - (intOf i).toNat)
  case atStart => exact ⟨0, Nat.zero_le _, rfl, O1, X1⟩
  case round =>
    clear O1 X1
    obtain ⟨k, hk, rfl, O, X⟩ := hrel
    have HO := Lib.hid O
    clear O
    have hC := X.C
    have hz := X.z
    by_cases hlt : k < 6
    · have hle := picks_le k (hasB d)
      have h63 : (picks k (hasB d)).length + 1 ≤ maxLen := by unfold maxLen; omega
      have hby : ((picks k (hasB d)).length + 1) * 8 ≤ 140737488355328 := by omega
      have H63 := Lib.hid h63
      have HBY := Lib.hid hby
      clear h63 hby hle
      have hp := Lib.hid (specPods_any _ d k _ ((P.out.below X.K (Nat.le_refl _)).more X.K.size) HN.out)
      have hl0 := podsL_le d k
      have hl1 := HN.out
      have hl : (podsL d k).length ≤ 1048576 := by omega
      clear hl0 hl1
      cases hv : hasB d k
      · have HV := Lib.hid (picks_no hv)
        simp only [hasB, decide_eq_false_iff_not] at hv
        go_wp2_with (go_at_call 160; refine hp.out.mono ?_; rintro e w2 ⟨v', rfl, O2, hb2⟩; obtain ⟨A', c', g', rfl, -⟩ := open_list O2; have X2 := X.step hb2)
        refine ⟨⟨k + 1, by omega, by go_num, by rw [HV.out]; exact ownsRow_below HO.out hb2, X2⟩, by simp [intOf]; omega⟩
      · have HV := Lib.hid (picks_yes hv)
        simp only [hasB, decide_eq_true_eq] at hv
        go_wp2_with (first
          | (go_at_call 160; refine hp.out.mono ?_; rintro e w2 ⟨v', rfl, O2, hb2⟩; obtain ⟨A', c', g', rfl, -⟩ := open_list O2; have X2 := X.step hb2; clear O2)
          | (at_builtin; refine wpList_append_own _ rfl _ _ 23 rfl (w.heap.size + 1) 2 i0 (.int .i64 0) 1 8 Tryz.underlying23 HI.out HZ0.out HZ1.out HZ2.out rfl (by decide) _ _ _ rfl ((ownsRow_below HO.out hb2).alloc _) ⟨w2.heap.size, 0, none⟩ 1 1 [.int .i64 k] rfl rfl (cell_one_new _ _ _) (fun x hx => by simp at hx; subst hx; rfl) H63.out HBY.out (by have := X2.z; simp; omega) ?_; intro v' w4 hown' hgrow hnil))
        have X3 := X2.alloc (.cells #[.int .i64 k] 2)
        have OB := (ownsRow_below HO.out hb2)
        refine ⟨⟨k + 1, by omega, by go_num, ?_, ?_⟩, by simp [intOf]; omega⟩
        · rw [HV.out]
          simpa using hown'
        · exact X3.grown hgrow fun g hg => by have := (OB.lt g hg).1; omega
    · obtain rfl : k = 6 := by omega
      go_wp2
      go_ret
      exact ⟨_, rfl, ownsRow_base HO.out (Nat.le_succ _), X.K⟩
end Go.Proofs.YtfilbodigooenaaGreatDoor
/- Sf -/
set_option linter.unusedVariables false
namespace Go.Proofs.YtfilbodigooenaaGreatDoor
open Go.RowKit

theorem step_le {L : List Int} {b : Int} {k : Nat} (h : ∀ j, j < k → L.getD j 0 ≤ b) (hk : L.getD k 0 ≤ b) : ∀ j, j < k + 1 → L.getD j 0 ≤ b := fun j hj => by
  by_cases e : j = k
  · rw [e]; exact hk
  · exact h j (by omega)
theorem firstOver_hit {L : List Int} {b : Int} {k : Nat} (hk : k < L.length) (h : ∀ j, j < k → L.getD j 0 ≤ b) (hb : b < L.getD k 0) : firstOver L b = L.getD k 0 := by
  rw [getD_at hk] at hb ⊢
  exact firstOver_at hk (fun j hj => by have := h j hj; rwa [getD_at (by omega)] at this) hb
theorem firstOver_miss {L : List Int} {b : Int} (h : ∀ j, j < L.length → L.getD j 0 ≤ b) : firstOver L b = -1 := by
  refine firstOver_none fun x hx => ?_
  obtain ⟨j, hj, rfl⟩ := List.getElem_of_mem hx
  have := h j hj
  rwa [getD_at hj] at this

set_option maxRecDepth 100000 in
set_option maxHeartbeats 2000000 in
theorem implNext_any (v : Value) (d : PlanD) (b : Int) (w : World) (h : IsPlan w w.heap.size v d) :
    Calls Tryz.prog 153 #[v, .int .i64 b] w fun e w' => e = .returned (.int .i64 (nextL d b)) ∧ Below w.heap.size w w' := by
  have P := Lib.hid h
  obtain ⟨⟨A0, A1, A2, A3, c0, c1, c2, c3, rfl, s0, s1, s2, s3⟩, b0, b1, b2, b3⟩ := h
  clear s0 s1 s2 s3 b0 b1 b2 b3
  go_enter Tryz.func153, Tryz.ntmps153
  go_wp2_with fail
  have X1 := Own.box w (planC A0 A1 A2 A3 d.n0 c0 d.n1 c1 d.n2 c2 d.n3 c3 d.l d.p d.t) 44
  refine (implBands_any _ d _ ((P.out.below X1.K (Nat.le_refl _)).more X1.K.size)).mono ?_
  rintro e w2 ⟨v', rfl, O2, hb⟩
  have K2 := Lib.hid (X1.step hb).K
  obtain ⟨A, c, g, rfl, hA, hg, hgl, R⟩ := open_list O2
  have HA := Lib.hid hA
  have hle := bandsL_le d
  have HF := Lib.hid (show ∀ x, firstOver (bandsL d) x = nextL d x from fun _ => rfl)
  clear X1 hb O2 hA hg hgl
  generalize bandsL d = L at *
  have HR := Lib.hid R
  clear R
  go_wp2
  go_loopw [10] (fun i wr => ∃ k : Nat, k ≤ L.length ∧ i = .int .i64 k ∧ wr = w2 ∧ ∀ j, j < k → L.getD j 0 ≤ b) (fun i _ => L.length - (intOf i).toNat)
  case atStart => exact ⟨0, Nat.zero_le _, rfl, rfl, fun j hj => absurd hj (by omega)⟩
  case round =>
    obtain ⟨k, hk, rfl, rfl, hall⟩ := hrel
    have HL := Lib.hid hall
    clear hall
    by_cases hlt : k < L.length
    · obtain rfl := HA.out (by omega)
      obtain ⟨t0, f0⟩ : wr.cell? ⟨g, k, none⟩ = some (.int .i64 (L.getD k 0)) ∧ wr.frozen? ⟨g, k, none⟩ = false := HR.out k hlt
      generalize hx : L.getD k 0 = x at t0
      have HX := Lib.hid hx
      clear hx
      by_cases hb : b < x
      · go_wp2
        go_ret
        exact ⟨ret_int (by rw [← HF.out, firstOver_hit hlt HL.out (by rw [HX.out]; exact hb), HX.out]), K2.out⟩
      · go_wp2
        exact ⟨⟨k + 1, by omega, by go_num, by trivial, step_le HL.out (by rw [HX.out]; omega)⟩, by simp [intOf]; omega⟩
    · obtain rfl : k = L.length := by omega
      go_wp2
      go_ret
      exact ⟨ret_int (by rw [← HF.out, firstOver_miss HL.out]), K2.out⟩

set_option maxRecDepth 100000 in
set_option maxHeartbeats 2000000 in
theorem specNext_any (v : Value) (d : PlanD) (b : Int) (w : World) (h : IsPlan w w.heap.size v d) (hn : d.n0 ≤ 1048576) :
    Calls Tryz.prog 115 #[v, .int .i64 b] w fun e w' => e = .returned (.int .i64 (nextL d b)) ∧ Below w.heap.size w w' := by
  have P := Lib.hid h
  have HN := Lib.hid hn
  obtain ⟨⟨A0, A1, A2, A3, c0, c1, c2, c3, rfl, s0, s1, s2, s3⟩, b0, b1, b2, b3⟩ := h
  clear s0 s1 s2 s3 b0 b1 b2 b3 hn
  go_enter Tryz.func115, Tryz.ntmps115
  go_wp2_with fail
  have X1 := Own.box w (planC A0 A1 A2 A3 d.n0 c0 d.n1 c1 d.n2 c2 d.n3 c3 d.l d.p d.t) 44
  refine (specBands_any _ d _ ((P.out.below X1.K (Nat.le_refl _)).more X1.K.size) HN.out).mono ?_
  rintro e w2 ⟨v', rfl, O2, hb⟩
  have K2 := Lib.hid (X1.step hb).K
  obtain ⟨A, c, g, rfl, hA, hg, hgl, R⟩ := open_list O2
  have HA := Lib.hid hA
  have hle := bandsL_le d
  have HF := Lib.hid (show ∀ x, firstOver (bandsL d) x = nextL d x from fun _ => rfl)
  clear X1 hb O2 hA hg hgl
  generalize bandsL d = L at *
  have HR := Lib.hid R
  clear R
  go_wp2
  go_loopw [6] (fun i wr => ∃ k : Nat, k ≤ L.length ∧ i = .int .i64 k ∧ wr = w2 ∧ ∀ j, j < k → L.getD j 0 ≤ b) (fun i _ => L.length - (intOf i).toNat)
  case atStart => exact ⟨0, Nat.zero_le _, rfl, rfl, fun j hj => absurd hj (by omega)⟩
  case round =>
    obtain ⟨k, hk, rfl, rfl, hall⟩ := hrel
    have HL := Lib.hid hall
    clear hall
    by_cases hlt : k < L.length
    · obtain rfl := HA.out (by omega)
      obtain ⟨t0, f0⟩ : wr.cell? ⟨g, k, none⟩ = some (.int .i64 (L.getD k 0)) ∧ wr.frozen? ⟨g, k, none⟩ = false := HR.out k hlt
      generalize hx : L.getD k 0 = x at t0
      have HX := Lib.hid hx
      clear hx
      by_cases hb : b < x
      · go_wp2
        go_ret
        exact ⟨ret_int (by rw [← HF.out, firstOver_hit hlt HL.out (by rw [HX.out]; exact hb), HX.out]), K2.out⟩
      · go_wp2
        exact ⟨⟨k + 1, by omega, by go_num, by trivial, step_le HL.out (by rw [HX.out]; omega)⟩, by simp [intOf]; omega⟩
    · obtain rfl : k = L.length := by omega
      go_wp2
      go_ret
      exact ⟨ret_int (by rw [← HF.out, firstOver_miss HL.out]), K2.out⟩
end Go.Proofs.YtfilbodigooenaaGreatDoor
/- Lw -/
set_option linter.unusedVariables false
namespace Go.Proofs.YtfilbodigooenaaGreatDoor
open Go.RowKit

theorem fieldO_any (x : Int) (w : World) :
    Calls Tryz.prog 59 #[.int .i64 x] w fun e w' => e = .returned (.bool (inB x 0 1000000)) ∧ w = w' := by
  go_enter Tryz.func59, Tryz.ntmps59
  go_wp2_with (go_at_call 58; refine (in_any _ _ _ _).mono ?_; rintro e w' ⟨rfl, rfl⟩)
  go_ret
  exact ⟨rfl, rfl⟩
def argsN (k : Int) : Int := if k = 3 ∨ k = 6 ∨ k = 7 ∨ k = 8 ∨ k = 9 ∨ k = 12 ∨ k = 13 then 1 else if k = 10 then 2 else 0
def orderOkB (k a b : Int) : Bool := inB k 1 13 && inB a 0 1000000 && inB b 0 1000000 && !(decide (argsN k < 1) && a != 0 || decide (argsN k < 2) && b != 0) && (k != 13 || decide (a ≤ 1))
abbrev ordC (k a b : Int) : Array Value := #[.int .i64 k, .int .i64 a, .int .i64 b]

set_option maxHeartbeats 4000000 in
theorem l13Args_any (k : Int) (w : World) : Calls Tryz.prog 61 #[.int .i64 k] w fun e w' => e = .returned (.int .i64 (argsN k)) ∧ w = w' := by
  have HH : Hid (argsN k = if k = 3 ∨ k = 6 ∨ k = 7 ∨ k = 8 ∨ k = 9 ∨ k = 12 ∨ k = 13 then 1 else if k = 10 then 2 else 0) := Lib.hid rfl
  by_cases e3 : k = 3
  · subst e3
    go_enter Tryz.func61, Tryz.ntmps61
    go_wp2
    all_goals (go_ret; exact ⟨by rw [HH.out]; rfl, rfl⟩)
  · have E3 := Lib.hid e3
    by_cases e6 : k = 6
    · subst e6
      go_enter Tryz.func61, Tryz.ntmps61
      go_wp2
      all_goals (go_ret; exact ⟨by rw [HH.out]; rfl, rfl⟩)
    · have E6 := Lib.hid e6
      by_cases e7 : k = 7
      · subst e7
        go_enter Tryz.func61, Tryz.ntmps61
        go_wp2
        all_goals (go_ret; exact ⟨by rw [HH.out]; rfl, rfl⟩)
      · have E7 := Lib.hid e7
        by_cases e8 : k = 8
        · subst e8
          go_enter Tryz.func61, Tryz.ntmps61
          go_wp2
          all_goals (go_ret; exact ⟨by rw [HH.out]; rfl, rfl⟩)
        · have E8 := Lib.hid e8
          by_cases e9 : k = 9
          · subst e9
            go_enter Tryz.func61, Tryz.ntmps61
            go_wp2
            all_goals (go_ret; exact ⟨by rw [HH.out]; rfl, rfl⟩)
          · have E9 := Lib.hid e9
            by_cases e12 : k = 12
            · subst e12
              go_enter Tryz.func61, Tryz.ntmps61
              go_wp2
              all_goals (go_ret; exact ⟨by rw [HH.out]; rfl, rfl⟩)
            · have E12 := Lib.hid e12
              by_cases e13 : k = 13
              · subst e13
                go_enter Tryz.func61, Tryz.ntmps61
                go_wp2
                all_goals (go_ret; exact ⟨by rw [HH.out]; rfl, rfl⟩)
              · have E13 := Lib.hid e13
                by_cases e10 : k = 10
                · subst e10
                  go_enter Tryz.func61, Tryz.ntmps61
                  go_wp2
                  all_goals (go_ret; exact ⟨by rw [HH.out]; rfl, rfl⟩)
                · have E10 := Lib.hid e10
                  go_enter Tryz.func61, Tryz.ntmps61
                  go_wp2
                  all_goals (go_ret; exact ⟨by rw [HH.out]; simp [E3.out, E6.out, E7.out, E8.out, E9.out, E12.out, E13.out, E10.out], rfl⟩)
theorem argsN_cases (k : Int) : argsN k = 0 ∨ argsN k = 1 ∨ argsN k = 2 := by
  unfold argsN
  split
  · simp
  · split <;> simp
set_option maxRecDepth 4000 in
set_option maxHeartbeats 8000000 in
theorem orderOk_any (k a b : Int) (w : World) : Calls Tryz.prog 26 #[.agg (ordC k a b)] w fun e w' => e = .returned (.bool (orderOkB k a b)) ∧ Below w.heap.size w w' := by
  obtain ⟨ans, hans⟩ : ∃ ans, orderOkB k a b = ans := ⟨_, rfl⟩
  rw [hans]
  have hn := argsN_cases k
  unfold orderOkB at hans
  generalize hN : argsN k = n at hans hn
  have HN := Lib.hid hN
  have HANS := Lib.hid hans
  clear hans hN
  have K := (Below.refl w.heap.size w).alloc (Nat.le_refl _) (.cells (ordC k a b) 51)
  go_enter Tryz.func26, Tryz.ntmps26
  go_wp2_with fail
  refine (in_any _ _ _ _).mono ?_
  rintro e w1 ⟨rfl, rfl⟩
  cases h1 : inB k 1 13
  · have H1 := Lib.hid h1
    clear h1
    go_wp2
    all_goals (go_ret; exact ⟨ret_bool (by rw [← HANS.out, H1.out]; simp), K⟩)
  · have H1 := Lib.hid h1
    clear h1
    go_wp2_with fail
    refine (fieldO_any _ _).mono ?_
    rintro e w1 ⟨rfl, rfl⟩
    cases h2 : inB a 0 1000000
    · have H2 := Lib.hid h2
      clear h2
      go_wp2
      all_goals (go_ret; exact ⟨ret_bool (by rw [← HANS.out, H2.out]; simp), K⟩)
    · have H2 := Lib.hid h2
      clear h2
      go_wp2_with fail
      refine (fieldO_any _ _).mono ?_
      rintro e w1 ⟨rfl, rfl⟩
      cases h3 : inB b 0 1000000
      · have H3 := Lib.hid h3
        clear h3
        go_wp2
        all_goals (go_ret; exact ⟨ret_bool (by rw [← HANS.out, H3.out]; simp), K⟩)
      · have H3 := Lib.hid h3
        clear h3
        have HANS2 : Hid (ans = (!(decide (n < 1) && a != 0 || decide (n < 2) && b != 0) && (k != 13 || decide (a ≤ 1)))) := Lib.hid (by rw [← HANS.out, H1.out, H2.out, H3.out]; simp)
        clear HANS H1 H2 H3
        go_wp2_with fail
        refine (l13Args_any _ _).mono ?_
        rw [HN.out]
        rintro e w1 ⟨rfl, rfl⟩
        clear HN
        cases h13 : (k != 13)
        all_goals cases ha : (a != 0)
        all_goals cases hb : (b != 0)
        all_goals by_cases hle : a ≤ 1
        all_goals
          have G13 := Lib.hid h13
          have GA := Lib.hid ha
          have GB := Lib.hid hb
          have GL := Lib.hid hle
          rcases hn with rfl | rfl | rfl
        all_goals
          go_wp2
          all_goals (go_ret; exact ⟨ret_bool (by rw [HANS2.out, G13.out, GA.out, GB.out]; have := GL.out; simp; try omega), K⟩)

end Go.Proofs.YtfilbodigooenaaGreatDoor
/- Ka -/
set_option linter.unusedVariables false
namespace Go.Proofs.YtfilbodigooenaaGreatDoor
open Go.RowKit

def stepD (hook grace st sp : Int) : Int := if st = 0 then (if 0 < hook then 1 else 2) else if st = 1 then (if hook ≤ sp then 2 else 1) else if st = 2 then (if grace ≤ sp then 3 else 2) else if st = 3 then 4 else st
def hookD (x : Int) : Int := if x = 1 then 2 else -1
def exitD (x : Int) : Int := if x = 0 ∨ x = 1 then 5 else if x = 2 ∨ x = 3 then 4 else -1

set_option maxHeartbeats 1000000 in
theorem implHook_any (x : Int) (w : World) : Calls Tryz.prog 141 #[.int .i64 x] w fun e w' => e = .returned (.int .i64 (hookD x)) ∧ w = w' := by
  have HH : Hid (hookD x = if x = 1 then 2 else -1) := Lib.hid rfl
  by_cases h1 : x = 1
  · subst h1
    go_enter Tryz.func141, Tryz.ntmps141
    go_wp2
    all_goals (go_ret; exact ⟨by rw [HH.out]; simp [*], rfl⟩)
  · skip
    go_enter Tryz.func141, Tryz.ntmps141
    go_wp2
    all_goals (go_ret; exact ⟨by rw [HH.out]; simp [*], rfl⟩)

set_option maxHeartbeats 1000000 in
theorem implExit_any (x : Int) (w : World) : Calls Tryz.prog 142 #[.int .i64 x] w fun e w' => e = .returned (.int .i64 (exitD x)) ∧ w = w' := by
  have HH : Hid (exitD x = if x = 0 ∨ x = 1 then 5 else if x = 2 ∨ x = 3 then 4 else -1) := Lib.hid rfl
  by_cases h0 : x = 0
  · subst h0
    go_enter Tryz.func142, Tryz.ntmps142
    go_wp2
    all_goals (go_ret; exact ⟨by rw [HH.out]; simp [*], rfl⟩)
  · skip
    by_cases h1 : x = 1
    · subst h1
      go_enter Tryz.func142, Tryz.ntmps142
      go_wp2
      all_goals (go_ret; exact ⟨by rw [HH.out]; simp [*], rfl⟩)
    · skip
      by_cases h2 : x = 2
      · subst h2
        go_enter Tryz.func142, Tryz.ntmps142
        go_wp2
        all_goals (go_ret; exact ⟨by rw [HH.out]; simp [*], rfl⟩)
      · skip
        by_cases h3 : x = 3
        · subst h3
          go_enter Tryz.func142, Tryz.ntmps142
          go_wp2
          all_goals (go_ret; exact ⟨by rw [HH.out]; simp [*], rfl⟩)
        · skip
          go_enter Tryz.func142, Tryz.ntmps142
          go_wp2
          all_goals (go_ret; exact ⟨by rw [HH.out]; simp [*], rfl⟩)

set_option maxHeartbeats 2000000 in
theorem implStep_any (gr ba grace hook st since clock : Int) (w : World) :
    Calls Tryz.prog 154 #[.agg #[.int .i64 gr, .int .i64 ba, .int .i64 grace, .int .i64 hook], .agg #[.int .i64 st, .int .i64 since], .int .i64 clock] w fun e w' =>
      e = .returned (.int .i64 (stepD hook grace st (wrap64 (clock - since)))) ∧ Below w.heap.size w w' := by
  have HH : ∀ sp, Hid (stepD hook grace st sp = if st = 0 then (if 0 < hook then 1 else 2) else if st = 1 then (if hook ≤ sp then 2 else 1) else if st = 2 then (if grace ≤ sp then 3 else 2) else if st = 3 then 4 else st) := fun _ => Lib.hid rfl
  replace HH := HH (wrap64 (clock - since))
  generalize stepD hook grace st (wrap64 (clock - since)) = ans at HH
  have K2 : Below w.heap.size w ((w.alloc (.cells #[.int .i64 gr, .int .i64 ba, .int .i64 grace, .int .i64 hook] 111)).alloc (.cells #[.int .i64 st, .int .i64 since] 123)) := ((Below.refl _ _).alloc (Nat.le_refl _) _).alloc (by simp) _
  by_cases e0 : st = 0
  · subst e0
    by_cases e1 : 0 < hook
    · skip
      go_enter Tryz.func154, Tryz.ntmps154
      go_wp2
      all_goals (go_ret; exact ⟨by rw [HH.out]; simp [*], K2⟩)
    · skip
      go_enter Tryz.func154, Tryz.ntmps154
      go_wp2
      all_goals (go_ret; exact ⟨by rw [HH.out]; simp [*], K2⟩)
  · by_cases e1 : st = 1
    · subst e1
      by_cases e2 : hook ≤ wrap64 (clock - since)
      · skip
        go_enter Tryz.func154, Tryz.ntmps154
        go_wp2
        all_goals (go_ret; exact ⟨by rw [HH.out]; simp [*], K2⟩)
      · skip
        go_enter Tryz.func154, Tryz.ntmps154
        go_wp2
        all_goals (go_ret; exact ⟨by rw [HH.out]; simp [*], K2⟩)
    · by_cases e2 : st = 2
      · subst e2
        by_cases e3 : grace ≤ wrap64 (clock - since)
        · skip
          go_enter Tryz.func154, Tryz.ntmps154
          go_wp2
          all_goals (go_ret; exact ⟨by rw [HH.out]; simp [*], K2⟩)
        · skip
          go_enter Tryz.func154, Tryz.ntmps154
          go_wp2
          all_goals (go_ret; exact ⟨by rw [HH.out]; simp [*], K2⟩)
      · by_cases e3 : st = 3
        · subst e3
          go_enter Tryz.func154, Tryz.ntmps154
          go_wp2
          all_goals (go_ret; exact ⟨by rw [HH.out]; simp [*], K2⟩)
        · skip
          go_enter Tryz.func154, Tryz.ntmps154
          go_wp2
          all_goals (go_ret; exact ⟨by rw [HH.out]; simp [*], K2⟩)
end Go.Proofs.YtfilbodigooenaaGreatDoor
