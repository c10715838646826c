/-
  The laws' own small functions on bytes and records: sizes, copies, comparisons, marks.
-/
import Derived.Test.YtcpmkbemkhacnaaBa
import Derived.BigQuiet
import Derived.Deep.QuietTactic
import Derived.Deep.RegionHeld3
set_option linter.unusedVariables false
namespace Go.Proofs.Ytcpmkbemkhacnaa
open Go.RowKit

/-- Block g holds bytes, x 0, x 1, .. x (N-1), all writable. -/
def RowU (w : World) (g N : Nat) (x : Nat → Int) : Prop := ∀ j, j < N → w.cell? ⟨g, j, none⟩ = some (.int .u8 (x j)) ∧ w.frozen? ⟨g, j, none⟩ = false
theorem RowU.set {w : World} {g N : Nat} {x : Nat → Int} (h : RowU w g N x) {i : Nat} (v : Int) : RowU (w.setCell ⟨g, i, none⟩ (.int .u8 v)) g N (fun j => if j = i then v else x j) := fun j hj => by
  refine ⟨?_, by rw [World.frozen?_setCell]; exact (h j hj).2⟩
  by_cases e : j = i
  · subst e
    show _ = some (Value.int _ (if j = j then v else x j))
    rw [if_pos rfl]
    exact World.cell?_setCell_same _ _ _ (h j hj).1
  · show _ = some (Value.int _ (if j = i then v else x j))
    rw [if_neg e, World.cell?_setCell_other _ _ _ _ (fun he => e (by injection he with _ h2 _; exact h2.symm))]
    exact (h j hj).1
theorem RowU.below {w w' : World} {B g N : Nat} {x : Nat → Int} (h : RowU w g N x) (hb : Below B w w') (hg : g < B) : RowU w' g N x := fun j hj =>
  ⟨(hb.cell (p := ⟨g, j, none⟩) hg).trans (h j hj).1, (hb.frozen (p := ⟨g, j, none⟩) hg).trans (h j hj).2⟩
theorem RowU.congr {w : World} {g N : Nat} {x y : Nat → Int} (h : RowU w g N x) (e : ∀ j, j < N → x j = y j) : RowU w g N y := fun j hj => by rw [← e j hj]; exact h j hj
theorem RowU.go {w w' : World} {g n : Nat} {x : Nat → Int} (R : RowU w g n x) (hg : 0 < n → g < w.heap.size) (hb : Below w.heap.size w w') : RowU w' g n x := fun j hj => R.below hb (hg (by omega)) j hj

theorem Made.rt {w w' : World} {n : Nat} {x : Nat → Int} {e : Ending} (h : Made w (n * 3) n x e w') (hn : n ≤ maxLen) : ∃ g, e = .returned (.slice (some ⟨g, 0, none⟩) n n) ∧ w.heap.size ≤ g ∧ g < w'.heap.size ∧ RowF w' g (n * 3) x ∧
    Rt w' w'.heap.size (.slice (some ⟨g, 0, none⟩) n n) (recsFrom n x) ∧ Below w.heap.size w w' := by
  obtain ⟨g, he, hg, hlt, R, K⟩ := h
  refine ⟨g, he, hg, hlt, R, ⟨⟨some ⟨g, 0, none⟩, n, by rw [recsFrom_length], ?_⟩, by rw [recsFrom_length]; exact hn⟩, K⟩
  rw [recsFrom_length]
  exact fun _ => ⟨g, 0, rfl, hlt, fun j hj => by rw [Nat.zero_add, cellR_from hj]; exact (R j hj).1⟩

set_option maxRecDepth 100000 in
set_option maxHeartbeats 1000000 in
theorem eqByteS_same (v v' : Value) (L : List Nat) (w : World) (h : Bt w w.heap.size v L) (h' : Bt w w.heap.size v' L) :
    Calls Try.prog 7 #[v, v'] w fun e w' => e = .returned (.bool true) ∧ Below w.heap.size w w' := by
  have H := Lib.hid h
  have H' := Lib.hid h'
  obtain ⟨⟨A, c, rfl, -, -⟩, hl, -⟩ := h
  obtain ⟨⟨A', c', rfl, -, -⟩, -, -⟩ := h'
  have hl' : L.length ≤ 2 ^ 63 - 1 := by unfold maxLen at hl; omega
  clear hl
  generalize hq : L.length = n at *
  have HQ := Lib.hid hq
  clear hq
  go_enter Try.func7, Try.ntmps7
  go_wp2
  go_loopw [5] (fun i wr => ∃ k : Nat, k ≤ n ∧ i = .int .i64 k ∧ Below w.heap.size w wr) (fun i _ => n - (intOf i).toNat)
  case atStart => exact ⟨0, Nat.zero_le _, rfl, Below.refl _ _⟩
  case round =>
    obtain ⟨k, hk, rfl, K⟩ := hrel
    by_cases hlt : k < n
    · obtain ⟨b, off, rfl, hb, q0⟩ := (H.out.below K (Nat.le_refl _)).cell (k := k) (by rw [HQ.out]; exact hlt)
      obtain ⟨b', off', rfl, hb', r0⟩ := (H'.out.below K (Nat.le_refl _)).cell (k := k) (by rw [HQ.out]; exact hlt)
      generalize L.getD k 0 = z at *
      go_wp2_with fail
      go_quiet (fail)
      go_wp2
      exact ⟨⟨k + 1, by omega, by go_num, below_drewN K _⟩, by simp [intOf]; omega⟩
    · obtain rfl : k = n := by omega
      go_wp2
      go_ret
      exact ⟨rfl, K⟩
/-- What a mark leaves in a byte. -/
def markU (k0 : Int) (j : Nat) : Int := IntKind.u8.wrap (k0 + j)
/-- A copy of bytes, made anew. -/
def MadeB (w : World) (L : List Nat) (e : Ending) (w' : World) : Prop :=
  ∃ g, e = .returned (.slice (some ⟨g, 0, none⟩) L.length L.length) ∧ w.heap.size ≤ g ∧ g < w'.heap.size ∧ RowU w' g L.length (fun j => (L.getD j 0 : Nat)) ∧ Bt w' w'.heap.size (.slice (some ⟨g, 0, none⟩) L.length L.length) L ∧ Below w.heap.size w w'
theorem made_rowU {w : World} {base e n : Nat} {g : Nat} (h : w.ownsRow base e 1 (.slice (some ⟨g, 0, none⟩) n n) n (madeCells #[.int .u8 0] (n * 1)).toList) : RowU w g n (fun _ => 0) := fun j hj => by
  refine ⟨?_, ?_⟩
  · have := h.cells (g := g) rfl j (.int .u8 0) (by simp [madeCells, hj, Nat.mod_one])
    rwa [add_zero_block] at this
  · rcases h.2 with ⟨h1, _⟩ | ⟨g', cap, cur, h1, _, h2, _⟩
    · cases h1
    · injection h1 with h1 _ _
      injection h1 with h1
      injection h1 with h1 _ _
      subst h1
      exact frozen_of_row _ _ _ _ _ h2
set_option maxHeartbeats 1000000 in
theorem toByteS_any (v : Value) (L : List Nat) (w : World) (h : Bt w w.heap.size v L) (hn : L.length ≤ 1048576) :
    Calls Try.prog 5 #[v] w (MadeB w L) := by
  have H := Lib.hid h
  obtain ⟨⟨A, c, rfl, -, -⟩, -, hs⟩ := h
  have HS := Lib.hid hs
  clear hs
  obtain ⟨i0, hi, hz0, hz1, hz2⟩ := info_parts info_u8
  generalize hq : L.length = n at *
  have HQ := Lib.hid hq
  have HN := Lib.hid hn
  have hn' : n ≤ 2 ^ 63 - 1 := by omega
  clear hn hq
  go_enter Try.func5, Try.ntmps5
  go_wp2_with (at_make; refine wpList_make_full _ rfl _ _ 22 rfl w.heap.size 5 i0 (.int .u8 0) 1 Try.underlying22 hi hz0 hz1 _ _ _ _ n rfl rfl rfl rfl ?b2 ?b3 (Nat.le_refl _) ?_)
  case b2 => have := HN.out; rw [hz2]; omega
  case b3 => have := HN.out; unfold maxLen; omega
  intro w1 hown hgrow
  have K1 : Below w.heap.size w w1 := (Below.refl _ _).grown hgrow (Nat.le_refl _) (fun k hk => by cases hk)
  have hz1 : w.heap.size < w1.heap.size := (hown.lt _ rfl).2
  have R1 := made_rowU (by rw [Nat.mul_one]; exact hown)
  clear hown hgrow hz0 hz2 hi
  go_wp2
  go_loopw [4] (fun i wr => ∃ k : Nat, k ≤ n ∧ i = .int .i64 k ∧ Below w.heap.size w wr ∧ w.heap.size < wr.heap.size ∧ RowU wr w.heap.size n (fun j => if j < k then (L.getD j 0 : Nat) else 0)) (fun i _ => n - (intOf i).toNat)
  case atStart => exact ⟨0, Nat.zero_le _, rfl, K1, hz1, R1.congr fun j _ => by simp⟩
  case round =>
    clear K1 hz1 R1
    obtain ⟨k, hk, rfl, K, hz, R⟩ := hrel
    have HR := Lib.hid R
    by_cases hlt : k < n
    · obtain ⟨b, off, rfl, hb, q0⟩ := (H.out.below K (Nat.le_refl _)).cell (k := k) (by rw [HQ.out]; exact hlt)
      obtain ⟨t0, f0⟩ := R k hlt
      clear R
      generalize hzz : L.getD k 0 = z at *
      have HZ := Lib.hid hzz
      clear hzz
      go_wp2
      refine ⟨⟨k + 1, by omega, by go_num, K.setCell (Nat.le_refl _) _, by simpa [World.setCell] using hz, ?_⟩, by simp [intOf]; omega⟩
      refine (HR.out.set (i := k) (z : Int)).congr fun j hj => ?_
      by_cases e : j = k
      · subst e; rw [if_pos rfl, if_pos (by omega), HZ.out]
      · rw [if_neg e]
        by_cases e' : j < k
        · rw [if_pos e', if_pos (by omega)]
        · rw [if_neg e', if_neg (by omega)]
    · obtain rfl : k = n := by omega
      have R2 : RowU wr w.heap.size L.length (fun j => (L.getD j 0 : Nat)) := by rw [HQ.out]; exact HR.out.congr fun j hj => if_pos hj
      have HR2 := Lib.hid R2
      have hnm : k ≤ maxLen := by unfold maxLen; omega
      clear R R2 HR
      go_wp2
      go_ret
      refine ⟨w.heap.size, by rw [HQ.out]; rfl, Nat.le_refl _, hz, HR2.out, ⟨⟨_, L.length, rfl, Nat.le_refl _, fun _ => ⟨w.heap.size, 0, rfl, hz, fun j hj => by rw [Nat.zero_add]; exact (HR2.out j hj).1⟩⟩, by rw [HQ.out]; exact hnm, HS.out⟩, K⟩
end Go.Proofs.Ytcpmkbemkhacnaa
