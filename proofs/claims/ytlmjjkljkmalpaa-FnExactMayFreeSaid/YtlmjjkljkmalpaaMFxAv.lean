/-
  Rows of cells of whatever kind: read below a block; writable; a copy under way; the call's own.
-/
import Derived.Test.YtlmjjkljkmalpaaMFxA1
/- Av -/
set_option linter.unusedVariables false
namespace Go.Proofs.Ytlmjjkljkmalpaa
open Go.RowKit

/-- The slice value with address A and n elements of k cells each holds the cells xs, below block B. -/
structure SlV (w : World) (B k : Nat) (A : Option Addr) (n : Nat) (xs : List Value) : Prop where
  len : xs.length = n * k
  it : 0 < n → ∃ b off, A = some ⟨b, off, none⟩ ∧ b < B ∧ ∀ j, j < n * k → w.cell? ⟨b, off + j, none⟩ = xs[j]?
theorem SlV.below {w w' : World} {B B' k n : Nat} {A : Option Addr} {xs : List Value} (h : SlV w B k A n xs) (hb : Below B' w w') (hB : B ≤ B') : SlV w' B k A n xs := ⟨h.len, fun hn => by
  obtain ⟨b, off, rfl, hlt, hc⟩ := h.it hn
  exact ⟨b, off, rfl, hlt, fun j hj => (hb.cell (p := ⟨b, off + j, none⟩) (by show b < B'; omega)).trans (hc j hj)⟩⟩
theorem SlV.more {w : World} {B B' k n : Nat} {A : Option Addr} {xs : List Value} (h : SlV w B k A n xs) (hB : B ≤ B') : SlV w B' k A n xs := ⟨h.len, fun hn => by
  obtain ⟨b, off, rfl, hlt, hc⟩ := h.it hn
  exact ⟨b, off, rfl, by omega, hc⟩⟩
theorem SlV.go {w w' : World} {k n : Nat} {A : Option Addr} {xs : List Value} (h : SlV w w.heap.size k A n xs) (hb : Below w.heap.size w w') : SlV w' w'.heap.size k A n xs := (h.below hb (Nat.le_refl _)).more hb.size
theorem SlV.cell {w : World} {B k n : Nat} {A : Option Addr} {xs : List Value} (h : SlV w B k A n xs) {i : Nat} (hi : i < n) :
    ∃ b off, A = some ⟨b, off, none⟩ ∧ b < B ∧ ∀ j, j < k → w.cell? ⟨b, off + i * k + j, none⟩ = xs[i * k + j]? := by
  obtain ⟨b, off, rfl, hb, hc⟩ := h.it (by omega)
  refine ⟨b, off, rfl, hb, fun j hj => ?_⟩
  have h1 : (i + 1) * k ≤ n * k := Nat.mul_le_mul_right k hi
  have h2 : (i + 1) * k = i * k + k := by rw [Nat.add_mul, Nat.one_mul]
  rw [Nat.add_assoc]
  exact hc _ (by omega)
theorem SlV.nil (w : World) (B k : Nat) (A : Option Addr) : SlV w B k A 0 [] := ⟨by simp, fun h => absurd h (by omega)⟩

/-- Block g holds the cells xs, all writable. -/
def RowV (w : World) (g : Nat) (xs : List Value) : Prop := ∀ j, j < xs.length → w.cell? ⟨g, j, none⟩ = xs[j]? ∧ w.frozen? ⟨g, j, none⟩ = false
theorem RowV.set {w : World} {g : Nat} {xs : List Value} (h : RowV w g xs) {i : Nat} (hi : i < xs.length) (u : Value) : RowV (w.setCell ⟨g, i, none⟩ u) g (xs.set i u) := fun j hj => by
  rw [List.length_set] at hj
  refine ⟨?_, by rw [World.frozen?_setCell]; exact (h j hj).2⟩
  by_cases e : j = i
  · subst e
    rw [World.cell?_setCell_same _ _ _ ((h j hj).1.trans (List.getElem?_eq_getElem hj)), List.getElem?_set_self hj]
  · rw [World.cell?_setCell_other _ _ _ _ (fun he => e (by injection he with _ h2 _; exact h2.symm)), List.getElem?_set_ne (fun he => e he.symm)]
    exact (h j hj).1
theorem RowV.below {w w' : World} {B g : Nat} {xs : List Value} (h : RowV w g xs) (hb : Below B w w') (hg : g < B) : RowV w' g xs := fun j hj =>
  ⟨(hb.cell (p := ⟨g, j, none⟩) hg).trans (h j hj).1, (hb.frozen (p := ⟨g, j, none⟩) hg).trans (h j hj).2⟩
theorem RowV.go {w w' : World} {g : Nat} {xs : List Value} (h : RowV w g xs) (hg : 0 < xs.length → g < w.heap.size) (hb : Below w.heap.size w w') : RowV w' g xs := fun j hj => RowV.below h hb (hg (by omega)) j hj
theorem RowV.far {w : World} {g : Nat} {xs : List Value} (h : RowV w g xs) {p : Addr} (hne : p.block ≠ g) (v : Value) : RowV (w.setCell p v) g xs := fun j hj =>
  ⟨(World.cell?_setCell_other _ _ _ _ (fun e => hne (by rw [e]))).trans (h j hj).1, by rw [World.frozen?_setCell]; exact (h j hj).2⟩
theorem RowV.slv {w : World} {g B k n : Nat} {xs : List Value} (h : RowV w g xs) (hl : xs.length = n * k) (hg : g < B) : SlV w B k (some ⟨g, 0, none⟩) n xs :=
  ⟨hl, fun _ => ⟨g, 0, rfl, hg, fun j hj => by rw [Nat.zero_add]; exact (h j (by omega)).1⟩⟩
/-- A row of the call's own, opened. -/
theorem open_row {w : World} {B e k n : Nat} {v : Value} {xs : List Value} (h : w.ownsRow B e k v n xs) :
    ∃ A c g, v = .slice A n c ∧ (0 < n → A = some ⟨g, 0, none⟩) ∧ n ≤ c ∧ B ≤ g ∧ (0 < n → g < w.heap.size) ∧ RowV w g xs ∧ SlV w w.heap.size k A n xs ∧ n ≤ maxLen := by
  have hl := h.1
  rcases h.2 with ⟨rfl, h0⟩ | ⟨g, cap, cur, rfl, hb, hh, hnc, hcm, hsz, ht⟩
  · subst h0
    have : xs = [] := List.eq_nil_of_length_eq_zero (by omega)
    subst this
    exact ⟨none, 0, B, rfl, fun h => by omega, Nat.le_refl _, Nat.le_refl _, fun h => by omega, fun j hj => by simp at hj, SlV.nil _ _ _ _, Nat.zero_le _⟩
  · have hg : g < w.heap.size := (Array.getElem?_eq_some_iff.1 hh).1
    have R : RowV w g xs := fun j hj => ⟨by
      have := h.cells (g := g) rfl j _ (List.getElem?_eq_getElem hj)
      rw [add_zero_block] at this
      rw [this, List.getElem?_eq_getElem hj], frozen_of_row _ _ _ _ _ hh⟩
    exact ⟨_, cap, g, rfl, fun _ => rfl, hnc, hb, fun _ => hg, R, R.slv hl hg, Nat.le_trans hnc hcm⟩

/-- What a maker of a new list of n elements answers. -/
def MadeV (w : World) (n : Nat) (xs : List Value) (e : Ending) (w' : World) : Prop :=
  ∃ g, e = .returned (.slice (some ⟨g, 0, none⟩) n n) ∧ w.heap.size ≤ g ∧ g < w'.heap.size ∧ RowV w' g xs ∧ Below w.heap.size w w'
/-- A copy under way: the first m cells are as xs. -/
structure CopyV (w wr : World) (m : Nat) (xs : List Value) : Prop where
  K : Below w.heap.size w wr
  z : w.heap.size < wr.heap.size
  R : ∃ ys, ys.length = xs.length ∧ RowV wr w.heap.size ys ∧ ∀ j, j < m → ys[j]? = xs[j]?
theorem CopyV.step {w w1 w2 : World} {m : Nat} {xs : List Value} (h : CopyV w w1 m xs) (hb : Below w1.heap.size w1 w2) : CopyV w w2 m xs := by
  obtain ⟨K, z, ys, hl, R, e⟩ := h
  exact ⟨K.trans (hb.mono K.size), Nat.lt_of_lt_of_le z hb.size, ys, hl, R.below hb z, e⟩
theorem CopyV.set {w w1 : World} {m : Nat} {xs : List Value} {u : Value} (h : CopyV w w1 m xs) (hu : xs[m]? = some u) : CopyV w (w1.setCell ⟨w.heap.size, m, none⟩ u) (m + 1) xs := by
  obtain ⟨K, z, ys, hl, R, e⟩ := h
  have hm : m < xs.length := (List.getElem?_eq_some_iff.1 hu).1
  refine ⟨K.setCell (Nat.le_refl _) _, by simpa [World.setCell] using z, _, by rw [List.length_set]; exact hl, R.set (by omega) u, fun j hj => ?_⟩
  by_cases h : j = m
  · subst h
    rw [List.getElem?_set_self (by omega), hu]
  · rw [List.getElem?_set_ne (fun he => h he.symm)]
    exact e j (by omega)
theorem CopyV.at_ {w w1 : World} {m : Nat} {xs : List Value} (h : CopyV w w1 m xs) {j : Nat} (hj : j < xs.length) : ∃ v, w1.cell? ⟨w.heap.size, j, none⟩ = some v ∧ w1.frozen? ⟨w.heap.size, j, none⟩ = false := by
  obtain ⟨K, z, ys, hl, R, e⟩ := h
  have := R j (by omega)
  exact ⟨_, this.1.trans (List.getElem?_eq_getElem (by omega)), this.2⟩
theorem CopyV.made {w w1 : World} {n m : Nat} {xs : List Value} (h : CopyV w w1 m xs) (hm : xs.length ≤ m) : MadeV w n xs (.returned (.slice (some ⟨w.heap.size, 0, none⟩) n n)) w1 := by
  obtain ⟨K, z, ys, hl, R, e⟩ := h
  have : ys = xs := List.ext_getElem? fun j => by
    by_cases hj : j < m
    · exact e j hj
    · rw [List.getElem?_eq_none (by omega), List.getElem?_eq_none (by omega)]
  subst this
  exact ⟨_, rfl, Nat.le_refl _, z, R, K⟩
theorem CopyV.start {w w1 : World} {base e n k : Nat} {ys xs : List Value} (h : w1.ownsRow base e k (.slice (some ⟨w.heap.size, 0, none⟩) n n) n ys) (hg : w.grownBy w1 none) (hl : xs.length = n * k) : CopyV w w1 0 xs := by
  have h1 := h.1
  refine ⟨(Below.refl _ _).grown hg (Nat.le_refl _) (fun k hk => by cases hk), ?_, ys, by omega, ?_, fun j hj => absurd hj (by omega)⟩
  · rcases h.2 with ⟨h, _⟩ | ⟨g, cap, cur, hv, hb, hh, _⟩
    · cases h
    · injection hv with hv _ _
      injection hv with hv
      injection hv with hv _ _
      rw [hv]
      exact (Array.getElem?_eq_some_iff.1 hh).1
  · intro j hj
    rcases h.2 with ⟨h, _⟩ | ⟨g, cap, cur, hv, hb, hh, _⟩
    · cases h
    · injection hv with hv _ _
      injection hv with hv
      injection hv with hv _ _
      subst hv
      have := h.cells (g := w.heap.size) rfl j _ (List.getElem?_eq_getElem hj)
      rw [add_zero_block] at this
      exact ⟨by rw [this, List.getElem?_eq_getElem hj], frozen_of_row _ _ _ _ _ hh⟩
end Go.Proofs.Ytlmjjkljkmalpaa
