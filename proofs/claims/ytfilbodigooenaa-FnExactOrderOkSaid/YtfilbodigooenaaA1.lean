/-
  Worlds: what lies where, what is the call's own, what has turned and what has not; lists of the call's own.
-/
import Derived.Test.YtfilbodigooenaaA0
import Derived.Deep.Draws
import Derived.Deep.QuietTactic
import Derived.BigQuiet
import Derived.WalkSmall
import Derived.Lib.Hide
set_option linter.unusedVariables false
namespace Go.Proofs.Ytfilbodigooenaa
open Go.RowKit

/-- The slice value with address A and length n holds x 0, x 1, .. (k cells an element), below block B. -/
def Sl (w : World) (B k : Nat) (A : Option Addr) (n : Nat) (x : Nat → Int) : Prop :=
  0 < n → ∃ b off, A = some ⟨b, off, none⟩ ∧ b < B ∧ ∀ j, j < n * k → w.cell? ⟨b, off + j, none⟩ = some (.int .i64 (x j))
theorem Sl.below {w w' : World} {B B' k n : Nat} {A : Option Addr} {x : Nat → Int} (h : Sl w B k A n x) (hb : Below B' w w') (hB : B ≤ B') : Sl w' B k A n x := fun hn => by
  obtain ⟨b, off, rfl, hlt, hc⟩ := h hn
  exact ⟨b, off, rfl, hlt, fun j hj => (hb.cell (p := ⟨b, off + j, none⟩) (by show b < B'; omega)).trans (hc j hj)⟩
theorem Sl.more {w : World} {B B' k n : Nat} {A : Option Addr} {x : Nat → Int} (h : Sl w B k A n x) (hB : B ≤ B') : Sl w B' k A n x := fun hn => by
  obtain ⟨b, off, rfl, hlt, hc⟩ := h hn
  exact ⟨b, off, rfl, by omega, hc⟩
theorem bcell {B : Nat} {W w1 : World} (hb : Below B W w1) : (∀ b o, b < B → w1.cell? ⟨b, o, none⟩ = W.cell? ⟨b, o, none⟩) ∧ (∀ b o, b < B → w1.frozen? ⟨b, o, none⟩ = W.frozen? ⟨b, o, none⟩) :=
  ⟨fun b o h => hb.cell (p := ⟨b, o, none⟩) h, fun b o h => hb.frozen (p := ⟨b, o, none⟩) h⟩
/-- Of the worlds w (when a call began) and w1 (now): below w nothing has turned; block g holds just cs, all writable. -/
structure Own (w w1 : World) (g : Nat) (cs : Array Value) : Prop where
  K : Below w.heap.size w w1
  z : g < w1.heap.size
  C : ∀ o, w1.cell? ⟨g, o, none⟩ = cs[o]?
  F : ∀ o, w1.frozen? ⟨g, o, none⟩ = false
theorem cell_new (w : World) (cs : Array Value) (t : TypeId) (o : Nat) : (w.alloc (.cells cs t)).cell? ⟨w.heap.size, o, none⟩ = cs[o]? :=
  cell_of_row _ _ _ _ _ _ (heap_alloc_new w _)
theorem Own.box2 {w w1 : World} (K : Below w.heap.size w w1) (cs : Array Value) (t : TypeId) : Own w (w1.alloc (.cells cs t)) w1.heap.size cs :=
  ⟨K.alloc K.size _, by simp, cell_new w1 cs t, fun o => frozen_of_row _ _ _ _ _ (heap_alloc_new w1 _)⟩
theorem Own.box (w : World) (cs : Array Value) (t : TypeId) : Own w (w.alloc (.cells cs t)) w.heap.size cs := Own.box2 (Below.refl _ _) cs t
theorem Own.step {w w1 w2 : World} {g : Nat} {cs : Array Value} (h : Own w w1 g cs) (hb : Below w1.heap.size w1 w2) : Own w w2 g cs :=
  ⟨h.K.trans (hb.mono h.K.size), Nat.lt_of_lt_of_le h.z hb.size, fun o => (hb.cell (p := ⟨g, o, none⟩) h.z).trans (h.C o), fun o => (hb.frozen (p := ⟨g, o, none⟩) h.z).trans (h.F o)⟩
theorem Own.alloc {w w1 : World} {g : Nat} {cs : Array Value} (h : Own w w1 g cs) (o : Obj) : Own w (w1.alloc o) g cs :=
  h.step ((Below.refl _ _).alloc (Nat.le_refl _) _)
theorem Own.drew {w w1 : World} {g : Nat} {cs : Array Value} (h : Own w w1 g cs) : Own w w1.drew g cs := h.step (Below.refl _ _).drew
theorem Own.drewN {w w1 : World} {g : Nat} {cs : Array Value} (h : Own w w1 g cs) (n : Nat) : Own w (w1.drewN n) g cs := h.step (below_drewN (Below.refl _ _) n)
theorem Own.far {w w1 : World} {g : Nat} {cs : Array Value} (h : Own w w1 g cs) {p : Addr} (hp : w.heap.size ≤ p.block) (hne : p.block ≠ g) (v : Value) : Own w (w1.setCell p v) g cs :=
  ⟨h.K.setCell hp v, by simpa [World.setCell] using h.z, fun o => (World.cell?_setCell_other _ _ _ _ (fun e => hne (by rw [e]))).trans (h.C o), fun o => by rw [World.frozen?_setCell]; exact h.F o⟩
theorem Own.set {w w1 : World} {g : Nat} {cs : Array Value} (h : Own w w1 g cs) (hg : w.heap.size ≤ g) {i : Nat} (hi : i < cs.size) (v : Value) : Own w (w1.setCell ⟨g, i, none⟩ v) g (cs.setIfInBounds i v) :=
  ⟨h.K.setCell hg v, by simpa [World.setCell] using h.z, fun o => by
    by_cases e : o = i
    · subst e
      have hc := (h.C o).trans (Array.getElem?_eq_getElem hi)
      rw [World.cell?_setCell_same _ _ _ hc]
      simp [hi]
    · rw [World.cell?_setCell_other _ _ _ _ (fun he => e (by injection he with _ h2 _; exact h2.symm)), h.C o, Array.getElem?_setIfInBounds_ne (fun he => e he.symm)],
   fun o => by rw [World.frozen?_setCell]; exact h.F o⟩
theorem Sl.own {w w1 : World} {k n g : Nat} {cs : Array Value} {A : Option Addr} {x : Nat → Int} (h : Sl w w.heap.size k A n x) (o : Own w w1 g cs) : Sl w1 w1.heap.size k A n x :=
  (h.below o.K (Nat.le_refl _)).more o.K.size
theorem Sl.cell4 {w : World} {B n : Nat} {A : Option Addr} {x : Nat → Int} (h : Sl w B 4 A n x) {i : Nat} (hi : i < n) : ∃ b off, A = some ⟨b, off, none⟩ ∧ b < B ∧
    w.cell? ⟨b, off + i * 4, none⟩ = some (.int .i64 (x (i * 4))) ∧ w.cell? ⟨b, off + i * 4 + 1, none⟩ = some (.int .i64 (x (i * 4 + 1))) ∧
    w.cell? ⟨b, off + i * 4 + 2, none⟩ = some (.int .i64 (x (i * 4 + 2))) ∧ w.cell? ⟨b, off + i * 4 + 3, none⟩ = some (.int .i64 (x (i * 4 + 3))) := by
  obtain ⟨b, off, rfl, hb, hc⟩ := h (by omega)
  exact ⟨b, off, rfl, hb, hc _ (by omega), by rw [Nat.add_assoc]; exact hc _ (by omega), by rw [Nat.add_assoc]; exact hc _ (by omega), by rw [Nat.add_assoc]; exact hc _ (by omega)⟩
theorem Sl.cell2 {w : World} {B n : Nat} {A : Option Addr} {x : Nat → Int} (h : Sl w B 2 A n x) {i : Nat} (hi : i < n) : ∃ b off, A = some ⟨b, off, none⟩ ∧ b < B ∧
    w.cell? ⟨b, off + i * 2, none⟩ = some (.int .i64 (x (i * 2))) ∧ w.cell? ⟨b, off + i * 2 + 1, none⟩ = some (.int .i64 (x (i * 2 + 1))) := by
  obtain ⟨b, off, rfl, hb, hc⟩ := h (by omega)
  exact ⟨b, off, rfl, hb, hc _ (by omega), by rw [Nat.add_assoc]; exact hc _ (by omega)⟩
theorem Sl.cell1 {w : World} {B n : Nat} {A : Option Addr} {x : Nat → Int} (h : Sl w B 1 A n x) {i : Nat} (hi : i < n) : ∃ b off, A = some ⟨b, off, none⟩ ∧ b < B ∧
    w.cell? ⟨b, off + i, none⟩ = some (.int .i64 (x i)) := by
  obtain ⟨b, off, rfl, hb, hc⟩ := h (by omega)
  exact ⟨b, off, rfl, hb, hc _ (by omega)⟩
/-- Block g holds x 0, x 1, .. x (N-1), all writable. -/
def RowF (w : World) (g N : Nat) (x : Nat → Int) : Prop := ∀ j, j < N → w.cell? ⟨g, j, none⟩ = some (.int .i64 (x j)) ∧ w.frozen? ⟨g, j, none⟩ = false
theorem RowF.set {w : World} {g N : Nat} {x : Nat → Int} (h : RowF w g N x) {i : Nat} (v : Int) : RowF (w.setCell ⟨g, i, none⟩ (.int .i64 v)) g N (fun j => if j = i then v else x j) := fun j hj => by
  refine ⟨?_, by rw [World.frozen?_setCell]; exact (h j hj).2⟩
  by_cases e : j = i
  · subst e
    show _ = some (Value.int _ (if j = j then v else x j))
    rw [if_pos rfl]
    exact World.cell?_setCell_same _ _ _ (h j hj).1
  · show _ = some (Value.int _ (if j = i then v else x j))
    rw [if_neg e, World.cell?_setCell_other _ _ _ _ (fun he => e (by injection he with _ h2 _; exact h2.symm))]
    exact (h j hj).1
theorem RowF.below {w w' : World} {B g N : Nat} {x : Nat → Int} (h : RowF w g N x) (hb : Below B w w') (hg : g < B) : RowF w' g N x := fun j hj =>
  ⟨(hb.cell (p := ⟨g, j, none⟩) hg).trans (h j hj).1, (hb.frozen (p := ⟨g, j, none⟩) hg).trans (h j hj).2⟩
theorem RowF.congr {w : World} {g N : Nat} {x y : Nat → Int} (h : RowF w g N x) (e : ∀ j, j < N → x j = y j) : RowF w g N y := fun j hj => by rw [← e j hj]; exact h j hj
/-- What a maker of a new list of n elements (N cells) answers. -/
def Made (w : World) (N n : Nat) (x : Nat → Int) (e : Ending) (w' : World) : Prop :=
  ∃ g, e = .returned (.slice (some ⟨g, 0, none⟩) n n) ∧ w.heap.size ≤ g ∧ g < w'.heap.size ∧ RowF w' g N x ∧ Below w.heap.size w w'
theorem add_zero_block (g j : Nat) : (⟨g, 0, none⟩ : Addr).add j = ⟨g, j, none⟩ := by unfold Addr.add; split <;> simp_all
theorem made_row {w : World} {base e n : Nat} {z : Array Value} {k : Nat} (hk : 0 < k) (hz : z = Array.replicate k (.int .i64 0)) {g : Nat}
    (h : w.ownsRow base e k (.slice (some ⟨g, 0, none⟩) n n) n (madeCells z (n * k)).toList) : RowF w g (n * k) (fun _ => 0) := fun j hj => by
  refine ⟨?_, ?_⟩
  · have := h.cells (g := g) rfl j (.int .i64 0) (by
      rw [hz]
      simp [madeCells, hj]
      rw [getElem!_pos _ _ (by simp; exact Nat.mod_lt _ hk)]
      simp)
    rwa [add_zero_block] at this
  · rcases h.2 with ⟨h1, _⟩ | ⟨g', cap, cur, h1, _, h2, _⟩
    · cases h1
    · injection h1 with h1 _ _
      injection h1 with h1
      injection h1 with h1 _ _
      subst h1
      exact frozen_of_row _ _ _ _ _ h2
theorem made_row1 {w : World} {base e n g : Nat} (h : w.ownsRow base e 1 (.slice (some ⟨g, 0, none⟩) n n) n (madeCells #[.int .i64 0] n).toList) : RowF w g n (fun _ => 0) := by
  have h1 : w.ownsRow base e 1 (.slice (some ⟨g, 0, none⟩) n n) n (madeCells #[.int .i64 0] (n * 1)).toList := by rw [Nat.mul_one]; exact h
  have := made_row (k := 1) (by omega) rfl h1
  rwa [Nat.mul_one] at this
/-- A copy under way: the first m cells are as x. -/
structure Copying (w wr : World) (N m : Nat) (x : Nat → Int) : Prop where
  K : Below w.heap.size w wr
  z : w.heap.size < wr.heap.size
  R : ∃ y, RowF wr w.heap.size N y ∧ ∀ j, j < m → y j = x j
theorem Copying.step {w w1 w2 : World} {N m : Nat} {x : Nat → Int} (h : Copying w w1 N m x) (hb : Below w1.heap.size w1 w2) : Copying w w2 N m x := by
  obtain ⟨K, z, y, R, e⟩ := h
  exact ⟨K.trans (hb.mono K.size), Nat.lt_of_lt_of_le z hb.size, y, R.below hb z, e⟩
theorem Copying.set {w w1 : World} {N m : Nat} {x : Nat → Int} (h : Copying w w1 N m x) : Copying w (w1.setCell ⟨w.heap.size, m, none⟩ (.int .i64 (x m))) N (m + 1) x := by
  obtain ⟨K, z, y, R, e⟩ := h
  refine ⟨K.setCell (Nat.le_refl _) _, by simpa [World.setCell] using z, _, R.set _, fun j hj => ?_⟩
  show (if j = m then x m else y j) = x j
  by_cases h : j = m
  · rw [if_pos h, h]
  · rw [if_neg h]; exact e j (by omega)
theorem Copying.at_ {w w1 : World} {N m : Nat} {x : Nat → Int} (h : Copying w w1 N m x) {j : Nat} (hj : j < N) : ∃ v, w1.cell? ⟨w.heap.size, j, none⟩ = some v ∧ w1.frozen? ⟨w.heap.size, j, none⟩ = false := by
  obtain ⟨K, z, y, R, e⟩ := h
  exact ⟨_, (R j hj).1, (R j hj).2⟩
theorem Copying.made {w w1 : World} {N n : Nat} {x : Nat → Int} (h : Copying w w1 N N x) : Made w N n x (.returned (.slice (some ⟨w.heap.size, 0, none⟩) n n)) w1 := by
  obtain ⟨K, z, y, R, e⟩ := h
  exact ⟨_, rfl, Nat.le_refl _, z, R.congr e, K⟩
theorem ownsRow_below {w w1 : World} {base e size n : Nat} {v : Value} {xs : List Value} (h : w.ownsRow base e size v n xs) (hb : Below w.heap.size w w1) : w1.ownsRow base e size v n xs := by
  refine ⟨h.1, h.2.imp id ?_⟩
  rintro ⟨g, cap, cur, hv, hb', hh, rest⟩
  exact ⟨g, cap, cur, hv, hb', (hb.block g (Array.getElem?_eq_some_iff.1 hh).1).trans hh, rest⟩
/-- What a function that answers a list of its own answers. -/
def Listed (w : World) (L : List Int) (e : Ending) (w' : World) : Prop :=
  ∃ v, e = .returned v ∧ w'.ownsRow w.heap.size 2 1 v L.length (L.map (Value.int .i64)) ∧ Below w.heap.size w w'
/-- From w to w' nothing has turned but in the blocks that S tells. -/
structure Keeps (S : Nat → Prop) (w w' : World) : Prop where
  os : w'.os = w.os
  tape : w'.tape = w.tape
  output : w'.output = w.output
  size : w.heap.size ≤ w'.heap.size
  block : ∀ b, b < w.heap.size → ¬ S b → w'.heap[b]? = w.heap[b]?
theorem Keeps.refl (S : Nat → Prop) (w : World) : Keeps S w w := ⟨rfl, rfl, rfl, Nat.le_refl _, fun _ _ _ => rfl⟩
theorem Keeps.of_below {S : Nat → Prop} {w w' : World} (h : Below w.heap.size w w') : Keeps S w w' := ⟨h.os, h.tape, h.output, h.size, fun b hb _ => h.block b hb⟩
theorem Keeps.trans {S : Nat → Prop} {a b c : World} (h : Keeps S a b) (k : Keeps S b c) : Keeps S a c :=
  ⟨k.os.trans h.os, k.tape.trans h.tape, k.output.trans h.output, Nat.le_trans h.size k.size, fun i hi hn => (k.block i (Nat.lt_of_lt_of_le hi h.size) hn).trans (h.block i hi hn)⟩
theorem Keeps.mono {S T : Nat → Prop} {w w' : World} (h : Keeps S w w') (hST : ∀ b, S b → T b) : Keeps T w w' := ⟨h.os, h.tape, h.output, h.size, fun b hb hn => h.block b hb fun hs => hn (hST b hs)⟩
theorem Keeps.set {S : Nat → Prop} {w w' : World} (h : Keeps S w w') {p : Addr} (hp : S p.block) (v : Value) : Keeps S w (w'.setCell p v) :=
  ⟨h.os, h.tape, h.output, by simpa [World.setCell] using h.size, fun b hb hn => (Below.heap_setCell _ _ _ _ (fun e => hn (by rw [e]; exact hp))).trans (h.block b hb hn)⟩
theorem Keeps.below {S : Nat → Prop} {w w' : World} {B : Nat} (h : Keeps S w w') (hB : B ≤ w.heap.size) (hS : ∀ b, b < B → ¬ S b) : Below B w w' :=
  ⟨h.os, h.tape, h.output, h.size, fun b hb => h.block b (by omega) (hS b hb)⟩
theorem Keeps.cell {S : Nat → Prop} {w w' : World} (h : Keeps S w w') {p : Addr} (hp : p.block < w.heap.size) (hn : ¬ S p.block) : w'.cell? p = w.cell? p := World.cell?_of_block (w := w) (h.block _ hp hn)
theorem Keeps.frozen {S : Nat → Prop} {w w' : World} (h : Keeps S w w') {p : Addr} (hp : p.block < w.heap.size) (hn : ¬ S p.block) : w'.frozen? p = w.frozen? p := World.frozen?_of_block (w := w) (h.block _ hp hn)
theorem RowF.keeps {S : Nat → Prop} {w w' : World} {g N : Nat} {x : Nat → Int} (h : RowF w g N x) (k : Keeps S w w') (hg : g < w.heap.size) (hn : ¬ S g) : RowF w' g N x := fun j hj =>
  ⟨(k.cell (p := ⟨g, j, none⟩) hg hn).trans (h j hj).1, (k.frozen (p := ⟨g, j, none⟩) hg hn).trans (h j hj).2⟩
theorem Own.keeps {S : Nat → Prop} {w w1 w2 : World} {g : Nat} {cs : Array Value} (h : Own w w1 g cs) (k : Keeps S w1 w2) (hS : ∀ b, S b → w.heap.size ≤ b) (hn : ¬ S g) : Own w w2 g cs :=
  ⟨h.K.trans (k.below h.K.size fun b hb hs => by have := hS b hs; omega), Nat.lt_of_lt_of_le h.z k.size, fun o => (k.cell (p := ⟨g, o, none⟩) h.z hn).trans (h.C o), fun o => (k.frozen (p := ⟨g, o, none⟩) h.z hn).trans (h.F o)⟩
/-- A block of N whole numbers, whichever. -/
def Ints (w : World) (g N : Nat) : Prop := ∃ x, RowF w g N x
theorem Ints.at_ {w : World} {g N j : Nat} (h : Ints w g N) (hj : j < N) : ∃ v, w.cell? ⟨g, j, none⟩ = some v ∧ w.frozen? ⟨g, j, none⟩ = false := by
  obtain ⟨x, R⟩ := h
  exact ⟨_, (R j hj).1, (R j hj).2⟩
theorem Ints.set {w : World} {g N i : Nat} {v : Int} (h : Ints w g N) : Ints (w.setCell ⟨g, i, none⟩ (.int .i64 v)) g N := by
  obtain ⟨x, R⟩ := h
  exact ⟨_, R.set v⟩
theorem Ints.keeps {S : Nat → Prop} {w w' : World} {g N : Nat} (h : Ints w g N) (k : Keeps S w w') (hg : g < w.heap.size) (hn : ¬ S g) : Ints w' g N := by
  obtain ⟨x, R⟩ := h
  exact ⟨x, R.keeps k hg hn⟩
theorem ownsRow_base {w : World} {base base' e size n : Nat} {v : Value} {xs : List Value} (h : w.ownsRow base e size v n xs) (hb : base' ≤ base) : w.ownsRow base' e size v n xs :=
  ⟨h.1, h.2.imp id fun ⟨g, cap, cur, hv, hb', rest⟩ => ⟨g, cap, cur, hv, Nat.le_trans hb hb', rest⟩⟩
theorem Listed.back {w w1 w2 : World} {L : List Int} {e : Ending} (h : Listed w1 L e w2) (K : Below w.heap.size w w1) : Listed w L e w2 := by
  obtain ⟨v, he, O, hb⟩ := h
  exact ⟨v, he, ownsRow_base O K.size, K.trans (hb.mono K.size)⟩
theorem Own.grown {w w1 w2 : World} {g : Nat} {cs : Array Value} (h : Own w w1 g cs) {row : Option Nat} (hg : w1.grownBy w2 row) (hr : ∀ r, row = some r → w.heap.size < r ∧ g ≠ r ∨ w.heap.size ≤ r ∧ g < r) : Own w w2 g cs := by
  have hne : ∀ r, row = some r → g ≠ r := fun r e => by rcases hr r e with ⟨_, h⟩ | ⟨_, h⟩ <;> omega
  have hge : ∀ r, row = some r → w.heap.size ≤ r := fun r e => by rcases hr r e with ⟨h, _⟩ | ⟨h, _⟩ <;> omega
  have hb : w2.heap[g]? = w1.heap[g]? := hg.block g h.z fun e => hne g e.symm rfl
  exact ⟨h.K.grown hg h.K.size hge, Nat.lt_of_lt_of_le h.z hg.size, fun o => (World.cell?_of_block (w := w1) (a := ⟨g, o, none⟩) hb).trans (h.C o), fun o => (World.frozen?_of_block (w := w1) (a := ⟨g, o, none⟩) hb).trans (h.F o)⟩
/-- A list of the call's own, opened. -/
theorem open_list {w : World} {B : Nat} {v : Value} {L : List Int} (h : w.ownsRow B 2 1 v L.length (L.map (Value.int .i64))) :
    ∃ A c g, v = .slice A L.length c ∧ (0 < L.length → A = some ⟨g, 0, none⟩) ∧ B ≤ g ∧ (0 < L.length → g < w.heap.size) ∧ RowF w g L.length (fun j => L.getD j 0) := by
  rcases h.2 with ⟨rfl, h0⟩ | ⟨g, cap, cur, rfl, hb, hh, _⟩
  · exact ⟨none, 0, B, by rw [h0], fun h => by omega, Nat.le_refl _, fun h => by omega, fun j hj => by omega⟩
  · refine ⟨_, cap, g, rfl, fun _ => rfl, hb, fun _ => (Array.getElem?_eq_some_iff.1 hh).1, fun j hj => ⟨?_, frozen_of_row _ _ _ _ _ hh⟩⟩
    have := h.cells (g := g) rfl j (.int .i64 (L.getD j 0)) (by simp [List.getD, hj])
    rwa [add_zero_block] at this
theorem row_sl {w : World} {A : Option Addr} {n g : Nat} {x : Nat → Int} (hA : 0 < n → A = some ⟨g, 0, none⟩) (hg : 0 < n → g < w.heap.size) (R : RowF w g n x) : Sl w w.heap.size 1 A n x := fun hn =>
  ⟨g, 0, hA hn, hg hn, fun j hj => by rw [Nat.zero_add]; exact (R j (by omega)).1⟩
theorem RowF.go {w w' : World} {g n : Nat} {x : Nat → Int} (R : RowF w g n x) (hg : 0 < n → g < w.heap.size) (hb : Below w.heap.size w w') : RowF w' g n x := fun j hj => R.below hb (hg (by omega)) j hj
theorem RowF.goK {S : Nat → Prop} {w w' : World} {g n : Nat} {x : Nat → Int} (R : RowF w g n x) (hg : 0 < n → g < w.heap.size) (k : Keeps S w w') (hn : 0 < n → ¬ S g) : RowF w' g n x := fun j hj => R.keeps k (hg (by omega)) (hn (by omega)) j hj
theorem Keeps.drewN {S : Nat → Prop} {w w' : World} (h : Keeps S w w') (n : Nat) : Keeps S w (w'.drewN n) := h.trans (Keeps.of_below (below_drewN (Below.refl _ _) n))
theorem Keeps.drew {S : Nat → Prop} {w w' : World} (h : Keeps S w w') : Keeps S w w'.drew := h.trans (Keeps.of_below (Below.refl _ _).drew)

end Go.Proofs.Ytfilbodigooenaa
