/-
  'all below n', and the plan's own whole check.
-/
import Derived.Test.YtdkmhaghnfhajaaGreatRows
import Derived.WalkKit
import Derived.WalkSpells
import Derived.WalkLawsBesides
import Derived.Deep.Draws
import Derived.Deep.QuietTactic
import Derived.BigQuiet
import Derived.WalkSmall
import Derived.Lib.Hide
import Derived.Deep.AppendLies
import Derived.RegionTactic
import Derived.BigRegion
import Derived.ProofKit
import Derived.Deep.Slices
import Derived.Deep.Fields
import Derived.ChangeSame
import Derived.JoinedOf
/- A0 -/
set_option linter.unusedVariables false
namespace Go.Proofs.YtdkmhaghnfhajaaGreat
open Go.RowKit

/-- lo ≤ x ≤ hi, as a Bool that stays shut. -/
def inB (x lo hi : Int) : Bool := decide (lo ≤ x) && decide (x ≤ hi)

theorem inB_true {x lo hi : Int} : inB x lo hi = true ↔ lo ≤ x ∧ x ≤ hi := by simp [inB]

set_option maxHeartbeats 400000 in
theorem in_any (x lo hi : Int) (w : World) :
    Calls Tryz.prog 48 #[.int .i64 x, .int .i64 lo, .int .i64 hi] w fun e w' => e = .returned (.bool (inB x lo hi)) ∧ w = w' := by
  by_cases h1 : lo ≤ x
  · go_enter Tryz.func48, Tryz.ntmps48
    go_wp2
    go_ret
    exact ⟨by simp [inB, h1], rfl⟩
  · go_enter Tryz.func48, Tryz.ntmps48
    go_wp2
    go_ret
    exact ⟨by simp [inB]; omega, rfl⟩

set_option maxHeartbeats 400000 in
theorem within_any (x lo hi : Int) (w : World) :
    Calls Tryz.prog 68 #[.int .i64 x, .int .i64 lo, .int .i64 hi] w fun e w' => e = .returned (.bool (inB x lo hi)) ∧ w = w' := by
  by_cases h1 : lo ≤ x
  · go_enter Tryz.func68, Tryz.ntmps68
    go_wp2
    go_ret
    exact ⟨by simp [inB, h1], rfl⟩
  · go_enter Tryz.func68, Tryz.ntmps68
    go_wp2
    go_ret
    exact ⟨by simp [inB]; omega, rfl⟩

set_option maxHeartbeats 400000 in
theorem isIndex_any (x n : Int) (w : World) :
    Calls Tryz.prog 54 #[.int .i64 x, .int .i64 n] w fun e w' => e = .returned (.bool (inB x 0 (n - 1))) ∧ w = w' := by
  have e : ∀ a b : Int, decide (a ≤ b - 1) = decide (a < b) := fun a b => by rw [Bool.eq_iff_iff]; simp; omega
  by_cases h1 : 0 ≤ x
  · go_enter Tryz.func54, Tryz.ntmps54
    go_wp2
    go_ret
    exact ⟨by simp [inB, h1, e], rfl⟩
  · go_enter Tryz.func54, Tryz.ntmps54
    go_wp2
    go_ret
    exact ⟨by simp [inB]; omega, rfl⟩

theorem ret_bool {a b : Bool} (h : a = b) : Ending.returned (.bool a) = .returned (.bool b) := by rw [h]

theorem ret_int {k : IntKind} {a b : Int} (h : a = b) : Ending.returned (.int k a) = .returned (.int k b) := by rw [h]

theorem ret_two {a b a' b' : Value} (h1 : a = a') (h2 : b = b') : Ending.returned (.tuple #[a, b]) = .returned (.tuple #[a', b']) := by rw [h1, h2]

theorem int_eq {k : IntKind} {a b : Int} (h : a = b) : Value.int k a = .int k b := by rw [h]

theorem bool_eq {a b : Bool} (h : a = b) : Value.bool a = .bool b := by rw [h]

end Go.Proofs.YtdkmhaghnfhajaaGreat
/- A1 -/
set_option linter.unusedVariables false
namespace Go.Proofs.YtdkmhaghnfhajaaGreat
open Go.RowKit

/-- The slice value with address A and length n holds x 0, x 1, .. (k cells an element), below block B. -/
def Sl (w : World) (B k : Nat) (A : Option Addr) (n : Nat) (x : Nat → Int) : Prop :=
  0 < n → ∃ b off, A = some ⟨b, off, none⟩ ∧ b < B ∧ ∀ j, j < n * k → w.cell? ⟨b, off + j, none⟩ = some (.int .i64 (x j))
theorem Sl.below {w w' : World} {B B' k n : Nat} {A : Option Addr} {x : Nat → Int} (h : Sl w B k A n x) (hb : Below B' w w') (hB : B ≤ B') : Sl w' B k A n x := fun hn => by
  obtain ⟨b, off, rfl, hlt, hc⟩ := h hn
  exact ⟨b, off, rfl, hlt, fun j hj => (hb.cell (p := ⟨b, off + j, none⟩) (by show b < B'; omega)).trans (hc j hj)⟩
theorem Sl.more {w : World} {B B' k n : Nat} {A : Option Addr} {x : Nat → Int} (h : Sl w B k A n x) (hB : B ≤ B') : Sl w B' k A n x := fun hn => by
  obtain ⟨b, off, rfl, hlt, hc⟩ := h hn
  exact ⟨b, off, rfl, by omega, hc⟩
theorem bcell {B : Nat} {W w1 : World} (hb : Below B W w1) : (∀ b o, b < B → w1.cell? ⟨b, o, none⟩ = W.cell? ⟨b, o, none⟩) ∧ (∀ b o, b < B → w1.frozen? ⟨b, o, none⟩ = W.frozen? ⟨b, o, none⟩) :=
  ⟨fun b o h => hb.cell (p := ⟨b, o, none⟩) h, fun b o h => hb.frozen (p := ⟨b, o, none⟩) h⟩
/-- Of the worlds w (when a call began) and w1 (now): below w nothing has turned; block g holds just cs, all writable. -/
structure Own (w w1 : World) (g : Nat) (cs : Array Value) : Prop where
  K : Below w.heap.size w w1
  z : g < w1.heap.size
  C : ∀ o, w1.cell? ⟨g, o, none⟩ = cs[o]?
  F : ∀ o, w1.frozen? ⟨g, o, none⟩ = false
theorem cell_new (w : World) (cs : Array Value) (t : TypeId) (o : Nat) : (w.alloc (.cells cs t)).cell? ⟨w.heap.size, o, none⟩ = cs[o]? :=
  cell_of_row _ _ _ _ _ _ (heap_alloc_new w _)
theorem Own.box2 {w w1 : World} (K : Below w.heap.size w w1) (cs : Array Value) (t : TypeId) : Own w (w1.alloc (.cells cs t)) w1.heap.size cs :=
  ⟨K.alloc K.size _, by simp, cell_new w1 cs t, fun o => frozen_of_row _ _ _ _ _ (heap_alloc_new w1 _)⟩
theorem Own.box (w : World) (cs : Array Value) (t : TypeId) : Own w (w.alloc (.cells cs t)) w.heap.size cs := Own.box2 (Below.refl _ _) cs t
theorem Own.step {w w1 w2 : World} {g : Nat} {cs : Array Value} (h : Own w w1 g cs) (hb : Below w1.heap.size w1 w2) : Own w w2 g cs :=
  ⟨h.K.trans (hb.mono h.K.size), Nat.lt_of_lt_of_le h.z hb.size, fun o => (hb.cell (p := ⟨g, o, none⟩) h.z).trans (h.C o), fun o => (hb.frozen (p := ⟨g, o, none⟩) h.z).trans (h.F o)⟩
theorem Own.alloc {w w1 : World} {g : Nat} {cs : Array Value} (h : Own w w1 g cs) (o : Obj) : Own w (w1.alloc o) g cs :=
  h.step ((Below.refl _ _).alloc (Nat.le_refl _) _)
theorem Own.drew {w w1 : World} {g : Nat} {cs : Array Value} (h : Own w w1 g cs) : Own w w1.drew g cs := h.step (Below.refl _ _).drew
theorem Own.drewN {w w1 : World} {g : Nat} {cs : Array Value} (h : Own w w1 g cs) (n : Nat) : Own w (w1.drewN n) g cs := h.step (below_drewN (Below.refl _ _) n)
theorem Own.far {w w1 : World} {g : Nat} {cs : Array Value} (h : Own w w1 g cs) {p : Addr} (hp : w.heap.size ≤ p.block) (hne : p.block ≠ g) (v : Value) : Own w (w1.setCell p v) g cs :=
  ⟨h.K.setCell hp v, by simpa [World.setCell] using h.z, fun o => (World.cell?_setCell_other _ _ _ _ (fun e => hne (by rw [e]))).trans (h.C o), fun o => by rw [World.frozen?_setCell]; exact h.F o⟩
theorem Own.set {w w1 : World} {g : Nat} {cs : Array Value} (h : Own w w1 g cs) (hg : w.heap.size ≤ g) {i : Nat} (hi : i < cs.size) (v : Value) : Own w (w1.setCell ⟨g, i, none⟩ v) g (cs.setIfInBounds i v) :=
  ⟨h.K.setCell hg v, by simpa [World.setCell] using h.z, fun o => by
    by_cases e : o = i
    · subst e
      have hc := (h.C o).trans (Array.getElem?_eq_getElem hi)
      rw [World.cell?_setCell_same _ _ _ hc]
      simp [hi]
    · rw [World.cell?_setCell_other _ _ _ _ (fun he => e (by injection he with _ h2 _; exact h2.symm)), h.C o, Array.getElem?_setIfInBounds_ne (fun he => e he.symm)],
   fun o => by rw [World.frozen?_setCell]; exact h.F o⟩
theorem Sl.own {w w1 : World} {k n g : Nat} {cs : Array Value} {A : Option Addr} {x : Nat → Int} (h : Sl w w.heap.size k A n x) (o : Own w w1 g cs) : Sl w1 w1.heap.size k A n x :=
  (h.below o.K (Nat.le_refl _)).more o.K.size
theorem Sl.cell4 {w : World} {B n : Nat} {A : Option Addr} {x : Nat → Int} (h : Sl w B 4 A n x) {i : Nat} (hi : i < n) : ∃ b off, A = some ⟨b, off, none⟩ ∧ b < B ∧
    w.cell? ⟨b, off + i * 4, none⟩ = some (.int .i64 (x (i * 4))) ∧ w.cell? ⟨b, off + i * 4 + 1, none⟩ = some (.int .i64 (x (i * 4 + 1))) ∧
    w.cell? ⟨b, off + i * 4 + 2, none⟩ = some (.int .i64 (x (i * 4 + 2))) ∧ w.cell? ⟨b, off + i * 4 + 3, none⟩ = some (.int .i64 (x (i * 4 + 3))) := by
  obtain ⟨b, off, rfl, hb, hc⟩ := h (by omega)
  exact ⟨b, off, rfl, hb, hc _ (by omega), by rw [Nat.add_assoc]; exact hc _ (by omega), by rw [Nat.add_assoc]; exact hc _ (by omega), by rw [Nat.add_assoc]; exact hc _ (by omega)⟩
theorem Sl.cell2 {w : World} {B n : Nat} {A : Option Addr} {x : Nat → Int} (h : Sl w B 2 A n x) {i : Nat} (hi : i < n) : ∃ b off, A = some ⟨b, off, none⟩ ∧ b < B ∧
    w.cell? ⟨b, off + i * 2, none⟩ = some (.int .i64 (x (i * 2))) ∧ w.cell? ⟨b, off + i * 2 + 1, none⟩ = some (.int .i64 (x (i * 2 + 1))) := by
  obtain ⟨b, off, rfl, hb, hc⟩ := h (by omega)
  exact ⟨b, off, rfl, hb, hc _ (by omega), by rw [Nat.add_assoc]; exact hc _ (by omega)⟩
theorem Sl.cell1 {w : World} {B n : Nat} {A : Option Addr} {x : Nat → Int} (h : Sl w B 1 A n x) {i : Nat} (hi : i < n) : ∃ b off, A = some ⟨b, off, none⟩ ∧ b < B ∧
    w.cell? ⟨b, off + i, none⟩ = some (.int .i64 (x i)) := by
  obtain ⟨b, off, rfl, hb, hc⟩ := h (by omega)
  exact ⟨b, off, rfl, hb, hc _ (by omega)⟩
/-- Block g holds x 0, x 1, .. x (N-1), all writable. -/
def RowF (w : World) (g N : Nat) (x : Nat → Int) : Prop := ∀ j, j < N → w.cell? ⟨g, j, none⟩ = some (.int .i64 (x j)) ∧ w.frozen? ⟨g, j, none⟩ = false
theorem RowF.set {w : World} {g N : Nat} {x : Nat → Int} (h : RowF w g N x) {i : Nat} (v : Int) : RowF (w.setCell ⟨g, i, none⟩ (.int .i64 v)) g N (fun j => if j = i then v else x j) := fun j hj => by
  refine ⟨?_, by rw [World.frozen?_setCell]; exact (h j hj).2⟩
  by_cases e : j = i
  · subst e
    show _ = some (Value.int _ (if j = j then v else x j))
    rw [if_pos rfl]
    exact World.cell?_setCell_same _ _ _ (h j hj).1
  · show _ = some (Value.int _ (if j = i then v else x j))
    rw [if_neg e, World.cell?_setCell_other _ _ _ _ (fun he => e (by injection he with _ h2 _; exact h2.symm))]
    exact (h j hj).1
theorem RowF.below {w w' : World} {B g N : Nat} {x : Nat → Int} (h : RowF w g N x) (hb : Below B w w') (hg : g < B) : RowF w' g N x := fun j hj =>
  ⟨(hb.cell (p := ⟨g, j, none⟩) hg).trans (h j hj).1, (hb.frozen (p := ⟨g, j, none⟩) hg).trans (h j hj).2⟩
theorem RowF.congr {w : World} {g N : Nat} {x y : Nat → Int} (h : RowF w g N x) (e : ∀ j, j < N → x j = y j) : RowF w g N y := fun j hj => by rw [← e j hj]; exact h j hj
/-- What a maker of a new list of n elements (N cells) answers. -/
def Made (w : World) (N n : Nat) (x : Nat → Int) (e : Ending) (w' : World) : Prop :=
  ∃ g, e = .returned (.slice (some ⟨g, 0, none⟩) n n) ∧ w.heap.size ≤ g ∧ g < w'.heap.size ∧ RowF w' g N x ∧ Below w.heap.size w w'
theorem add_zero_block (g j : Nat) : (⟨g, 0, none⟩ : Addr).add j = ⟨g, j, none⟩ := by unfold Addr.add; split <;> simp_all
/-- A copy under way: the first m cells are as x. -/
structure Copying (w wr : World) (N m : Nat) (x : Nat → Int) : Prop where
  K : Below w.heap.size w wr
  z : w.heap.size < wr.heap.size
  R : ∃ y, RowF wr w.heap.size N y ∧ ∀ j, j < m → y j = x j
theorem Copying.step {w w1 w2 : World} {N m : Nat} {x : Nat → Int} (h : Copying w w1 N m x) (hb : Below w1.heap.size w1 w2) : Copying w w2 N m x := by
  obtain ⟨K, z, y, R, e⟩ := h
  exact ⟨K.trans (hb.mono K.size), Nat.lt_of_lt_of_le z hb.size, y, R.below hb z, e⟩
theorem Copying.set {w w1 : World} {N m : Nat} {x : Nat → Int} (h : Copying w w1 N m x) : Copying w (w1.setCell ⟨w.heap.size, m, none⟩ (.int .i64 (x m))) N (m + 1) x := by
  obtain ⟨K, z, y, R, e⟩ := h
  refine ⟨K.setCell (Nat.le_refl _) _, by simpa [World.setCell] using z, _, R.set _, fun j hj => ?_⟩
  show (if j = m then x m else y j) = x j
  by_cases h : j = m
  · rw [if_pos h, h]
  · rw [if_neg h]; exact e j (by omega)
theorem Copying.at_ {w w1 : World} {N m : Nat} {x : Nat → Int} (h : Copying w w1 N m x) {j : Nat} (hj : j < N) : ∃ v, w1.cell? ⟨w.heap.size, j, none⟩ = some v ∧ w1.frozen? ⟨w.heap.size, j, none⟩ = false := by
  obtain ⟨K, z, y, R, e⟩ := h
  exact ⟨_, (R j hj).1, (R j hj).2⟩
theorem Copying.made {w w1 : World} {N n : Nat} {x : Nat → Int} (h : Copying w w1 N N x) : Made w N n x (.returned (.slice (some ⟨w.heap.size, 0, none⟩) n n)) w1 := by
  obtain ⟨K, z, y, R, e⟩ := h
  exact ⟨_, rfl, Nat.le_refl _, z, R.congr e, K⟩
theorem ownsRow_below {w w1 : World} {base e size n : Nat} {v : Value} {xs : List Value} (h : w.ownsRow base e size v n xs) (hb : Below w.heap.size w w1) : w1.ownsRow base e size v n xs := by
  refine ⟨h.1, h.2.imp id ?_⟩
  rintro ⟨g, cap, cur, hv, hb', hh, rest⟩
  exact ⟨g, cap, cur, hv, hb', (hb.block g (Array.getElem?_eq_some_iff.1 hh).1).trans hh, rest⟩
/-- What a function that answers a list of its own answers. -/
def Listed (w : World) (L : List Int) (e : Ending) (w' : World) : Prop :=
  ∃ v, e = .returned v ∧ w'.ownsRow w.heap.size 2 1 v L.length (L.map (Value.int .i64)) ∧ Below w.heap.size w w'
/-- From w to w' nothing has turned but in the blocks that S tells. -/
structure Keeps (S : Nat → Prop) (w w' : World) : Prop where
  os : w'.os = w.os
  tape : w'.tape = w.tape
  output : w'.output = w.output
  size : w.heap.size ≤ w'.heap.size
  block : ∀ b, b < w.heap.size → ¬ S b → w'.heap[b]? = w.heap[b]?
theorem Keeps.refl (S : Nat → Prop) (w : World) : Keeps S w w := ⟨rfl, rfl, rfl, Nat.le_refl _, fun _ _ _ => rfl⟩
theorem Keeps.of_below {S : Nat → Prop} {w w' : World} (h : Below w.heap.size w w') : Keeps S w w' := ⟨h.os, h.tape, h.output, h.size, fun b hb _ => h.block b hb⟩
theorem Keeps.trans {S : Nat → Prop} {a b c : World} (h : Keeps S a b) (k : Keeps S b c) : Keeps S a c :=
  ⟨k.os.trans h.os, k.tape.trans h.tape, k.output.trans h.output, Nat.le_trans h.size k.size, fun i hi hn => (k.block i (Nat.lt_of_lt_of_le hi h.size) hn).trans (h.block i hi hn)⟩
theorem Keeps.mono {S T : Nat → Prop} {w w' : World} (h : Keeps S w w') (hST : ∀ b, S b → T b) : Keeps T w w' := ⟨h.os, h.tape, h.output, h.size, fun b hb hn => h.block b hb fun hs => hn (hST b hs)⟩
theorem Keeps.set {S : Nat → Prop} {w w' : World} (h : Keeps S w w') {p : Addr} (hp : S p.block) (v : Value) : Keeps S w (w'.setCell p v) :=
  ⟨h.os, h.tape, h.output, by simpa [World.setCell] using h.size, fun b hb hn => (Below.heap_setCell _ _ _ _ (fun e => hn (by rw [e]; exact hp))).trans (h.block b hb hn)⟩
theorem Keeps.below {S : Nat → Prop} {w w' : World} {B : Nat} (h : Keeps S w w') (hB : B ≤ w.heap.size) (hS : ∀ b, b < B → ¬ S b) : Below B w w' :=
  ⟨h.os, h.tape, h.output, h.size, fun b hb => h.block b (by omega) (hS b hb)⟩
theorem Keeps.cell {S : Nat → Prop} {w w' : World} (h : Keeps S w w') {p : Addr} (hp : p.block < w.heap.size) (hn : ¬ S p.block) : w'.cell? p = w.cell? p := World.cell?_of_block (w := w) (h.block _ hp hn)
theorem Keeps.frozen {S : Nat → Prop} {w w' : World} (h : Keeps S w w') {p : Addr} (hp : p.block < w.heap.size) (hn : ¬ S p.block) : w'.frozen? p = w.frozen? p := World.frozen?_of_block (w := w) (h.block _ hp hn)
theorem RowF.keeps {S : Nat → Prop} {w w' : World} {g N : Nat} {x : Nat → Int} (h : RowF w g N x) (k : Keeps S w w') (hg : g < w.heap.size) (hn : ¬ S g) : RowF w' g N x := fun j hj =>
  ⟨(k.cell (p := ⟨g, j, none⟩) hg hn).trans (h j hj).1, (k.frozen (p := ⟨g, j, none⟩) hg hn).trans (h j hj).2⟩
theorem Own.keeps {S : Nat → Prop} {w w1 w2 : World} {g : Nat} {cs : Array Value} (h : Own w w1 g cs) (k : Keeps S w1 w2) (hS : ∀ b, S b → w.heap.size ≤ b) (hn : ¬ S g) : Own w w2 g cs :=
  ⟨h.K.trans (k.below h.K.size fun b hb hs => by have := hS b hs; omega), Nat.lt_of_lt_of_le h.z k.size, fun o => (k.cell (p := ⟨g, o, none⟩) h.z hn).trans (h.C o), fun o => (k.frozen (p := ⟨g, o, none⟩) h.z hn).trans (h.F o)⟩
/-- A block of N whole numbers, whichever. -/
def Ints (w : World) (g N : Nat) : Prop := ∃ x, RowF w g N x
theorem Ints.at_ {w : World} {g N j : Nat} (h : Ints w g N) (hj : j < N) : ∃ v, w.cell? ⟨g, j, none⟩ = some v ∧ w.frozen? ⟨g, j, none⟩ = false := by
  obtain ⟨x, R⟩ := h
  exact ⟨_, (R j hj).1, (R j hj).2⟩
theorem Ints.set {w : World} {g N i : Nat} {v : Int} (h : Ints w g N) : Ints (w.setCell ⟨g, i, none⟩ (.int .i64 v)) g N := by
  obtain ⟨x, R⟩ := h
  exact ⟨_, R.set v⟩
theorem Ints.keeps {S : Nat → Prop} {w w' : World} {g N : Nat} (h : Ints w g N) (k : Keeps S w w') (hg : g < w.heap.size) (hn : ¬ S g) : Ints w' g N := by
  obtain ⟨x, R⟩ := h
  exact ⟨x, R.keeps k hg hn⟩
theorem ownsRow_base {w : World} {base base' e size n : Nat} {v : Value} {xs : List Value} (h : w.ownsRow base e size v n xs) (hb : base' ≤ base) : w.ownsRow base' e size v n xs :=
  ⟨h.1, h.2.imp id fun ⟨g, cap, cur, hv, hb', rest⟩ => ⟨g, cap, cur, hv, Nat.le_trans hb hb', rest⟩⟩
theorem Listed.back {w w1 w2 : World} {L : List Int} {e : Ending} (h : Listed w1 L e w2) (K : Below w.heap.size w w1) : Listed w L e w2 := by
  obtain ⟨v, he, O, hb⟩ := h
  exact ⟨v, he, ownsRow_base O K.size, K.trans (hb.mono K.size)⟩
theorem Own.grown {w w1 w2 : World} {g : Nat} {cs : Array Value} (h : Own w w1 g cs) {row : Option Nat} (hg : w1.grownBy w2 row) (hr : ∀ r, row = some r → w.heap.size < r ∧ g ≠ r ∨ w.heap.size ≤ r ∧ g < r) : Own w w2 g cs := by
  have hne : ∀ r, row = some r → g ≠ r := fun r e => by rcases hr r e with ⟨_, h⟩ | ⟨_, h⟩ <;> omega
  have hge : ∀ r, row = some r → w.heap.size ≤ r := fun r e => by rcases hr r e with ⟨h, _⟩ | ⟨h, _⟩ <;> omega
  have hb : w2.heap[g]? = w1.heap[g]? := hg.block g h.z fun e => hne g e.symm rfl
  exact ⟨h.K.grown hg h.K.size hge, Nat.lt_of_lt_of_le h.z hg.size, fun o => (World.cell?_of_block (w := w1) (a := ⟨g, o, none⟩) hb).trans (h.C o), fun o => (World.frozen?_of_block (w := w1) (a := ⟨g, o, none⟩) hb).trans (h.F o)⟩
/-- A list of the call's own, opened. -/
theorem open_list {w : World} {B : Nat} {v : Value} {L : List Int} (h : w.ownsRow B 2 1 v L.length (L.map (Value.int .i64))) :
    ∃ A c g, v = .slice A L.length c ∧ (0 < L.length → A = some ⟨g, 0, none⟩) ∧ B ≤ g ∧ (0 < L.length → g < w.heap.size) ∧ RowF w g L.length (fun j => L.getD j 0) := by
  rcases h.2 with ⟨rfl, h0⟩ | ⟨g, cap, cur, rfl, hb, hh, _⟩
  · exact ⟨none, 0, B, by rw [h0], fun h => by omega, Nat.le_refl _, fun h => by omega, fun j hj => by omega⟩
  · refine ⟨_, cap, g, rfl, fun _ => rfl, hb, fun _ => (Array.getElem?_eq_some_iff.1 hh).1, fun j hj => ⟨?_, frozen_of_row _ _ _ _ _ hh⟩⟩
    have := h.cells (g := g) rfl j (.int .i64 (L.getD j 0)) (by simp [List.getD, hj])
    rwa [add_zero_block] at this
theorem row_sl {w : World} {A : Option Addr} {n g : Nat} {x : Nat → Int} (hA : 0 < n → A = some ⟨g, 0, none⟩) (hg : 0 < n → g < w.heap.size) (R : RowF w g n x) : Sl w w.heap.size 1 A n x := fun hn =>
  ⟨g, 0, hA hn, hg hn, fun j hj => by rw [Nat.zero_add]; exact (R j (by omega)).1⟩
theorem RowF.go {w w' : World} {g n : Nat} {x : Nat → Int} (R : RowF w g n x) (hg : 0 < n → g < w.heap.size) (hb : Below w.heap.size w w') : RowF w' g n x := fun j hj => R.below hb (hg (by omega)) j hj
theorem RowF.goK {S : Nat → Prop} {w w' : World} {g n : Nat} {x : Nat → Int} (R : RowF w g n x) (hg : 0 < n → g < w.heap.size) (k : Keeps S w w') (hn : 0 < n → ¬ S g) : RowF w' g n x := fun j hj => R.keeps k (hg (by omega)) (hn (by omega)) j hj
theorem Keeps.drewN {S : Nat → Prop} {w w' : World} (h : Keeps S w w') (n : Nat) : Keeps S w (w'.drewN n) := h.trans (Keeps.of_below (below_drewN (Below.refl _ _) n))
theorem Keeps.drew {S : Nat → Prop} {w w' : World} (h : Keeps S w w') : Keeps S w w'.drew := h.trans (Keeps.of_below (Below.refl _ _).drew)

end Go.Proofs.YtdkmhaghnfhajaaGreat
/- Av -/
set_option linter.unusedVariables false
namespace Go.Proofs.YtdkmhaghnfhajaaGreat
open Go.RowKit

/-- The slice value with address A and n elements of k cells each holds the cells xs, below block B. -/
structure SlV (w : World) (B k : Nat) (A : Option Addr) (n : Nat) (xs : List Value) : Prop where
  len : xs.length = n * k
  it : 0 < n → ∃ b off, A = some ⟨b, off, none⟩ ∧ b < B ∧ ∀ j, j < n * k → w.cell? ⟨b, off + j, none⟩ = xs[j]?
theorem SlV.below {w w' : World} {B B' k n : Nat} {A : Option Addr} {xs : List Value} (h : SlV w B k A n xs) (hb : Below B' w w') (hB : B ≤ B') : SlV w' B k A n xs := ⟨h.len, fun hn => by
  obtain ⟨b, off, rfl, hlt, hc⟩ := h.it hn
  exact ⟨b, off, rfl, hlt, fun j hj => (hb.cell (p := ⟨b, off + j, none⟩) (by show b < B'; omega)).trans (hc j hj)⟩⟩
theorem SlV.more {w : World} {B B' k n : Nat} {A : Option Addr} {xs : List Value} (h : SlV w B k A n xs) (hB : B ≤ B') : SlV w B' k A n xs := ⟨h.len, fun hn => by
  obtain ⟨b, off, rfl, hlt, hc⟩ := h.it hn
  exact ⟨b, off, rfl, by omega, hc⟩⟩
theorem SlV.go {w w' : World} {k n : Nat} {A : Option Addr} {xs : List Value} (h : SlV w w.heap.size k A n xs) (hb : Below w.heap.size w w') : SlV w' w'.heap.size k A n xs := (h.below hb (Nat.le_refl _)).more hb.size
theorem SlV.cell {w : World} {B k n : Nat} {A : Option Addr} {xs : List Value} (h : SlV w B k A n xs) {i : Nat} (hi : i < n) :
    ∃ b off, A = some ⟨b, off, none⟩ ∧ b < B ∧ ∀ j, j < k → w.cell? ⟨b, off + i * k + j, none⟩ = xs[i * k + j]? := by
  obtain ⟨b, off, rfl, hb, hc⟩ := h.it (by omega)
  refine ⟨b, off, rfl, hb, fun j hj => ?_⟩
  have h1 : (i + 1) * k ≤ n * k := Nat.mul_le_mul_right k hi
  have h2 : (i + 1) * k = i * k + k := by rw [Nat.add_mul, Nat.one_mul]
  rw [Nat.add_assoc]
  exact hc _ (by omega)
theorem SlV.nil (w : World) (B k : Nat) (A : Option Addr) : SlV w B k A 0 [] := ⟨by simp, fun h => absurd h (by omega)⟩

/-- Block g holds the cells xs, all writable. -/
def RowV (w : World) (g : Nat) (xs : List Value) : Prop := ∀ j, j < xs.length → w.cell? ⟨g, j, none⟩ = xs[j]? ∧ w.frozen? ⟨g, j, none⟩ = false
theorem RowV.set {w : World} {g : Nat} {xs : List Value} (h : RowV w g xs) {i : Nat} (hi : i < xs.length) (u : Value) : RowV (w.setCell ⟨g, i, none⟩ u) g (xs.set i u) := fun j hj => by
  rw [List.length_set] at hj
  refine ⟨?_, by rw [World.frozen?_setCell]; exact (h j hj).2⟩
  by_cases e : j = i
  · subst e
    rw [World.cell?_setCell_same _ _ _ ((h j hj).1.trans (List.getElem?_eq_getElem hj)), List.getElem?_set_self hj]
  · rw [World.cell?_setCell_other _ _ _ _ (fun he => e (by injection he with _ h2 _; exact h2.symm)), List.getElem?_set_ne (fun he => e he.symm)]
    exact (h j hj).1
theorem RowV.below {w w' : World} {B g : Nat} {xs : List Value} (h : RowV w g xs) (hb : Below B w w') (hg : g < B) : RowV w' g xs := fun j hj =>
  ⟨(hb.cell (p := ⟨g, j, none⟩) hg).trans (h j hj).1, (hb.frozen (p := ⟨g, j, none⟩) hg).trans (h j hj).2⟩
theorem RowV.go {w w' : World} {g : Nat} {xs : List Value} (h : RowV w g xs) (hg : 0 < xs.length → g < w.heap.size) (hb : Below w.heap.size w w') : RowV w' g xs := fun j hj => RowV.below h hb (hg (by omega)) j hj
theorem RowV.keeps {S : Nat → Prop} {w w' : World} {g : Nat} {xs : List Value} (h : RowV w g xs) (k : Keeps S w w') (hg : g < w.heap.size) (hn : ¬ S g) : RowV w' g xs := fun j hj =>
  ⟨(k.cell (p := ⟨g, j, none⟩) hg hn).trans (h j hj).1, (k.frozen (p := ⟨g, j, none⟩) hg hn).trans (h j hj).2⟩
theorem RowV.far {w : World} {g : Nat} {xs : List Value} (h : RowV w g xs) {p : Addr} (hne : p.block ≠ g) (v : Value) : RowV (w.setCell p v) g xs := fun j hj =>
  ⟨(World.cell?_setCell_other _ _ _ _ (fun e => hne (by rw [e]))).trans (h j hj).1, by rw [World.frozen?_setCell]; exact (h j hj).2⟩
theorem RowV.slv {w : World} {g B k n : Nat} {xs : List Value} (h : RowV w g xs) (hl : xs.length = n * k) (hg : g < B) : SlV w B k (some ⟨g, 0, none⟩) n xs :=
  ⟨hl, fun _ => ⟨g, 0, rfl, hg, fun j hj => by rw [Nat.zero_add]; exact (h j (by omega)).1⟩⟩
/-- A row of the call's own, opened. -/
theorem open_row {w : World} {B e k n : Nat} {v : Value} {xs : List Value} (h : w.ownsRow B e k v n xs) :
    ∃ A c g, v = .slice A n c ∧ (0 < n → A = some ⟨g, 0, none⟩) ∧ n ≤ c ∧ B ≤ g ∧ (0 < n → g < w.heap.size) ∧ RowV w g xs ∧ SlV w w.heap.size k A n xs ∧ n ≤ maxLen := by
  have hl := h.1
  rcases h.2 with ⟨rfl, h0⟩ | ⟨g, cap, cur, rfl, hb, hh, hnc, hcm, hsz, ht⟩
  · subst h0
    have : xs = [] := List.eq_nil_of_length_eq_zero (by omega)
    subst this
    exact ⟨none, 0, B, rfl, fun h => by omega, Nat.le_refl _, Nat.le_refl _, fun h => by omega, fun j hj => by simp at hj, SlV.nil _ _ _ _, Nat.zero_le _⟩
  · have hg : g < w.heap.size := (Array.getElem?_eq_some_iff.1 hh).1
    have R : RowV w g xs := fun j hj => ⟨by
      have := h.cells (g := g) rfl j _ (List.getElem?_eq_getElem hj)
      rw [add_zero_block] at this
      rw [this, List.getElem?_eq_getElem hj], frozen_of_row _ _ _ _ _ hh⟩
    exact ⟨_, cap, g, rfl, fun _ => rfl, hnc, hb, fun _ => hg, R, R.slv hl hg, Nat.le_trans hnc hcm⟩

/-- What a maker of a new list of n elements answers. -/
def MadeV (w : World) (n : Nat) (xs : List Value) (e : Ending) (w' : World) : Prop :=
  ∃ g, e = .returned (.slice (some ⟨g, 0, none⟩) n n) ∧ w.heap.size ≤ g ∧ g < w'.heap.size ∧ RowV w' g xs ∧ Below w.heap.size w w'
/-- A copy under way: the first m cells are as xs. -/
structure CopyV (w wr : World) (m : Nat) (xs : List Value) : Prop where
  K : Below w.heap.size w wr
  z : w.heap.size < wr.heap.size
  R : ∃ ys, ys.length = xs.length ∧ RowV wr w.heap.size ys ∧ ∀ j, j < m → ys[j]? = xs[j]?
theorem CopyV.step {w w1 w2 : World} {m : Nat} {xs : List Value} (h : CopyV w w1 m xs) (hb : Below w1.heap.size w1 w2) : CopyV w w2 m xs := by
  obtain ⟨K, z, ys, hl, R, e⟩ := h
  exact ⟨K.trans (hb.mono K.size), Nat.lt_of_lt_of_le z hb.size, ys, hl, R.below hb z, e⟩
theorem CopyV.set {w w1 : World} {m : Nat} {xs : List Value} {u : Value} (h : CopyV w w1 m xs) (hu : xs[m]? = some u) : CopyV w (w1.setCell ⟨w.heap.size, m, none⟩ u) (m + 1) xs := by
  obtain ⟨K, z, ys, hl, R, e⟩ := h
  have hm : m < xs.length := (List.getElem?_eq_some_iff.1 hu).1
  refine ⟨K.setCell (Nat.le_refl _) _, by simpa [World.setCell] using z, _, by rw [List.length_set]; exact hl, R.set (by omega) u, fun j hj => ?_⟩
  by_cases h : j = m
  · subst h
    rw [List.getElem?_set_self (by omega), hu]
  · rw [List.getElem?_set_ne (fun he => h he.symm)]
    exact e j (by omega)
theorem CopyV.at_ {w w1 : World} {m : Nat} {xs : List Value} (h : CopyV w w1 m xs) {j : Nat} (hj : j < xs.length) : ∃ v, w1.cell? ⟨w.heap.size, j, none⟩ = some v ∧ w1.frozen? ⟨w.heap.size, j, none⟩ = false := by
  obtain ⟨K, z, ys, hl, R, e⟩ := h
  have := R j (by omega)
  exact ⟨_, this.1.trans (List.getElem?_eq_getElem (by omega)), this.2⟩
theorem CopyV.made {w w1 : World} {n m : Nat} {xs : List Value} (h : CopyV w w1 m xs) (hm : xs.length ≤ m) : MadeV w n xs (.returned (.slice (some ⟨w.heap.size, 0, none⟩) n n)) w1 := by
  obtain ⟨K, z, ys, hl, R, e⟩ := h
  have : ys = xs := List.ext_getElem? fun j => by
    by_cases hj : j < m
    · exact e j hj
    · rw [List.getElem?_eq_none (by omega), List.getElem?_eq_none (by omega)]
  subst this
  exact ⟨_, rfl, Nat.le_refl _, z, R, K⟩
theorem CopyV.start {w w1 : World} {base e n k : Nat} {ys xs : List Value} (h : w1.ownsRow base e k (.slice (some ⟨w.heap.size, 0, none⟩) n n) n ys) (hg : w.grownBy w1 none) (hl : xs.length = n * k) : CopyV w w1 0 xs := by
  have h1 := h.1
  refine ⟨(Below.refl _ _).grown hg (Nat.le_refl _) (fun k hk => by cases hk), ?_, ys, by omega, ?_, fun j hj => absurd hj (by omega)⟩
  · rcases h.2 with ⟨h, _⟩ | ⟨g, cap, cur, hv, hb, hh, _⟩
    · cases h
    · injection hv with hv _ _
      injection hv with hv
      injection hv with hv _ _
      rw [hv]
      exact (Array.getElem?_eq_some_iff.1 hh).1
  · intro j hj
    rcases h.2 with ⟨h, _⟩ | ⟨g, cap, cur, hv, hb, hh, _⟩
    · cases h
    · injection hv with hv _ _
      injection hv with hv
      injection hv with hv _ _
      subst hv
      have := h.cells (g := w.heap.size) rfl j _ (List.getElem?_eq_getElem hj)
      rw [add_zero_block] at this
      exact ⟨by rw [this, List.getElem?_eq_getElem hj], frozen_of_row _ _ _ _ _ hh⟩
end Go.Proofs.YtdkmhaghnfhajaaGreat
/- A2 -/
set_option linter.unusedVariables false
namespace Go.Proofs.YtdkmhaghnfhajaaGreat
open Go.RowKit

def allB (n : Nat) (f : Nat → Bool) : Bool := decide (∀ i, i < n → f i = true)

theorem allB_true {n : Nat} {f : Nat → Bool} : allB n f = true ↔ ∀ i, i < n → f i = true := by simp [allB]

theorem allB_false {n : Nat} {f : Nat → Bool} {i : Nat} (hi : i < n) (h : f i = false) : allB n f = false := by
  simp only [allB, decide_eq_false_iff_not]
  exact fun hh => by rw [hh i hi] at h; cases h

theorem step_all {f : Nat → Bool} {k : Nat} (h : ∀ j, j < k → f j = true) (hk : f k = true) : ∀ j, j < k + 1 → f j = true := fun j hj => by
  by_cases e : j = k
  · rw [e]; exact hk
  · exact h j (by omega)

set_option maxHeartbeats 400000 in
theorem allBelow_any (g : Nat) (pv : Value) (n : Nat) (f : Nat → Bool) (w : World) (hn : n ≤ maxLen)
    (hg : ∀ (x y : Value) (wr : World), (callFunc g #[x, y]).run Tryz.prog wr = .ok (.enter g #[x, y]) wr)
    (H : Hid (∀ i, i < n → ∀ wr, Below w.heap.size w wr → Calls Tryz.prog g #[pv, .int .i64 i] wr fun e w' => e = .returned (.bool (f i)) ∧ Below wr.heap.size wr w')) :
    Calls Tryz.prog 73 #[.int .i64 n, .func (.func g) #[pv] #[]] w fun e w' => e = .returned (.bool (allB n f)) ∧ Below w.heap.size w w' := by
  unfold maxLen at hn
  go_enter Tryz.func73, Tryz.ntmps73
  go_wp2
  go_loopw [7] (fun i wr => ∃ k : Nat, k ≤ n ∧ i = .int .i64 k ∧ (∀ j, j < k → f j = true) ∧ Below w.heap.size w wr) (fun i _ => n - (intOf i).toNat)
  case atStart => exact ⟨0, Nat.zero_le _, rfl, fun j hj => absurd hj (by omega), Below.refl _ _⟩
  case round =>
    obtain ⟨k, hk, rfl, hall, hb⟩ := hrel
    have HA := Lib.hid hall
    clear hall
    by_cases hlt : k < n
    · have hf := H.out k hlt _ hb
      cases hv : f k
      · rw [hv] at hf
        have Hv := Lib.hid hv
        clear hv
        go_wp2_with (refine hf.mono ?_; rintro e w1 ⟨rfl, hb1⟩)
        go_ret
        exact ⟨ret_bool (allB_false hlt Hv.out).symm, hb.trans (hb1.mono hb.size)⟩
      · rw [hv] at hf
        have Hv := Lib.hid hv
        clear hv
        go_wp2_with (refine hf.mono ?_; rintro e w1 ⟨rfl, hb1⟩)
        go_roundw
        case rel =>
          refine ⟨k + 1, by omega, by go_num, fun j hj => ?_, hb.trans (hb1.mono hb.size)⟩
          by_cases h : j = k
          · rw [h]; exact Hv.out
          · exact HA.out j (by omega)
        case measure => simp [intOf]; omega
    · obtain rfl : k = n := by omega
      go_wp2
      go_ret
      exact ⟨ret_bool (allB_true.2 HA.out).symm, hb⟩

theorem below_via {W W' w1 : World} (h : Below W.heap.size W w1) (k : Below w1.heap.size w1 W') : Below W.heap.size W W' := h.trans (k.mono h.size)

end Go.Proofs.YtdkmhaghnfhajaaGreat
/- A3 -/
set_option linter.unusedVariables false
namespace Go.Proofs.YtdkmhaghnfhajaaGreat
open Go.RowKit

/-- The value owns a row of n elements of k whole numbers, x 0, x 1, .. -/
def OI (w : World) (B e k : Nat) (v : Value) (n : Nat) (x : Nat → Int) : Prop :=
  ∃ xs : List Value, w.ownsRow B e k v n xs ∧ ∀ j, j < n * k → xs[j]? = some (.int .i64 (x j))
theorem OI.nil_ (w : World) (B e k : Nat) (x : Nat → Int) : OI w B e k (.slice none 0 0) 0 x := ⟨[], World.ownsRow_nil _ _ _ _, fun j hj => by omega⟩
theorem OI.form {w : World} {B e k n : Nat} {v : Value} {x : Nat → Int} (h : OI w B e k v n x) :
    ∃ A c, v = .slice A n c ∧ Sl w w.heap.size k A n x ∧ n ≤ maxLen := by
  obtain ⟨xs, hown, hx⟩ := h
  rcases hown.2 with ⟨rfl, h0⟩ | ⟨g, cap, cur, rfl, hb, hh, hnc, hcm, _⟩
  · exact ⟨none, 0, by rw [h0], fun hn => by omega, by rw [h0]; exact Nat.zero_le _⟩
  · refine ⟨_, cap, rfl, fun hn => ⟨g, 0, rfl, (Array.getElem?_eq_some_iff.1 hh).1, fun j hj => ?_⟩, Nat.le_trans hnc hcm⟩
    have := hown.cells (g := g) rfl j _ (hx j hj)
    rw [add_zero_block] at this
    rwa [Nat.zero_add]
theorem OI.block {w : World} {B e k n : Nat} {v : Value} {x : Nat → Int} (h : OI w B e k v n x) {r : Nat} (hr : v.ownBlock = some r) : ∃ cs, w.heap[r]? = some (.cells cs e (0, 0)) := by
  obtain ⟨xs, hown, _⟩ := h
  rcases hown.2 with ⟨rfl, _⟩ | ⟨g, cap, cur, rfl, hb, hh, _⟩
  · cases hr
  · injection hr with hr
    subst hr
    exact ⟨cur, hh⟩
theorem OI.moved {w w' : World} {B e k n : Nat} {v : Value} {x : Nat → Int} (h : OI w B e k v n x) (hm : ∀ r, v.ownBlock = some r → w'.heap[r]? = w.heap[r]?) : OI w' B e k v n x := by
  obtain ⟨xs, hown, hx⟩ := h
  refine ⟨xs, ⟨hown.1, hown.2.imp id ?_⟩, hx⟩
  rintro ⟨g, cap, cur, hv, hb', hh, rest⟩
  exact ⟨g, cap, cur, hv, hb', (hm g (by rw [hv]; rfl)).trans hh, rest⟩
/-- Only block g has turned, and it is of another type. -/
theorem OI.keeps {w w' : World} {B e k n g T : Nat} {cs : Array Value} {v : Value} {x : Nat → Int} (h : OI w B e k v n x) (kk : Keeps (· = g) w w') (hg : w.heap[g]? = some (.cells cs T (0, 0))) (hne : T ≠ e) : OI w' B e k v n x :=
  h.moved fun r hr => by
    obtain ⟨cs', hb⟩ := h.block hr
    refine kk.block r (Array.getElem?_eq_some_iff.1 hb).1 fun e' => ?_
    have e' : r = g := e'
    rw [e', hg] at hb
    injection hb with hb
    injection hb with _ ht
    exact hne ht
theorem OI.below {w w' : World} {B e k n : Nat} {v : Value} {x : Nat → Int} (h : OI w B e k v n x) (hb : Below w.heap.size w w') : OI w' B e k v n x :=
  h.moved fun r hr => by
    obtain ⟨cs', hb'⟩ := h.block hr
    exact hb.block r (Array.getElem?_eq_some_iff.1 hb').1
/-- Another row, of another type, has grown. -/
theorem OI.grown {w w' : World} {B e k n B' e' k' n' : Nat} {v v' : Value} {x x' : Nat → Int} (h : OI w B e k v n x) (h' : OI w B' e' k' v' n' x') (hne : e' ≠ e) (hg : w.grownBy w' v'.ownBlock) : OI w' B e k v n x :=
  h.moved fun r hr => by
    obtain ⟨cs, hb⟩ := h.block hr
    refine hg.block r (Array.getElem?_eq_some_iff.1 hb).1 fun e2 => ?_
    obtain ⟨cs', hb'⟩ := h'.block e2.symm
    rw [hb] at hb'
    injection hb' with hb'
    injection hb' with _ ht
    exact hne ht.symm
/-- An element more. -/
def ext (n k : Nat) (x : Nat → Int) (l : List Int) : Nat → Int := fun j => if j < n * k then x j else l.getD (j - n * k) 0
theorem OI.push {w' : World} {B e k n : Nat} {v' : Value} {x : Nat → Int} {xs : List Value} (hx : ∀ j, j < n * k → xs[j]? = some (.int .i64 (x j))) (hl : xs.length = n * k) (l : List Int) (hk : l.length = k)
    (h : w'.ownsRow B e k v' (n + 1) (xs ++ l.map (Value.int .i64))) : OI w' B e k v' (n + 1) (ext n k x l) := by
  refine ⟨_, h, fun j hj => ?_⟩
  unfold ext
  by_cases hlt : j < n * k
  · rw [if_pos hlt, List.getElem?_append_left (by omega)]
    exact hx j hlt
  · rw [if_neg hlt, List.getElem?_append_right (by omega), hl]
    have : j - n * k < l.length := by rw [hk]; rw [Nat.add_mul] at hj; omega
    simp [List.getD, this]
theorem ext_lt {n k : Nat} {x : Nat → Int} {l : List Int} {j : Nat} (h : j < n * k) : ext n k x l j = x j := if_pos h
theorem ext_at {n k : Nat} {x : Nat → Int} {l : List Int} (i : Nat) : ext n k x l (n * k + i) = l.getD i 0 := by
  unfold ext
  rw [if_neg (by omega), Nat.add_sub_cancel_left]

end Go.Proofs.YtdkmhaghnfhajaaGreat
/- A4 -/
set_option linter.unusedVariables false
namespace Go.Proofs.YtdkmhaghnfhajaaGreat
open Go.RowKit

/-- 'and' with a mask is from 0 to the mask. -/
theorem bits_and_le (k : IntKind) (hk : k = .u64 ∨ k = .i64) (x : Int) (m : Nat) (hm : m < 9223372036854775808) : 0 ≤ bits .and k x (m : Int) ∧ bits .and k x (m : Int) ≤ m := by
  have h : (BitVec.ofInt 64 (m : Int)).toNat = m := by simp; omega
  have hN : (BitVec.ofInt 64 x &&& BitVec.ofInt 64 (m : Int)).toNat ≤ m := by
    rw [BitVec.toNat_and, h]; exact Nat.and_le_right
  rcases hk with rfl | rfl
  · have e : bits .and .u64 x (m : Int) = IntKind.u64.wrap ((BitVec.ofInt 64 x &&& BitVec.ofInt 64 (m : Int)).toNat : Int) := rfl
    rw [e]
    generalize (BitVec.ofInt 64 x &&& BitVec.ofInt 64 (m : Int)).toNat = N at hN
    have e2 : IntKind.u64.wrap (N : Int) = N := by simp [IntKind.wrap, IntKind.bits, IntKind.signed]; omega
    rw [e2]; omega
  · have e : bits .and .i64 x (m : Int) = IntKind.i64.wrap ((BitVec.ofInt 64 x &&& BitVec.ofInt 64 (m : Int)).toNat : Int) := rfl
    rw [e]
    generalize (BitVec.ofInt 64 x &&& BitVec.ofInt 64 (m : Int)).toNat = N at hN
    rw [IntWalk.i64_in _ (by omega)]; omega
theorem and_u24 (x : Int) : 0 ≤ bits .and .u64 x 16777215 ∧ bits .and .u64 x 16777215 ≤ 16777215 := bits_and_le .u64 (.inl rfl) x 16777215 (by decide)
/-- The bytes that came in, below block B. -/
def Bytes (w : World) (B : Nat) (A : Option Addr) (n : Nat) : Prop :=
  0 < n → ∃ b off, A = some ⟨b, off, none⟩ ∧ b < B ∧ ∀ j, j < n → ∃ z : Int, w.cell? ⟨b, off + j, none⟩ = some (.int .u8 z) ∧ 0 ≤ z ∧ z ≤ 255
/-- The cells of a cursor: the bytes, how many are used, a number. -/
abbrev curC (k : IntKind) (A : Option Addr) (n c : Nat) (i h : Int) : Array Value := #[.slice A n c, .int .i64 i, .int k h]
/-- A cursor at block g, of type T, over bytes below block B. -/
structure Cur (T : TypeId) (k : IntKind) (w : World) (g : Nat) : Prop where
  it : ∃ A n c i h, w.heap[g]? = some (.cells (curC k A n c i h) T (0, 0)) ∧ 0 ≤ i ∧ i ≤ (n : Int) ∧ n ≤ 4096 ∧ Bytes w g A n
theorem Bytes.below {w w' : World} {B B' n : Nat} {A : Option Addr} (h : Bytes w B A n) (hb : Below B' w w') (hB : B ≤ B') : Bytes w' B A n := fun hn => by
  obtain ⟨b, off, rfl, hlt, hc⟩ := h hn
  exact ⟨b, off, rfl, hlt, fun j hj => by obtain ⟨z, hz, hr⟩ := hc j hj; exact ⟨z, (hb.cell (p := ⟨b, off + j, none⟩) (by show b < B'; omega)).trans hz, hr⟩⟩
theorem Cur.of {T : TypeId} {k : IntKind} {w w' : World} {g : Nat} {A : Option Addr} {n c : Nat} {i h : Int} (hB : Bytes w g A n) (hm : n ≤ 4096) (hk : Keeps (· = g) w w') (hgs : g < w.heap.size)
    (hg : w'.heap[g]? = some (.cells (curC k A n c i h) T (0, 0))) (i0 : 0 ≤ i) (i1 : i ≤ (n : Int)) : Cur T k w' g :=
  ⟨A, n, c, i, h, hg, i0, i1, hm, hB.below (hk.below (B := g) (by omega) (fun b hb e => by omega)) (Nat.le_refl _)⟩
/-- Behind a draw of a number: it is from 0 to n - 1; only the cursor's own block has turned. -/
def Drawn (T : TypeId) (k : IntKind) (g : Nat) (n : Int) (w : World) (e : Ending) (w' : World) : Prop :=
  ∃ r : Int, e = .returned (.int .i64 r) ∧ 0 ≤ r ∧ r < n ∧ Cur T k w' g ∧ Keeps (· = g) w w'
theorem and_i8 (x : Int) : 0 ≤ bits .and .i64 x 255 ∧ bits .and .i64 x 255 ≤ 255 := bits_and_le .i64 (.inr rfl) x 255 (by decide)
set_option maxRecDepth 100000 in
set_option maxHeartbeats 1000000 in
theorem l1Byte_any (g : Nat) (w : World) (h : Cur 112 .i64 w g) :
    Calls Tryz.prog 100 #[.pointer (some ⟨g, 0, none⟩)] w (Drawn 112 .i64 g 256 w) := by
  obtain ⟨A, m, c, i, hh, hg, i0, i1, hm, hB⟩ := h
  have q0 := cell_of_row w g 0 _ _ _ hg
  have q1 := cell_of_row w g 1 _ _ _ hg
  have q2 := cell_of_row w g 2 _ _ _ hg
  have f2 := frozen_of_row w g 2 _ _ hg
  have f1 := frozen_of_row w g 1 _ _ hg
  simp at q0 q1 q2
  go_enter Tryz.func100, Tryz.ntmps100
  have HR := Lib.hid (and_i8 (bits BinOp.xor IntKind.i64 (wrap64 (wrap64 (hh * 6364136223846793005) + 1442695040888963407) / 8589934592) (wrap64 (wrap64 (hh * 6364136223846793005) + 1442695040888963407) / 35184372088832)))
  go_wp2_with fail
  go_quiet (fail)
  go_wp2_with fail
  generalize bits BinOp.and IntKind.i64 (bits BinOp.xor IntKind.i64 (wrap64 (wrap64 (hh * 6364136223846793005) + 1442695040888963407) / 8589934592) (wrap64 (wrap64 (hh * 6364136223846793005) + 1442695040888963407) / 35184372088832)) 255 = X at HR ⊢
  obtain ⟨X0, X1⟩ := HR.out
  have hgs : g < w.heap.size := (Array.getElem?_eq_some_iff.1 hg).1
  by_cases hlt : i < m
  · obtain ⟨b, off, rfl, hbg, hz⟩ := hB (by omega)
    obtain ⟨i, rfl⟩ := Int.eq_ofNat_of_zero_le i0
    obtain ⟨z, hz0, z0, z1⟩ := hz i (by omega)
    clear hz
    go_quiet (fail)
    have HB := Lib.hid hB
    clear hB
    have e1 : IntKind.i64.wrap (X + z) = X + z := IntWalk.i64_in _ (by omega)
    have e2 : IntKind.i64.wrap z = z := IntWalk.i64_in _ (by omega)
    have p1 : 0 ≤ X + z := by omega
    go_wp2_with fail
    go_quiet (fail)
    clear e1 e2
    go_wp2_with fail
    go_ret
    have HY := and_i8 (X + z)
    refine ⟨_, rfl, HY.1, by have := HY.2; omega, Cur.of (i := (i : Int) + 1) HB.out hm ?_ hgs (heap_setCell_same _ g 1 _ _ _ (heap_setCell_same w g 2 _ _ _ hg)) (by omega) (by omega), ?_⟩
    · exact ((((Keeps.refl (· = g) w).set (p := ⟨g, 2, none⟩) rfl _).drewN _)).set (p := ⟨g, 1, none⟩) rfl _
    · exact ((((Keeps.refl (· = g) w).set (p := ⟨g, 2, none⟩) rfl _).drewN _)).set (p := ⟨g, 1, none⟩) rfl _
  · go_quiet (fail)
    go_wp2_with fail
    go_ret
    refine ⟨_, rfl, X0, by omega, Cur.of (i := i) hB hm ?_ hgs (heap_setCell_same w g 2 _ _ _ hg) (by omega) (by omega), ?_⟩
    · exact ((Keeps.refl (· = g) w).set (p := ⟨g, 2, none⟩) rfl _).drewN _
    · exact ((Keeps.refl (· = g) w).set (p := ⟨g, 2, none⟩) rfl _).drewN _
set_option maxRecDepth 100000 in
set_option maxHeartbeats 1000000 in
theorem l1Below_any (g : Nat) (n : Int) (w : World) (h : Cur 112 .i64 w g) (h0 : 0 < n) (h1 : n ≤ 256) :
    Calls Tryz.prog 65 #[.pointer (some ⟨g, 0, none⟩), .int .i64 n] w (Drawn 112 .i64 g n w) := by
  have H := Lib.hid h
  clear h
  go_enter Tryz.func65, Tryz.ntmps65
  go_wp2_with fail
  refine (l1Byte_any g _ H.out).mono ?_
  rintro e w2 ⟨x, rfl, x0, x1, hc, hk⟩
  go_wp2_with fail
  go_ret
  exact ⟨_, rfl, Int.emod_nonneg _ (by omega), Int.emod_lt_of_pos _ h0, hc, hk⟩
set_option maxRecDepth 100000 in
set_option maxHeartbeats 2000000 in
/-- n great: from four bytes. -/
theorem l1Below_big (g : Nat) (n : Int) (w : World) (h : Cur 112 .i64 w g) (h0 : 256 < n) (h1 : n ≤ 2000000) :
    Calls Tryz.prog 65 #[.pointer (some ⟨g, 0, none⟩), .int .i64 n] w (Drawn 112 .i64 g n w) := by
  have H := Lib.hid h
  clear h
  go_enter Tryz.func65, Tryz.ntmps65
  go_wp2_with fail
  refine (l1Byte_any g _ H.out).mono ?_
  rintro e w2 ⟨x, rfl, x0, x1, hc, hk⟩
  have HC := Lib.hid hc
  clear hc
  go_wp2_with fail
  refine (l1Byte_any g _ HC.out).mono ?_
  rintro e w3 ⟨y, rfl, y0, y1, hc, hk2⟩
  have HD := Lib.hid hc
  clear hc
  go_wp2_with fail
  refine (l1Byte_any g _ HD.out).mono ?_
  rintro e w4 ⟨z, rfl, z0, z1, hc, hk3⟩
  have HE := Lib.hid hc
  clear hc
  go_wp2_with fail
  refine (l1Byte_any g _ HE.out).mono ?_
  rintro e w5 ⟨u, rfl, u0, u1, hc, hk4⟩
  go_wp2_with fail
  go_ret
  exact ⟨_, rfl, Int.emod_nonneg _ (by omega), Int.emod_lt_of_pos _ (by omega), hc, ((hk.trans hk2).trans hk3).trans hk4⟩
theorem Bytes.more {w : World} {B B' n : Nat} {A : Option Addr} (h : Bytes w B A n) (hB : B ≤ B') : Bytes w B' A n := fun hn => by
  obtain ⟨b, off, e, hlt, hc⟩ := h hn
  exact ⟨b, off, e, by omega, hc⟩

end Go.Proofs.YtdkmhaghnfhajaaGreat
/- A5 -/
set_option linter.unusedVariables false
namespace Go.Proofs.YtdkmhaghnfhajaaGreat
open Go.RowKit

theorem Cur.lt {T : TypeId} {k : IntKind} {w : World} {g : Nat} (h : Cur T k w g) : g < w.heap.size := by
  obtain ⟨A, n, c, i, hh, hg, _⟩ := h
  exact (Array.getElem?_eq_some_iff.1 hg).1
theorem Cur.keeps {T : TypeId} {k : IntKind} {S : Nat → Prop} {w w' : World} {g : Nat} (h : Cur T k w g) (kk : Keeps S w w') (hn : ∀ b, b ≤ g → ¬ S b) : Cur T k w' g := by
  have hlt := h.lt
  obtain ⟨A, n, c, i, hh, hg, i0, i1, hm, hB⟩ := h
  exact ⟨A, n, c, i, hh, (kk.block g hlt (hn g (Nat.le_refl _))).trans hg, i0, i1, hm, hB.below (kk.below (B := g) (by omega) (fun b hb => hn b (by omega))) (Nat.le_refl _)⟩
theorem Cur.below {T : TypeId} {k : IntKind} {w w' : World} {g : Nat} (h : Cur T k w g) (hb : Below w.heap.size w w') : Cur T k w' g :=
  h.keeps (S := fun _ => False) (Keeps.of_below hb) (fun _ _ => id)
/-- What a maker of a cursor answers. -/
def Rolled (T : TypeId) (k : IntKind) (w : World) (e : Ending) (w' : World) : Prop :=
  ∃ g, e = .returned (.pointer (some ⟨g, 0, none⟩)) ∧ w.heap.size ≤ g ∧ Cur T k w' g ∧ Below w.heap.size w w'
set_option maxRecDepth 100000 in
set_option maxHeartbeats 1000000 in
theorem l1New_any (A : Option Addr) (n c : Nat) (w : World) (hB : Bytes w w.heap.size A n) (hn : n ≤ 4096) :
    Calls Tryz.prog 43 #[.slice A n c] w (Rolled 112 .i64 w) := by
  have HB := Lib.hid hB
  clear hB
  go_enter Tryz.func43, Tryz.ntmps43
  go_wp2
  go_loop [3, 4] (fun h i => ∃ k : Nat, k ≤ n ∧ i = .int .i64 k ∧ ∃ z : Int, h = .int .i64 z) (fun _ i => n - (intOf i).toNat)
  case atStart => exact ⟨0, Nat.zero_le _, rfl, _, rfl⟩
  case round =>
    obtain ⟨k, hk, rfl, y, rfl⟩ := hrel
    by_cases hlt : k < n
    · obtain ⟨b, off, rfl, hbg, hz⟩ := HB.out (by omega)
      obtain ⟨z, hz0, z0, z1⟩ := hz k hlt
      clear hz
      go_wp2
      exact ⟨⟨k + 1, by omega, by go_num, _, rfl⟩, by simp [intOf]; omega⟩
    · obtain rfl : k = n := by omega
      go_wp2
      go_ret
      refine ⟨_, rfl, Nat.le_refl _, ⟨A, k, c, 0, y, heap_alloc_new _ _, by omega, by omega, hn, HB.out.below ((Below.refl _ _).alloc (Nat.le_refl _) _) (Nat.le_refl _)⟩, (Below.refl _ _).alloc (Nat.le_refl _) _⟩
/-- Behind a draw of a number from lo to hi. -/
def DrawnIn (T : TypeId) (k : IntKind) (g : Nat) (lo hi : Int) (w : World) (e : Ending) (w' : World) : Prop :=
  ∃ r : Int, e = .returned (.int .i64 r) ∧ lo ≤ r ∧ r ≤ hi ∧ Cur T k w' g ∧ Keeps (· = g) w w'
/-- Behind a draw of whatever number. -/
def DrawnInt (T : TypeId) (k : IntKind) (g : Nat) (w : World) (e : Ending) (w' : World) : Prop :=
  ∃ r : Int, e = .returned (.int .i64 r) ∧ Cur T k w' g ∧ Keeps (· = g) w w'
def DrawnBool (T : TypeId) (k : IntKind) (g : Nat) (w : World) (e : Ending) (w' : World) : Prop :=
  ∃ b : Bool, e = .returned (.bool b) ∧ Cur T k w' g ∧ Keeps (· = g) w w'
set_option maxRecDepth 100000 in
set_option maxHeartbeats 1000000 in
theorem l1From_any (g : Nat) (lo hi : Int) (w : World) (h : Cur 112 .i64 w g) (h0 : lo ≤ hi) (h1 : hi - lo < 256) (h2 : -1000 ≤ lo) (h3 : hi ≤ 1000) :
    Calls Tryz.prog 61 #[.pointer (some ⟨g, 0, none⟩), .int .i64 lo, .int .i64 hi] w (DrawnIn 112 .i64 g lo hi w) := by
  have H := Lib.hid h
  clear h
  go_enter Tryz.func61, Tryz.ntmps61
  go_wp2_with fail
  refine (l1Below_any g _ _ H.out (by omega) (by omega)).mono ?_
  rintro e w2 ⟨x, rfl, x0, x1, hc, hk⟩
  go_wp2_with fail
  go_ret
  exact ⟨_, rfl, by omega, by omega, hc, hk⟩
set_option maxRecDepth 100000 in
set_option maxHeartbeats 1000000 in
theorem l1Once_any (g : Nat) (n : Int) (w : World) (h : Cur 112 .i64 w g) (h0 : 0 < n) (h1 : n ≤ 256) :
    Calls Tryz.prog 60 #[.pointer (some ⟨g, 0, none⟩), .int .i64 n] w (DrawnBool 112 .i64 g w) := by
  have H := Lib.hid h
  clear h
  go_enter Tryz.func60, Tryz.ntmps60
  go_wp2_with fail
  refine (l1Below_any g _ _ H.out (by omega) (by omega)).mono ?_
  rintro e w2 ⟨x, rfl, x0, x1, hc, hk⟩
  go_wp2_with fail
  go_ret
  exact ⟨_, rfl, hc, hk⟩
theorem l1Min_any (a b : Int) (w : World) : Calls Tryz.prog 103 #[.int .i64 a, .int .i64 b] w fun e w' => e = .returned (.int .i64 (if a < b then a else b)) ∧ w = w' := by
  by_cases h : a < b
  · go_enter Tryz.func103, Tryz.ntmps103
    go_wp2_with fail
    go_ret
    exact ⟨ret_int rfl, rfl⟩
  · go_enter Tryz.func103, Tryz.ntmps103
    go_wp2_with fail
    go_ret
    exact ⟨ret_int rfl, rfl⟩
set_option maxRecDepth 100000 in
set_option maxHeartbeats 2000000 in
theorem l1Odd_any (g : Nat) (w : World) (h : Cur 112 .i64 w g) :
    Calls Tryz.prog 105 #[.pointer (some ⟨g, 0, none⟩)] w (DrawnInt 112 .i64 g w) := by
  have hl := h.lt
  have H := Lib.hid h
  clear h
  go_enter Tryz.func105, Tryz.ntmps105
  go_wp2_with fail
  have K1 : Below w.heap.size w _ := (Below.refl _ _).alloc (Nat.le_refl _) (.cells #[.int .i64 (-1), .int .i64 0, .int .i64 1, .int .i64 2147483648, .int .i64 (-2147483648), .int .i64 1099511627776, .int .i64 4611686018427387904, .int .i64 (-4611686018427387904), .int .i64 9223372036854775807, .int .i64 (-9223372036854775808)] 2)
  refine (l1Below_any g _ _ (H.out.below K1) (by omega) (by omega)).mono ?_
  rintro e w2 ⟨x, rfl, x0, x1, hc, hk⟩
  have hx : ∃ z : Int, w2.cell? ⟨w.heap.size, x.toNat, none⟩ = some (.int .i64 z) := by
    rw [hk.cell (p := ⟨w.heap.size, x.toNat, none⟩) (by simp) (by show ¬ w.heap.size = g; omega), cell_new]
    obtain ⟨x, rfl⟩ := Int.eq_ofNat_of_zero_le x0
    rw [Int.toNat_natCast]
    match x, x1 with
    | 0, _ => exact ⟨_, rfl⟩
    | 1, _ => exact ⟨_, rfl⟩
    | 2, _ => exact ⟨_, rfl⟩
    | 3, _ => exact ⟨_, rfl⟩
    | 4, _ => exact ⟨_, rfl⟩
    | 5, _ => exact ⟨_, rfl⟩
    | 6, _ => exact ⟨_, rfl⟩
    | 7, _ => exact ⟨_, rfl⟩
    | 8, _ => exact ⟨_, rfl⟩
    | 9, _ => exact ⟨_, rfl⟩
    | m + 10, h => omega
  obtain ⟨z, hz⟩ := hx
  have K2 : Keeps (· = g) w w2 := (Keeps.of_below K1).trans hk
  clear K1 hk
  obtain ⟨x, rfl⟩ := Int.eq_ofNat_of_zero_le x0
  rw [Int.toNat_natCast] at hz
  go_wp2_with fail
  go_ret
  exact ⟨_, rfl, hc, K2⟩
set_option maxRecDepth 100000 in
set_option maxHeartbeats 2000000 in
theorem l1Num_any (g : Nat) (most : Int) (w : World) (h : Cur 112 .i64 w g) (h0 : 0 ≤ most) (h1 : most ≤ 1500000) :
    Calls Tryz.prog 79 #[.pointer (some ⟨g, 0, none⟩), .int .i64 most] w (DrawnInt 112 .i64 g w) := by
  have hl := h.lt
  have H := Lib.hid h
  clear h
  go_enter Tryz.func79, Tryz.ntmps79
  go_wp2_with fail
  refine (l1Once_any g _ _ H.out (by omega) (by omega)).mono ?_
  rintro e w2 ⟨b, rfl, hc, hk⟩
  have HC := Lib.hid hc
  have hl2 := hc.lt
  clear hc H hl
  cases b
  · go_wp2_with fail
    refine (l1Once_any g _ _ HC.out (by omega) (by omega)).mono ?_
    rintro e w3 ⟨b, rfl, hc, hk2⟩
    have HD := Lib.hid hc
    clear hc HC hl2
    cases b
    · go_wp2_with fail
      by_cases hm : most + 1 ≤ 256
      · refine (l1Below_any g _ _ HD.out (by omega) (by omega)).mono ?_
        rintro e w4 ⟨x, rfl, x0, x1, hc, hk3⟩
        go_wp2_with fail
        go_ret
        exact ⟨_, rfl, hc, (hk.trans hk2).trans hk3⟩
      · refine (l1Below_big g _ _ HD.out (by omega) (by omega)).mono ?_
        rintro e w4 ⟨x, rfl, x0, x1, hc, hk3⟩
        go_wp2_with fail
        go_ret
        exact ⟨_, rfl, hc, (hk.trans hk2).trans hk3⟩
    · go_wp2_with fail
      refine (l1Min_any _ _ _).mono ?_
      rintro e w4 ⟨rfl, rfl⟩
      generalize hq : (if most < 4 then most else 4) = q
      have q0 : 0 ≤ q := by rw [← hq]; split <;> omega
      have q1 : q ≤ 4 := by rw [← hq]; split <;> omega
      clear hq
      go_wp2_with fail
      refine (l1Below_any g _ _ HD.out (by omega) (by omega)).mono ?_
      rintro e w4 ⟨x, rfl, x0, x1, hc, hk3⟩
      go_wp2_with fail
      go_ret
      exact ⟨_, rfl, hc, (hk.trans hk2).trans hk3⟩
  · go_wp2_with fail
    refine (l1Odd_any g _ HC.out).mono ?_
    rintro e w3 ⟨o, rfl, hc, hk2⟩
    have HD := Lib.hid hc
    have hl3 := hc.lt
    clear hc HC hl2
    go_wp2_with fail
    have K1 : Below w3.heap.size w3 _ := (Below.refl _ _).alloc (Nat.le_refl _) (.cells #[.int .i64 (-1), .int .i64 most, .int .i64 (most + 1), .int .i64 o] 2)
    refine (l1Below_any g _ _ (HD.out.below K1) (by omega) (by omega)).mono ?_
    rintro e w4 ⟨x, rfl, x0, x1, hc, hk3⟩
    have hx : ∃ z : Int, w4.cell? ⟨w3.heap.size, x.toNat, none⟩ = some (.int .i64 z) := by
      rw [hk3.cell (p := ⟨w3.heap.size, x.toNat, none⟩) (by simp) (by show ¬ w3.heap.size = g; omega), cell_new]
      obtain ⟨x, rfl⟩ := Int.eq_ofNat_of_zero_le x0
      rw [Int.toNat_natCast]
      match x, x1 with
      | 0, _ => exact ⟨_, rfl⟩
      | 1, _ => exact ⟨_, rfl⟩
      | 2, _ => exact ⟨_, rfl⟩
      | 3, _ => exact ⟨_, rfl⟩
      | m + 4, h => omega
    obtain ⟨z, hz⟩ := hx
    have K2 : Keeps (· = g) w w4 := (hk.trans hk2).trans ((Keeps.of_below K1).trans hk3)
    clear K1 hk3
    obtain ⟨x, rfl⟩ := Int.eq_ofNat_of_zero_le x0
    rw [Int.toNat_natCast] at hz
    go_wp2_with fail
    go_ret
    exact ⟨_, rfl, hc, K2⟩

end Go.Proofs.YtdkmhaghnfhajaaGreat
/- A8 -/
set_option linter.unusedVariables false
namespace Go.Proofs.YtdkmhaghnfhajaaGreat
open Go.RowKit

theorem big_any (A : Option Addr) (n c : Nat) (w : World) (hn : n ≤ maxLen) : Calls Tryz.prog 7 #[.slice A n c] w fun e w' => e = .returned (.bool (decide (4096 < (n : Int)))) ∧ w = w' := by
  go_enter Tryz.func7, Tryz.ntmps7
  go_wp2
  go_ret
  exact ⟨rfl, rfl⟩

end Go.Proofs.YtdkmhaghnfhajaaGreat
/- A6 -/
set_option linter.unusedVariables false
namespace Go.Proofs.YtdkmhaghnfhajaaGreat
open Go.ChangeShapes Go.WideShapes Go.ChangeAt Go.RowKit Go.Deep

section
variable {H : Type} {enc : TypeId × Value → H} {P : Program} {w : World} {spare : Nat → Bool} {held : Bool}
end

theorem own_ : ownKnob Tryz.prog.godebug = none := by kernel_rfl
theorem laid_ : laidOutB Tryz.prog = true := by kernel_rfl

end Go.Proofs.YtdkmhaghnfhajaaGreat
/- A9 -/
set_option linter.unusedVariables false
namespace Go.Proofs.YtdkmhaghnfhajaaGreat
open Go.ChangeShapes Go.WideShapes Go.ChangeAt Go.RowKit Go.Deep

set_option maxRecDepth 100000 in
theorem open_bytes {H : Type} {enc : TypeId × Value → H} {W : World} {spare : Nat → Bool} {held : Bool} {r : Reach} {b0 : Nat} {v : Value} {d : DataW H} {p : List MemPlace}
    (hv : Value.okWide Tryz.prog W r b0 22 v) (h : DataW.Trod enc Tryz.prog W 0 spare held 22 v d p) : ∃ A n c, v = .slice A n c ∧ n ≤ maxLen ∧ Bytes W W.heap.size A n := by
  obtain ⟨a0, l0, c0, rfl⟩ := okWide_slice Tryz.underlying22 hv
  obtain ⟨fuel, hf⟩ := h
  have hf : DataW.trod enc Tryz.prog W 0 spare held fuel 22 [.slice a0 l0 c0] = some (d, p) := hf
  rcases open_ints Tryz.underlying22 Tryz.underlying5 (by kernel_rfl) hf with ⟨h1, _⟩ | ⟨a, len, cap, zs, hcs, hb, hl, hm, hz, hx, hcell, hwf⟩
  · injection h1 with h1 _
    exact ⟨none, 0, 0, h1, Nat.zero_le _, fun h0 => absurd h0 (by omega)⟩
  · injection hcs with hv _
    have hlm : len ≤ zs.length := by rw [hz]; split <;> omega
    refine ⟨some a, len, cap, hv, Nat.le_trans hl hm, fun hn => ?_⟩
    have h0 := hcell 0 (by omega)
    have hsp : a.spot = none := by simpa [Addr.add] using World.cell?_spot h0
    obtain ⟨b, off, sp⟩ := a
    subst hsp
    refine ⟨b, off, rfl, block_lt_of_cell h0, fun j hj => ⟨zs.getD j 0, by have := hcell j (by omega); rwa [add_plain] at this, ?_⟩⟩
    have := hwf (zs.getD j 0) (by rw [List.getD_eq_getElem?_getD, List.getElem?_eq_getElem (by omega)]; exact List.getElem_mem _)
    generalize zs.getD j 0 = z at this ⊢
    simp [Lit.wf, IntKind.min, IntKind.max, IntKind.signed, IntKind.bits] at this
    omega

end Go.Proofs.YtdkmhaghnfhajaaGreat
/- Pa -/
namespace Go.Proofs.YtdkmhaghnfhajaaGreat
open Go.RowKit
/-- the plan as a value: its four lists and three numbers -/
abbrev planV (A0 A1 A2 A3 : Option Addr) (n0 c0 n1 c1 n2 c2 n3 c3 : Nat) (l p t : Int) : Value :=
  .agg #[.slice A0 n0 c0, .slice A1 n1 c1, .slice A2 n2 c2, .slice A3 n3 c3, .int .i64 l, .int .i64 p, .int .i64 t]

def sizesB (n0 n1 n2 n3 : Nat) : Bool := decide (n0 ≤ 12) && decide (n1 ≤ 4) && decide (n2 ≤ 12) && decide (n3 ≤ 12)
def timesB (l p t : Int) : Bool := inB l 0 500 && inB p 1 9 && inB t p 30
set_option maxHeartbeats 400000 in
theorem sizesRight_any (A0 A1 A2 A3 : Option Addr) (n0 c0 n1 c1 n2 c2 n3 c3 : Nat) (l p t : Int) (w : World)
    (b0 : n0 ≤ maxLen) (b1 : n1 ≤ maxLen) (b2 : n2 ≤ maxLen) (b3 : n3 ≤ maxLen) :
    Calls Tryz.prog 71 #[planV A0 A1 A2 A3 n0 c0 n1 c1 n2 c2 n3 c3 l p t] w fun e w' =>
      e = .returned (.bool (sizesB n0 n1 n2 n3)) ∧ Below w.heap.size w w' := by
  unfold maxLen at b0 b1 b2 b3
  go_enter Tryz.func71, Tryz.ntmps71
  go_wp2
  all_goals (go_ret; refine ⟨ret_bool ?_, (Below.refl _ _).alloc (Nat.le_refl _) _⟩)
  all_goals (unfold sizesB; rw [Bool.eq_iff_iff]; simp; omega)

set_option maxHeartbeats 400000 in
theorem timesRight_any (A0 A1 A2 A3 : Option Addr) (n0 c0 n1 c1 n2 c2 n3 c3 : Nat) (l p t : Int) (w : World) :
    Calls Tryz.prog 72 #[planV A0 A1 A2 A3 n0 c0 n1 c1 n2 c2 n3 c3 l p t] w fun e w' =>
      e = .returned (.bool (timesB l p t)) ∧ Below w.heap.size w w' := by
  unfold timesB
  cases h1 : inB l 0 500
  · go_enter Tryz.func72, Tryz.ntmps72
    go_wp2_with (go_at_call 68; refine (within_any _ _ _ _).mono ?_; rintro e w' ⟨rfl, rfl⟩)
    go_ret
    exact ⟨rfl, (Below.refl _ _).alloc (Nat.le_refl _) _⟩
  · cases h2 : inB p 1 9
    · go_enter Tryz.func72, Tryz.ntmps72
      go_wp2_with (go_at_call 68; refine (within_any _ _ _ _).mono ?_; rintro e w' ⟨rfl, rfl⟩)
      go_ret
      exact ⟨rfl, (Below.refl _ _).alloc (Nat.le_refl _) _⟩
    · go_enter Tryz.func72, Tryz.ntmps72
      go_wp2_with (go_at_call 68; refine (within_any _ _ _ _).mono ?_; rintro e w' ⟨rfl, rfl⟩)
      go_ret
      exact ⟨ret_bool (by simp), (Below.refl _ _).alloc (Nat.le_refl _) _⟩
end Go.Proofs.YtdkmhaghnfhajaaGreat
/- Pb -/
set_option linter.unusedVariables false
namespace Go.Proofs.YtdkmhaghnfhajaaGreat
open Go.RowKit
def podB (n1 : Nat) (x : Nat → Int) (i : Nat) : Bool := inB (x (i * 4)) 0 (n1 - 1) && inB (x (i * 4 + 1)) 0 5 && inB (x (i * 4 + 2)) 0 500 && inB (x (i * 4 + 3)) 0 500

set_option maxHeartbeats 400000 in
theorem podRight_any (A0 A1 A2 A3 : Option Addr) (n0 c0 n1 c1 n2 c2 n3 c3 : Nat) (l p t : Int) (x0 : Nat → Int) (i : Nat) (w : World)
    (s0 : Sl w w.heap.size 4 A0 n0 x0) (hi : i < n0) (b0 : n0 ≤ maxLen) (b1 : n1 ≤ maxLen) :
    Calls Tryz.prog 74 #[planV A0 A1 A2 A3 n0 c0 n1 c1 n2 c2 n3 c3 l p t, .int .i64 i] w fun e w' =>
      e = .returned (.bool (podB n1 x0 i)) ∧ Below w.heap.size w w' := by
  unfold maxLen at b0 b1
  obtain ⟨b, off, rfl, hb, q0, q1, q2, q3⟩ := s0.cell4 hi
  clear s0
  go_enter Tryz.func74, Tryz.ntmps74
  go_wp2_with (first | (go_at_call 68; refine (within_any _ _ _ _).mono ?_; rintro e w' ⟨rfl, rfl⟩) | (go_at_call 54; refine (isIndex_any _ _ _).mono ?_; rintro e w' ⟨rfl, rfl⟩))
  all_goals (go_ret; refine ⟨ret_bool ?_, ((Below.refl _ _).alloc (Nat.le_refl _) _).alloc (by simp) _⟩)
  all_goals simp [podB, *]

def minB (x : Nat → Int) (i : Nat) : Bool := inB (x i) 0 12
set_option maxHeartbeats 400000 in
theorem minRight_any (A0 A1 A2 A3 : Option Addr) (n0 c0 n1 c1 n2 c2 n3 c3 : Nat) (l p t : Int) (x1 : Nat → Int) (i : Nat) (w : World)
    (s1 : Sl w w.heap.size 1 A1 n1 x1) (hi : i < n1) (b1 : n1 ≤ maxLen) :
    Calls Tryz.prog 75 #[planV A0 A1 A2 A3 n0 c0 n1 c1 n2 c2 n3 c3 l p t, .int .i64 i] w fun e w' =>
      e = .returned (.bool (minB x1 i)) ∧ Below w.heap.size w w' := by
  unfold maxLen at b1
  obtain ⟨b, off, rfl, hb, q0⟩ := s1.cell1 hi
  clear s1
  go_enter Tryz.func75, Tryz.ntmps75
  go_wp2_with (first | (go_at_call 68; refine (within_any _ _ _ _).mono ?_; rintro e w' ⟨rfl, rfl⟩))
  go_ret
  exact ⟨rfl, (Below.refl _ _).alloc (Nat.le_refl _) _⟩

def mountB (n0 : Nat) (x : Nat → Int) (i : Nat) : Bool := inB (x (i * 2)) 0 (n0 - 1) && inB (x (i * 2 + 1)) (-1) (i - 1)
theorem mountB_eq (n0 : Nat) (x : Nat → Int) (i : Nat) : mountB n0 x i = (inB (x (i * 2)) 0 (n0 - 1) && (x (i * 2 + 1) == -1 || inB (x (i * 2 + 1)) 0 (i - 1))) := by
  unfold mountB
  congr 1
  rw [Bool.eq_iff_iff]
  simp [inB]
  omega
set_option maxHeartbeats 400000 in
theorem mountRight_any (A0 A1 A2 A3 : Option Addr) (n0 c0 n1 c1 n2 c2 n3 c3 : Nat) (l p t : Int) (x2 : Nat → Int) (i : Nat) (w : World)
    (s2 : Sl w w.heap.size 2 A2 n2 x2) (hi : i < n2) (b0 : n0 ≤ maxLen) (b2 : n2 ≤ maxLen) :
    Calls Tryz.prog 76 #[planV A0 A1 A2 A3 n0 c0 n1 c1 n2 c2 n3 c3 l p t, .int .i64 i] w fun e w' =>
      e = .returned (.bool (mountB n0 x2 i)) ∧ Below w.heap.size w w' := by
  rw [mountB_eq]
  unfold maxLen at b0 b2
  obtain ⟨b, off, rfl, hb, q0, q1⟩ := s2.cell2 hi
  clear s2
  go_enter Tryz.func76, Tryz.ntmps76
  go_wp2_with (first | (go_at_call 54; refine (isIndex_any _ _ _).mono ?_; rintro e w' ⟨rfl, rfl⟩))
  all_goals (go_ret; refine ⟨ret_bool ?_, ((Below.refl _ _).alloc (Nat.le_refl _) _).alloc (by simp) _⟩)
  all_goals simp [*]

def deviceB (n2 : Nat) (x : Nat → Int) (i : Nat) : Bool := inB (x i) 0 (n2 - 1)
set_option maxHeartbeats 400000 in
theorem deviceRight_any (A0 A1 A2 A3 : Option Addr) (n0 c0 n1 c1 n2 c2 n3 c3 : Nat) (l p t : Int) (x3 : Nat → Int) (i : Nat) (w : World)
    (s3 : Sl w w.heap.size 1 A3 n3 x3) (hi : i < n3) (b2 : n2 ≤ maxLen) (b3 : n3 ≤ maxLen) :
    Calls Tryz.prog 77 #[planV A0 A1 A2 A3 n0 c0 n1 c1 n2 c2 n3 c3 l p t, .int .i64 i] w fun e w' =>
      e = .returned (.bool (deviceB n2 x3 i)) ∧ Below w.heap.size w w' := by
  unfold maxLen at b2 b3
  obtain ⟨b, off, rfl, hb, q0⟩ := s3.cell1 hi
  clear s3
  go_enter Tryz.func77, Tryz.ntmps77
  go_wp2_with fail
  go_quiet ((go_at_call 54; exact Calls.quiet_of_same ((isIndex_any _ _ _).mono fun e w' h => ⟨h.1, h.2.symm⟩)))
  go_wp2
  go_ret
  exact ⟨rfl, below_drewN ((Below.refl _ _).alloc (Nat.le_refl _) _) _⟩
end Go.Proofs.YtdkmhaghnfhajaaGreat
/- Pc -/
set_option linter.unusedVariables false
namespace Go.Proofs.YtdkmhaghnfhajaaGreat
open Go.RowKit
theorem enter_podRight (x y : Value) (wr : World) : (callFunc 74 #[x, y]).run Tryz.prog wr = .ok (.enter 74 #[x, y]) wr := by simp [go_sem]
theorem enter_minRight (x y : Value) (wr : World) : (callFunc 75 #[x, y]).run Tryz.prog wr = .ok (.enter 75 #[x, y]) wr := by simp [go_sem]
theorem enter_mountRight (x y : Value) (wr : World) : (callFunc 76 #[x, y]).run Tryz.prog wr = .ok (.enter 76 #[x, y]) wr := by simp [go_sem]
theorem enter_deviceRight (x y : Value) (wr : World) : (callFunc 77 #[x, y]).run Tryz.prog wr = .ok (.enter 77 #[x, y]) wr := by simp [go_sem]

/-- What a plan holds: how many, and the numbers. -/
structure PlanD where
  n0 : Nat
  n1 : Nat
  n2 : Nat
  n3 : Nat
  x0 : Nat → Int
  x1 : Nat → Int
  x2 : Nat → Int
  x3 : Nat → Int
  l : Int
  p : Int
  t : Int

/-- A plan's value, read in world w below block B. -/
structure IsPlan (w : World) (B : Nat) (v : Value) (d : PlanD) : Prop where
  val : ∃ A0 A1 A2 A3 c0 c1 c2 c3, v = planV A0 A1 A2 A3 d.n0 c0 d.n1 c1 d.n2 c2 d.n3 c3 d.l d.p d.t ∧ Sl w B 4 A0 d.n0 d.x0 ∧ Sl w B 1 A1 d.n1 d.x1 ∧ Sl w B 2 A2 d.n2 d.x2 ∧ Sl w B 1 A3 d.n3 d.x3
  b0 : d.n0 ≤ maxLen
  b1 : d.n1 ≤ maxLen
  b2 : d.n2 ≤ maxLen
  b3 : d.n3 ≤ maxLen

theorem IsPlan.below {w w' : World} {B B' : Nat} {v : Value} {d : PlanD} (h : IsPlan w B v d) (hb : Below B' w w') (hB : B ≤ B') : IsPlan w' B v d := by
  obtain ⟨⟨A0, A1, A2, A3, c0, c1, c2, c3, hv, s0, s1, s2, s3⟩, b0, b1, b2, b3⟩ := h
  exact ⟨⟨A0, A1, A2, A3, c0, c1, c2, c3, hv, s0.below hb hB, s1.below hb hB, s2.below hb hB, s3.below hb hB⟩, b0, b1, b2, b3⟩
theorem IsPlan.more {w : World} {B B' : Nat} {v : Value} {d : PlanD} (h : IsPlan w B v d) (hB : B ≤ B') : IsPlan w B' v d := by
  obtain ⟨⟨A0, A1, A2, A3, c0, c1, c2, c3, hv, s0, s1, s2, s3⟩, b0, b1, b2, b3⟩ := h
  exact ⟨⟨A0, A1, A2, A3, c0, c1, c2, c3, hv, s0.more hB, s1.more hB, s2.more hB, s3.more hB⟩, b0, b1, b2, b3⟩

/-- A plan is right. -/
def planOkB (d : PlanD) : Bool :=
  sizesB d.n0 d.n1 d.n2 d.n3 && timesB d.l d.p d.t && allB d.n0 (podB d.n1 d.x0) && allB d.n1 (minB d.x1) && allB d.n2 (mountB d.n0 d.x2) && allB d.n3 (deviceB d.n2 d.x3)

section
variable (A0 A1 A2 A3 : Option Addr) (n0 c0 n1 c1 n2 c2 n3 c3 : Nat) (l p t : Int) (x0 x1 x2 x3 : Nat → Int) (w W : World)
theorem all_pods (K : Below w.heap.size w W) (s0 : Sl w w.heap.size 4 A0 n0 x0) (b0 : n0 ≤ maxLen) (b1 : n1 ≤ maxLen) :
    Calls Tryz.prog 73 #[.int .i64 n0, .func (.func 74) #[planV A0 A1 A2 A3 n0 c0 n1 c1 n2 c2 n3 c3 l p t] #[]] W fun e w' =>
      e = .returned (.bool (allB n0 (podB n1 x0))) ∧ Below W.heap.size W w' :=
  allBelow_any _ _ n0 _ W b0 enter_podRight fun i hi wr hb =>
    podRight_any A0 A1 A2 A3 n0 c0 n1 c1 n2 c2 n3 c3 l p t x0 i wr ((s0.below (below_via K hb) (Nat.le_refl _)).more (below_via K hb).size) hi b0 b1
theorem all_mins (K : Below w.heap.size w W) (s1 : Sl w w.heap.size 1 A1 n1 x1) (b1 : n1 ≤ maxLen) :
    Calls Tryz.prog 73 #[.int .i64 n1, .func (.func 75) #[planV A0 A1 A2 A3 n0 c0 n1 c1 n2 c2 n3 c3 l p t] #[]] W fun e w' =>
      e = .returned (.bool (allB n1 (minB x1))) ∧ Below W.heap.size W w' :=
  allBelow_any _ _ n1 _ W b1 enter_minRight fun i hi wr hb =>
    minRight_any A0 A1 A2 A3 n0 c0 n1 c1 n2 c2 n3 c3 l p t x1 i wr ((s1.below (below_via K hb) (Nat.le_refl _)).more (below_via K hb).size) hi b1
theorem all_mounts (K : Below w.heap.size w W) (s2 : Sl w w.heap.size 2 A2 n2 x2) (b0 : n0 ≤ maxLen) (b2 : n2 ≤ maxLen) :
    Calls Tryz.prog 73 #[.int .i64 n2, .func (.func 76) #[planV A0 A1 A2 A3 n0 c0 n1 c1 n2 c2 n3 c3 l p t] #[]] W fun e w' =>
      e = .returned (.bool (allB n2 (mountB n0 x2))) ∧ Below W.heap.size W w' :=
  allBelow_any _ _ n2 _ W b2 enter_mountRight fun i hi wr hb =>
    mountRight_any A0 A1 A2 A3 n0 c0 n1 c1 n2 c2 n3 c3 l p t x2 i wr ((s2.below (below_via K hb) (Nat.le_refl _)).more (below_via K hb).size) hi b0 b2
theorem all_devices (K : Below w.heap.size w W) (s3 : Sl w w.heap.size 1 A3 n3 x3) (b2 : n2 ≤ maxLen) (b3 : n3 ≤ maxLen) :
    Calls Tryz.prog 73 #[.int .i64 n3, .func (.func 77) #[planV A0 A1 A2 A3 n0 c0 n1 c1 n2 c2 n3 c3 l p t] #[]] W fun e w' =>
      e = .returned (.bool (allB n3 (deviceB n2 x3))) ∧ Below W.heap.size W w' :=
  allBelow_any _ _ n3 _ W b3 enter_deviceRight fun i hi wr hb =>
    deviceRight_any A0 A1 A2 A3 n0 c0 n1 c1 n2 c2 n3 c3 l p t x3 i wr ((s3.below (below_via K hb) (Nat.le_refl _)).more (below_via K hb).size) hi b2 b3
end

set_option maxHeartbeats 2000000 in
theorem planOk_any (v : Value) (d : PlanD) (w : World) (h : IsPlan w w.heap.size v d) :
    Calls Tryz.prog 42 #[v] w fun e w' => e = .returned (.bool (planOkB d)) ∧ Below w.heap.size w w' := by
  obtain ⟨⟨A0, A1, A2, A3, c0, c1, c2, c3, rfl, s0, s1, s2, s3⟩, b0, b1, b2, b3⟩ := h
  obtain ⟨n0, n1, n2, n3, x0, x1, x2, x3, l, p, t⟩ := d
  dsimp only at *
  have S0 := Lib.hid s0
  have S1 := Lib.hid s1
  have S2 := Lib.hid s2
  have S3 := Lib.hid s3
  have B0 := Lib.hid b0
  have B1 := Lib.hid b1
  have B2 := Lib.hid b2
  have B3 := Lib.hid b3
  clear s0 s1 s2 s3 b0 b1 b2 b3
  go_enter Tryz.func42, Tryz.ntmps42
  go_wp2_with fail
  refine (sizesRight_any A0 A1 A2 A3 n0 c0 n1 c1 n2 c2 n3 c3 l p t _ B0.out B1.out B2.out B3.out).mono ?_
  rintro e w1 ⟨rfl, hb1⟩
  have X1 := (Own.box w _ _).step hb1
  have hC1 := X1.C
  clear hb1
  go_wp2_with (first
    | (go_at_call 72; refine (timesRight_any A0 A1 A2 A3 n0 c0 n1 c1 n2 c2 n3 c3 l p t _).mono ?_; rintro e w2 ⟨rfl, hb2⟩; have X2 := X1.step hb2; have hC2 := X2.C; clear hb2)
    | (with_reducible refine (all_pods A0 A1 A2 A3 n0 c0 n1 c1 n2 c2 n3 c3 l p t x0 w _ X2.K S0.out B0.out B1.out).mono ?_; rintro e w3 ⟨rfl, hb3⟩; have X3 := X2.step hb3; have hC3 := X3.C; clear hb3)
    | (with_reducible refine (all_mins A0 A1 A2 A3 n0 c0 n1 c1 n2 c2 n3 c3 l p t x1 w _ X3.K S1.out B1.out).mono ?_; rintro e w4 ⟨rfl, hb4⟩; have X4 := X3.step hb4; have hC4 := X4.C; clear hb4)
    | (with_reducible refine (all_mounts A0 A1 A2 A3 n0 c0 n1 c1 n2 c2 n3 c3 l p t x2 w _ X4.K S2.out B0.out B2.out).mono ?_; rintro e w5 ⟨rfl, hb5⟩; have X5 := X4.step hb5; have hC5 := X5.C; clear hb5)
    | (with_reducible refine (all_devices A0 A1 A2 A3 n0 c0 n1 c1 n2 c2 n3 c3 l p t x3 w _ X5.K S3.out B2.out B3.out).mono ?_; rintro e w6 ⟨rfl, hb6⟩; have X6 := X5.step hb6; have hC6 := X6.C; clear hb6))
  all_goals (go_ret; refine ⟨ret_bool (by simp [planOkB, *]), ?_⟩)
  · exact X6.K
  · exact X5.K
  · exact X4.K
  · exact X3.K
  · exact X2.K
  · exact X1.K
end Go.Proofs.YtdkmhaghnfhajaaGreat
