/-
  'all below n', and the plan's own whole check.
-/
import Derived.Test.YtkefbmbjkijilaaGreatDoorRows
import Derived.WalkKit
import Derived.WalkSpells
import Derived.WalkLawsBesides
import Derived.Deep.Draws
import Derived.Deep.QuietTactic
import Derived.BigQuiet
import Derived.WalkSmall
import Derived.Lib.Hide
import Derived.Deep.AppendLies
import Derived.RegionTactic
import Derived.BigRegion
import Derived.ProofKit
import Derived.Deep.Slices
import Derived.Deep.Fields
import Derived.ChangeSame
import Derived.JoinedOf
/- A0 -/
set_option linter.unusedVariables false
namespace Go.Proofs.YtkefbmbjkijilaaGreatDoor
open Go.RowKit

/-- lo ≤ x ≤ hi, as a Bool that stays shut. -/
def inB (x lo hi : Int) : Bool := decide (lo ≤ x) && decide (x ≤ hi)

theorem inB_true {x lo hi : Int} : inB x lo hi = true ↔ lo ≤ x ∧ x ≤ hi := by simp [inB]

set_option maxHeartbeats 400000 in
theorem in_any (x lo hi : Int) (w : World) :
    Calls Tryz.prog 63 #[.int .i64 x, .int .i64 lo, .int .i64 hi] w fun e w' => e = .returned (.bool (inB x lo hi)) ∧ w = w' := by
  by_cases h1 : lo ≤ x
  · go_enter Tryz.func63, Tryz.ntmps63
    go_wp2
    go_ret
    exact ⟨by simp [inB, h1], rfl⟩
  · go_enter Tryz.func63, Tryz.ntmps63
    go_wp2
    go_ret
    exact ⟨by simp [inB]; omega, rfl⟩

set_option maxHeartbeats 400000 in
theorem within_any (x lo hi : Int) (w : World) :
    Calls Tryz.prog 133 #[.int .i64 x, .int .i64 lo, .int .i64 hi] w fun e w' => e = .returned (.bool (inB x lo hi)) ∧ w = w' := by
  by_cases h1 : lo ≤ x
  · go_enter Tryz.func133, Tryz.ntmps133
    go_wp2
    go_ret
    exact ⟨by simp [inB, h1], rfl⟩
  · go_enter Tryz.func133, Tryz.ntmps133
    go_wp2
    go_ret
    exact ⟨by simp [inB]; omega, rfl⟩

set_option maxHeartbeats 400000 in
theorem isIndex_any (x n : Int) (w : World) :
    Calls Tryz.prog 134 #[.int .i64 x, .int .i64 n] w fun e w' => e = .returned (.bool (inB x 0 (n - 1))) ∧ w = w' := by
  have e : ∀ a b : Int, decide (a ≤ b - 1) = decide (a < b) := fun a b => by rw [Bool.eq_iff_iff]; simp; omega
  by_cases h1 : 0 ≤ x
  · go_enter Tryz.func134, Tryz.ntmps134
    go_wp2
    go_ret
    exact ⟨by simp [inB, h1, e], rfl⟩
  · go_enter Tryz.func134, Tryz.ntmps134
    go_wp2
    go_ret
    exact ⟨by simp [inB]; omega, rfl⟩

def szI (left : Int) (n : Nat) : Int := if left - n < 0 then -1 else left - n

theorem szI_pos {left : Int} {n : Nat} (h : (n : Int) ≤ left) : szI left n = left - n := by unfold szI; rw [if_neg (by omega)]

theorem szI_neg {left : Int} {n : Nat} (h : ¬ (n : Int) ≤ left) : szI left n = -1 := by unfold szI; rw [if_pos (by omega)]

theorem ret_bool {a b : Bool} (h : a = b) : Ending.returned (.bool a) = .returned (.bool b) := by rw [h]

theorem ret_int {k : IntKind} {a b : Int} (h : a = b) : Ending.returned (.int k a) = .returned (.int k b) := by rw [h]

theorem ret_two {a b a' b' : Value} (h1 : a = a') (h2 : b = b') : Ending.returned (.tuple #[a, b]) = .returned (.tuple #[a', b']) := by rw [h1, h2]

theorem ret_three {a b c a' b' c' : Value} (h1 : a = a') (h2 : b = b') (h3 : c = c') : Ending.returned (.tuple #[a, b, c]) = .returned (.tuple #[a', b', c']) := by rw [h1, h2, h3]

theorem int_eq {k : IntKind} {a b : Int} (h : a = b) : Value.int k a = .int k b := by rw [h]

theorem bool_eq {a b : Bool} (h : a = b) : Value.bool a = .bool b := by rw [h]

end Go.Proofs.YtkefbmbjkijilaaGreatDoor
/- A1 -/
set_option linter.unusedVariables false
namespace Go.Proofs.YtkefbmbjkijilaaGreatDoor
open Go.RowKit

/-- The slice value with address A and length n holds x 0, x 1, .. (k cells an element), below block B. -/
def Sl (w : World) (B k : Nat) (A : Option Addr) (n : Nat) (x : Nat → Int) : Prop :=
  0 < n → ∃ b off, A = some ⟨b, off, none⟩ ∧ b < B ∧ ∀ j, j < n * k → w.cell? ⟨b, off + j, none⟩ = some (.int .i64 (x j))
theorem Sl.below {w w' : World} {B B' k n : Nat} {A : Option Addr} {x : Nat → Int} (h : Sl w B k A n x) (hb : Below B' w w') (hB : B ≤ B') : Sl w' B k A n x := fun hn => by
  obtain ⟨b, off, rfl, hlt, hc⟩ := h hn
  exact ⟨b, off, rfl, hlt, fun j hj => (hb.cell (p := ⟨b, off + j, none⟩) (by show b < B'; omega)).trans (hc j hj)⟩
theorem Sl.more {w : World} {B B' k n : Nat} {A : Option Addr} {x : Nat → Int} (h : Sl w B k A n x) (hB : B ≤ B') : Sl w B' k A n x := fun hn => by
  obtain ⟨b, off, rfl, hlt, hc⟩ := h hn
  exact ⟨b, off, rfl, by omega, hc⟩
/-- Of the worlds w (when a call began) and w1 (now): below w nothing has turned; block g holds just cs, all writable. -/
structure Own (w w1 : World) (g : Nat) (cs : Array Value) : Prop where
  K : Below w.heap.size w w1
  z : g < w1.heap.size
  C : ∀ o, w1.cell? ⟨g, o, none⟩ = cs[o]?
  F : ∀ o, w1.frozen? ⟨g, o, none⟩ = false
theorem cell_new (w : World) (cs : Array Value) (t : TypeId) (o : Nat) : (w.alloc (.cells cs t)).cell? ⟨w.heap.size, o, none⟩ = cs[o]? :=
  cell_of_row _ _ _ _ _ _ (heap_alloc_new w _)
theorem Own.box2 {w w1 : World} (K : Below w.heap.size w w1) (cs : Array Value) (t : TypeId) : Own w (w1.alloc (.cells cs t)) w1.heap.size cs :=
  ⟨K.alloc K.size _, by simp, cell_new w1 cs t, fun o => frozen_of_row _ _ _ _ _ (heap_alloc_new w1 _)⟩
theorem Own.box (w : World) (cs : Array Value) (t : TypeId) : Own w (w.alloc (.cells cs t)) w.heap.size cs := Own.box2 (Below.refl _ _) cs t
theorem Own.step {w w1 w2 : World} {g : Nat} {cs : Array Value} (h : Own w w1 g cs) (hb : Below w1.heap.size w1 w2) : Own w w2 g cs :=
  ⟨h.K.trans (hb.mono h.K.size), Nat.lt_of_lt_of_le h.z hb.size, fun o => (hb.cell (p := ⟨g, o, none⟩) h.z).trans (h.C o), fun o => (hb.frozen (p := ⟨g, o, none⟩) h.z).trans (h.F o)⟩
theorem Own.alloc {w w1 : World} {g : Nat} {cs : Array Value} (h : Own w w1 g cs) (o : Obj) : Own w (w1.alloc o) g cs :=
  h.step ((Below.refl _ _).alloc (Nat.le_refl _) _)
theorem Own.drew {w w1 : World} {g : Nat} {cs : Array Value} (h : Own w w1 g cs) : Own w w1.drew g cs := h.step (Below.refl _ _).drew
theorem Own.drewN {w w1 : World} {g : Nat} {cs : Array Value} (h : Own w w1 g cs) (n : Nat) : Own w (w1.drewN n) g cs := h.step (below_drewN (Below.refl _ _) n)
theorem Own.far {w w1 : World} {g : Nat} {cs : Array Value} (h : Own w w1 g cs) {p : Addr} (hp : w.heap.size ≤ p.block) (hne : p.block ≠ g) (v : Value) : Own w (w1.setCell p v) g cs :=
  ⟨h.K.setCell hp v, by simpa [World.setCell] using h.z, fun o => (World.cell?_setCell_other _ _ _ _ (fun e => hne (by rw [e]))).trans (h.C o), fun o => by rw [World.frozen?_setCell]; exact h.F o⟩
theorem Own.set {w w1 : World} {g : Nat} {cs : Array Value} (h : Own w w1 g cs) (hg : w.heap.size ≤ g) {i : Nat} (hi : i < cs.size) (v : Value) : Own w (w1.setCell ⟨g, i, none⟩ v) g (cs.setIfInBounds i v) :=
  ⟨h.K.setCell hg v, by simpa [World.setCell] using h.z, fun o => by
    by_cases e : o = i
    · subst e
      have hc := (h.C o).trans (Array.getElem?_eq_getElem hi)
      rw [World.cell?_setCell_same _ _ _ hc]
      simp [hi]
    · rw [World.cell?_setCell_other _ _ _ _ (fun he => e (by injection he with _ h2 _; exact h2.symm)), h.C o, Array.getElem?_setIfInBounds_ne (fun he => e he.symm)],
   fun o => by rw [World.frozen?_setCell]; exact h.F o⟩
theorem Sl.own {w w1 : World} {k n g : Nat} {cs : Array Value} {A : Option Addr} {x : Nat → Int} (h : Sl w w.heap.size k A n x) (o : Own w w1 g cs) : Sl w1 w1.heap.size k A n x :=
  (h.below o.K (Nat.le_refl _)).more o.K.size
theorem Sl.cell4 {w : World} {B n : Nat} {A : Option Addr} {x : Nat → Int} (h : Sl w B 4 A n x) {i : Nat} (hi : i < n) : ∃ b off, A = some ⟨b, off, none⟩ ∧ b < B ∧
    w.cell? ⟨b, off + i * 4, none⟩ = some (.int .i64 (x (i * 4))) ∧ w.cell? ⟨b, off + i * 4 + 1, none⟩ = some (.int .i64 (x (i * 4 + 1))) ∧
    w.cell? ⟨b, off + i * 4 + 2, none⟩ = some (.int .i64 (x (i * 4 + 2))) ∧ w.cell? ⟨b, off + i * 4 + 3, none⟩ = some (.int .i64 (x (i * 4 + 3))) := by
  obtain ⟨b, off, rfl, hb, hc⟩ := h (by omega)
  exact ⟨b, off, rfl, hb, hc _ (by omega), by rw [Nat.add_assoc]; exact hc _ (by omega), by rw [Nat.add_assoc]; exact hc _ (by omega), by rw [Nat.add_assoc]; exact hc _ (by omega)⟩
theorem Sl.cell2 {w : World} {B n : Nat} {A : Option Addr} {x : Nat → Int} (h : Sl w B 2 A n x) {i : Nat} (hi : i < n) : ∃ b off, A = some ⟨b, off, none⟩ ∧ b < B ∧
    w.cell? ⟨b, off + i * 2, none⟩ = some (.int .i64 (x (i * 2))) ∧ w.cell? ⟨b, off + i * 2 + 1, none⟩ = some (.int .i64 (x (i * 2 + 1))) := by
  obtain ⟨b, off, rfl, hb, hc⟩ := h (by omega)
  exact ⟨b, off, rfl, hb, hc _ (by omega), by rw [Nat.add_assoc]; exact hc _ (by omega)⟩
theorem Sl.cell1 {w : World} {B n : Nat} {A : Option Addr} {x : Nat → Int} (h : Sl w B 1 A n x) {i : Nat} (hi : i < n) : ∃ b off, A = some ⟨b, off, none⟩ ∧ b < B ∧
    w.cell? ⟨b, off + i, none⟩ = some (.int .i64 (x i)) := by
  obtain ⟨b, off, rfl, hb, hc⟩ := h (by omega)
  exact ⟨b, off, rfl, hb, hc _ (by omega)⟩
/-- Block g holds x 0, x 1, .. x (N-1), all writable. -/
def RowF (w : World) (g N : Nat) (x : Nat → Int) : Prop := ∀ j, j < N → w.cell? ⟨g, j, none⟩ = some (.int .i64 (x j)) ∧ w.frozen? ⟨g, j, none⟩ = false
theorem RowF.set {w : World} {g N : Nat} {x : Nat → Int} (h : RowF w g N x) {i : Nat} (v : Int) : RowF (w.setCell ⟨g, i, none⟩ (.int .i64 v)) g N (fun j => if j = i then v else x j) := fun j hj => by
  refine ⟨?_, by rw [World.frozen?_setCell]; exact (h j hj).2⟩
  by_cases e : j = i
  · subst e
    show _ = some (Value.int _ (if j = j then v else x j))
    rw [if_pos rfl]
    exact World.cell?_setCell_same _ _ _ (h j hj).1
  · show _ = some (Value.int _ (if j = i then v else x j))
    rw [if_neg e, World.cell?_setCell_other _ _ _ _ (fun he => e (by injection he with _ h2 _; exact h2.symm))]
    exact (h j hj).1
theorem RowF.below {w w' : World} {B g N : Nat} {x : Nat → Int} (h : RowF w g N x) (hb : Below B w w') (hg : g < B) : RowF w' g N x := fun j hj =>
  ⟨(hb.cell (p := ⟨g, j, none⟩) hg).trans (h j hj).1, (hb.frozen (p := ⟨g, j, none⟩) hg).trans (h j hj).2⟩
theorem RowF.congr {w : World} {g N : Nat} {x y : Nat → Int} (h : RowF w g N x) (e : ∀ j, j < N → x j = y j) : RowF w g N y := fun j hj => by rw [← e j hj]; exact h j hj
/-- What a maker of a new list of n elements (N cells) answers. -/
def Made (w : World) (N n : Nat) (x : Nat → Int) (e : Ending) (w' : World) : Prop :=
  ∃ g, e = .returned (.slice (some ⟨g, 0, none⟩) n n) ∧ w.heap.size ≤ g ∧ g < w'.heap.size ∧ RowF w' g N x ∧ Below w.heap.size w w'
theorem add_zero_block (g j : Nat) : (⟨g, 0, none⟩ : Addr).add j = ⟨g, j, none⟩ := by unfold Addr.add; split <;> simp_all
theorem made_row {w : World} {base e n : Nat} {z : Array Value} {k : Nat} (hk : 0 < k) (hz : z = Array.replicate k (.int .i64 0)) {g : Nat}
    (h : w.ownsRow base e k (.slice (some ⟨g, 0, none⟩) n n) n (madeCells z (n * k)).toList) : RowF w g (n * k) (fun _ => 0) := fun j hj => by
  refine ⟨?_, ?_⟩
  · have := h.cells (g := g) rfl j (.int .i64 0) (by
      rw [hz]
      simp [madeCells, hj]
      rw [getElem!_pos _ _ (by simp; exact Nat.mod_lt _ hk)]
      simp)
    rwa [add_zero_block] at this
  · rcases h.2 with ⟨h1, _⟩ | ⟨g', cap, cur, h1, _, h2, _⟩
    · cases h1
    · injection h1 with h1 _ _
      injection h1 with h1
      injection h1 with h1 _ _
      subst h1
      exact frozen_of_row _ _ _ _ _ h2
theorem made_row1 {w : World} {base e n g : Nat} (h : w.ownsRow base e 1 (.slice (some ⟨g, 0, none⟩) n n) n (madeCells #[.int .i64 0] n).toList) : RowF w g n (fun _ => 0) := by
  have h1 : w.ownsRow base e 1 (.slice (some ⟨g, 0, none⟩) n n) n (madeCells #[.int .i64 0] (n * 1)).toList := by rw [Nat.mul_one]; exact h
  have := made_row (k := 1) (by omega) rfl h1
  rwa [Nat.mul_one] at this
/-- A copy under way: the first m cells are as x. -/
structure Copying (w wr : World) (N m : Nat) (x : Nat → Int) : Prop where
  K : Below w.heap.size w wr
  z : w.heap.size < wr.heap.size
  R : ∃ y, RowF wr w.heap.size N y ∧ ∀ j, j < m → y j = x j
theorem Copying.step {w w1 w2 : World} {N m : Nat} {x : Nat → Int} (h : Copying w w1 N m x) (hb : Below w1.heap.size w1 w2) : Copying w w2 N m x := by
  obtain ⟨K, z, y, R, e⟩ := h
  exact ⟨K.trans (hb.mono K.size), Nat.lt_of_lt_of_le z hb.size, y, R.below hb z, e⟩
theorem Copying.set {w w1 : World} {N m : Nat} {x : Nat → Int} (h : Copying w w1 N m x) : Copying w (w1.setCell ⟨w.heap.size, m, none⟩ (.int .i64 (x m))) N (m + 1) x := by
  obtain ⟨K, z, y, R, e⟩ := h
  refine ⟨K.setCell (Nat.le_refl _) _, by simpa [World.setCell] using z, _, R.set _, fun j hj => ?_⟩
  show (if j = m then x m else y j) = x j
  by_cases h : j = m
  · rw [if_pos h, h]
  · rw [if_neg h]; exact e j (by omega)
theorem Copying.at_ {w w1 : World} {N m : Nat} {x : Nat → Int} (h : Copying w w1 N m x) {j : Nat} (hj : j < N) : ∃ v, w1.cell? ⟨w.heap.size, j, none⟩ = some v ∧ w1.frozen? ⟨w.heap.size, j, none⟩ = false := by
  obtain ⟨K, z, y, R, e⟩ := h
  exact ⟨_, (R j hj).1, (R j hj).2⟩
theorem Copying.made {w w1 : World} {N n : Nat} {x : Nat → Int} (h : Copying w w1 N N x) : Made w N n x (.returned (.slice (some ⟨w.heap.size, 0, none⟩) n n)) w1 := by
  obtain ⟨K, z, y, R, e⟩ := h
  exact ⟨_, rfl, Nat.le_refl _, z, R.congr e, K⟩
theorem ownsRow_below {w w1 : World} {base e size n : Nat} {v : Value} {xs : List Value} (h : w.ownsRow base e size v n xs) (hb : Below w.heap.size w w1) : w1.ownsRow base e size v n xs := by
  refine ⟨h.1, h.2.imp id ?_⟩
  rintro ⟨g, cap, cur, hv, hb', hh, rest⟩
  exact ⟨g, cap, cur, hv, hb', (hb.block g (Array.getElem?_eq_some_iff.1 hh).1).trans hh, rest⟩
/-- What a function that answers a list of its own answers. -/
def Listed (w : World) (L : List Int) (e : Ending) (w' : World) : Prop :=
  ∃ v, e = .returned v ∧ w'.ownsRow w.heap.size 2 1 v L.length (L.map (Value.int .i64)) ∧ Below w.heap.size w w'
/-- From w to w' nothing has turned but in the blocks that S tells. -/
structure Keeps (S : Nat → Prop) (w w' : World) : Prop where
  os : w'.os = w.os
  tape : w'.tape = w.tape
  output : w'.output = w.output
  size : w.heap.size ≤ w'.heap.size
  block : ∀ b, b < w.heap.size → ¬ S b → w'.heap[b]? = w.heap[b]?
theorem Keeps.refl (S : Nat → Prop) (w : World) : Keeps S w w := ⟨rfl, rfl, rfl, Nat.le_refl _, fun _ _ _ => rfl⟩
theorem Keeps.of_below {S : Nat → Prop} {w w' : World} (h : Below w.heap.size w w') : Keeps S w w' := ⟨h.os, h.tape, h.output, h.size, fun b hb _ => h.block b hb⟩
theorem Keeps.trans {S : Nat → Prop} {a b c : World} (h : Keeps S a b) (k : Keeps S b c) : Keeps S a c :=
  ⟨k.os.trans h.os, k.tape.trans h.tape, k.output.trans h.output, Nat.le_trans h.size k.size, fun i hi hn => (k.block i (Nat.lt_of_lt_of_le hi h.size) hn).trans (h.block i hi hn)⟩
theorem Keeps.mono {S T : Nat → Prop} {w w' : World} (h : Keeps S w w') (hST : ∀ b, S b → T b) : Keeps T w w' := ⟨h.os, h.tape, h.output, h.size, fun b hb hn => h.block b hb fun hs => hn (hST b hs)⟩
theorem Keeps.set {S : Nat → Prop} {w w' : World} (h : Keeps S w w') {p : Addr} (hp : S p.block) (v : Value) : Keeps S w (w'.setCell p v) :=
  ⟨h.os, h.tape, h.output, by simpa [World.setCell] using h.size, fun b hb hn => (Below.heap_setCell _ _ _ _ (fun e => hn (by rw [e]; exact hp))).trans (h.block b hb hn)⟩
theorem Keeps.below {S : Nat → Prop} {w w' : World} {B : Nat} (h : Keeps S w w') (hB : B ≤ w.heap.size) (hS : ∀ b, b < B → ¬ S b) : Below B w w' :=
  ⟨h.os, h.tape, h.output, h.size, fun b hb => h.block b (by omega) (hS b hb)⟩
theorem Keeps.cell {S : Nat → Prop} {w w' : World} (h : Keeps S w w') {p : Addr} (hp : p.block < w.heap.size) (hn : ¬ S p.block) : w'.cell? p = w.cell? p := World.cell?_of_block (w := w) (h.block _ hp hn)
theorem Keeps.frozen {S : Nat → Prop} {w w' : World} (h : Keeps S w w') {p : Addr} (hp : p.block < w.heap.size) (hn : ¬ S p.block) : w'.frozen? p = w.frozen? p := World.frozen?_of_block (w := w) (h.block _ hp hn)
theorem RowF.keeps {S : Nat → Prop} {w w' : World} {g N : Nat} {x : Nat → Int} (h : RowF w g N x) (k : Keeps S w w') (hg : g < w.heap.size) (hn : ¬ S g) : RowF w' g N x := fun j hj =>
  ⟨(k.cell (p := ⟨g, j, none⟩) hg hn).trans (h j hj).1, (k.frozen (p := ⟨g, j, none⟩) hg hn).trans (h j hj).2⟩
theorem Own.keeps {S : Nat → Prop} {w w1 w2 : World} {g : Nat} {cs : Array Value} (h : Own w w1 g cs) (k : Keeps S w1 w2) (hS : ∀ b, S b → w.heap.size ≤ b) (hn : ¬ S g) : Own w w2 g cs :=
  ⟨h.K.trans (k.below h.K.size fun b hb hs => by have := hS b hs; omega), Nat.lt_of_lt_of_le h.z k.size, fun o => (k.cell (p := ⟨g, o, none⟩) h.z hn).trans (h.C o), fun o => (k.frozen (p := ⟨g, o, none⟩) h.z hn).trans (h.F o)⟩
/-- A block of N whole numbers, whichever. -/
def Ints (w : World) (g N : Nat) : Prop := ∃ x, RowF w g N x
theorem Ints.at_ {w : World} {g N j : Nat} (h : Ints w g N) (hj : j < N) : ∃ v, w.cell? ⟨g, j, none⟩ = some v ∧ w.frozen? ⟨g, j, none⟩ = false := by
  obtain ⟨x, R⟩ := h
  exact ⟨_, (R j hj).1, (R j hj).2⟩
theorem Ints.set {w : World} {g N i : Nat} {v : Int} (h : Ints w g N) : Ints (w.setCell ⟨g, i, none⟩ (.int .i64 v)) g N := by
  obtain ⟨x, R⟩ := h
  exact ⟨_, R.set v⟩
theorem Ints.keeps {S : Nat → Prop} {w w' : World} {g N : Nat} (h : Ints w g N) (k : Keeps S w w') (hg : g < w.heap.size) (hn : ¬ S g) : Ints w' g N := by
  obtain ⟨x, R⟩ := h
  exact ⟨x, R.keeps k hg hn⟩
theorem ownsRow_base {w : World} {base base' e size n : Nat} {v : Value} {xs : List Value} (h : w.ownsRow base e size v n xs) (hb : base' ≤ base) : w.ownsRow base' e size v n xs :=
  ⟨h.1, h.2.imp id fun ⟨g, cap, cur, hv, hb', rest⟩ => ⟨g, cap, cur, hv, Nat.le_trans hb hb', rest⟩⟩
theorem Listed.back {w w1 w2 : World} {L : List Int} {e : Ending} (h : Listed w1 L e w2) (K : Below w.heap.size w w1) : Listed w L e w2 := by
  obtain ⟨v, he, O, hb⟩ := h
  exact ⟨v, he, ownsRow_base O K.size, K.trans (hb.mono K.size)⟩
theorem Own.grown {w w1 w2 : World} {g : Nat} {cs : Array Value} (h : Own w w1 g cs) {row : Option Nat} (hg : w1.grownBy w2 row) (hr : ∀ r, row = some r → w.heap.size < r ∧ g ≠ r ∨ w.heap.size ≤ r ∧ g < r) : Own w w2 g cs := by
  have hne : ∀ r, row = some r → g ≠ r := fun r e => by rcases hr r e with ⟨_, h⟩ | ⟨_, h⟩ <;> omega
  have hge : ∀ r, row = some r → w.heap.size ≤ r := fun r e => by rcases hr r e with ⟨h, _⟩ | ⟨h, _⟩ <;> omega
  have hb : w2.heap[g]? = w1.heap[g]? := hg.block g h.z fun e => hne g e.symm rfl
  exact ⟨h.K.grown hg h.K.size hge, Nat.lt_of_lt_of_le h.z hg.size, fun o => (World.cell?_of_block (w := w1) (a := ⟨g, o, none⟩) hb).trans (h.C o), fun o => (World.frozen?_of_block (w := w1) (a := ⟨g, o, none⟩) hb).trans (h.F o)⟩
/-- A list of the call's own, opened. -/
theorem open_list {w : World} {B : Nat} {v : Value} {L : List Int} (h : w.ownsRow B 2 1 v L.length (L.map (Value.int .i64))) :
    ∃ A c g, v = .slice A L.length c ∧ (0 < L.length → A = some ⟨g, 0, none⟩) ∧ B ≤ g ∧ (0 < L.length → g < w.heap.size) ∧ RowF w g L.length (fun j => L.getD j 0) := by
  rcases h.2 with ⟨rfl, h0⟩ | ⟨g, cap, cur, rfl, hb, hh, _⟩
  · exact ⟨none, 0, B, by rw [h0], fun h => by omega, Nat.le_refl _, fun h => by omega, fun j hj => by omega⟩
  · refine ⟨_, cap, g, rfl, fun _ => rfl, hb, fun _ => (Array.getElem?_eq_some_iff.1 hh).1, fun j hj => ⟨?_, frozen_of_row _ _ _ _ _ hh⟩⟩
    have := h.cells (g := g) rfl j (.int .i64 (L.getD j 0)) (by simp [List.getD, hj])
    rwa [add_zero_block] at this
theorem row_sl {w : World} {A : Option Addr} {n g : Nat} {x : Nat → Int} (hA : 0 < n → A = some ⟨g, 0, none⟩) (hg : 0 < n → g < w.heap.size) (R : RowF w g n x) : Sl w w.heap.size 1 A n x := fun hn =>
  ⟨g, 0, hA hn, hg hn, fun j hj => by rw [Nat.zero_add]; exact (R j (by omega)).1⟩
theorem RowF.go {w w' : World} {g n : Nat} {x : Nat → Int} (R : RowF w g n x) (hg : 0 < n → g < w.heap.size) (hb : Below w.heap.size w w') : RowF w' g n x := fun j hj => R.below hb (hg (by omega)) j hj
theorem RowF.goK {S : Nat → Prop} {w w' : World} {g n : Nat} {x : Nat → Int} (R : RowF w g n x) (hg : 0 < n → g < w.heap.size) (k : Keeps S w w') (hn : 0 < n → ¬ S g) : RowF w' g n x := fun j hj => R.keeps k (hg (by omega)) (hn (by omega)) j hj
theorem Keeps.drewN {S : Nat → Prop} {w w' : World} (h : Keeps S w w') (n : Nat) : Keeps S w (w'.drewN n) := h.trans (Keeps.of_below (below_drewN (Below.refl _ _) n))
theorem Keeps.drew {S : Nat → Prop} {w w' : World} (h : Keeps S w w') : Keeps S w w'.drew := h.trans (Keeps.of_below (Below.refl _ _).drew)

end Go.Proofs.YtkefbmbjkijilaaGreatDoor
/- Av -/
set_option linter.unusedVariables false
namespace Go.Proofs.YtkefbmbjkijilaaGreatDoor
open Go.RowKit

/-- The slice value with address A and n elements of k cells each holds the cells xs, below block B. -/
structure SlV (w : World) (B k : Nat) (A : Option Addr) (n : Nat) (xs : List Value) : Prop where
  len : xs.length = n * k
  it : 0 < n → ∃ b off, A = some ⟨b, off, none⟩ ∧ b < B ∧ ∀ j, j < n * k → w.cell? ⟨b, off + j, none⟩ = xs[j]?
theorem SlV.below {w w' : World} {B B' k n : Nat} {A : Option Addr} {xs : List Value} (h : SlV w B k A n xs) (hb : Below B' w w') (hB : B ≤ B') : SlV w' B k A n xs := ⟨h.len, fun hn => by
  obtain ⟨b, off, rfl, hlt, hc⟩ := h.it hn
  exact ⟨b, off, rfl, hlt, fun j hj => (hb.cell (p := ⟨b, off + j, none⟩) (by show b < B'; omega)).trans (hc j hj)⟩⟩
theorem SlV.more {w : World} {B B' k n : Nat} {A : Option Addr} {xs : List Value} (h : SlV w B k A n xs) (hB : B ≤ B') : SlV w B' k A n xs := ⟨h.len, fun hn => by
  obtain ⟨b, off, rfl, hlt, hc⟩ := h.it hn
  exact ⟨b, off, rfl, by omega, hc⟩⟩
theorem SlV.go {w w' : World} {k n : Nat} {A : Option Addr} {xs : List Value} (h : SlV w w.heap.size k A n xs) (hb : Below w.heap.size w w') : SlV w' w'.heap.size k A n xs := (h.below hb (Nat.le_refl _)).more hb.size
theorem SlV.cell {w : World} {B k n : Nat} {A : Option Addr} {xs : List Value} (h : SlV w B k A n xs) {i : Nat} (hi : i < n) :
    ∃ b off, A = some ⟨b, off, none⟩ ∧ b < B ∧ ∀ j, j < k → w.cell? ⟨b, off + i * k + j, none⟩ = xs[i * k + j]? := by
  obtain ⟨b, off, rfl, hb, hc⟩ := h.it (by omega)
  refine ⟨b, off, rfl, hb, fun j hj => ?_⟩
  have h1 : (i + 1) * k ≤ n * k := Nat.mul_le_mul_right k hi
  have h2 : (i + 1) * k = i * k + k := by rw [Nat.add_mul, Nat.one_mul]
  rw [Nat.add_assoc]
  exact hc _ (by omega)
theorem SlV.nil (w : World) (B k : Nat) (A : Option Addr) : SlV w B k A 0 [] := ⟨by simp, fun h => absurd h (by omega)⟩

/-- Block g holds the cells xs, all writable. -/
def RowV (w : World) (g : Nat) (xs : List Value) : Prop := ∀ j, j < xs.length → w.cell? ⟨g, j, none⟩ = xs[j]? ∧ w.frozen? ⟨g, j, none⟩ = false
theorem RowV.set {w : World} {g : Nat} {xs : List Value} (h : RowV w g xs) {i : Nat} (hi : i < xs.length) (u : Value) : RowV (w.setCell ⟨g, i, none⟩ u) g (xs.set i u) := fun j hj => by
  rw [List.length_set] at hj
  refine ⟨?_, by rw [World.frozen?_setCell]; exact (h j hj).2⟩
  by_cases e : j = i
  · subst e
    rw [World.cell?_setCell_same _ _ _ ((h j hj).1.trans (List.getElem?_eq_getElem hj)), List.getElem?_set_self hj]
  · rw [World.cell?_setCell_other _ _ _ _ (fun he => e (by injection he with _ h2 _; exact h2.symm)), List.getElem?_set_ne (fun he => e he.symm)]
    exact (h j hj).1
theorem RowV.below {w w' : World} {B g : Nat} {xs : List Value} (h : RowV w g xs) (hb : Below B w w') (hg : g < B) : RowV w' g xs := fun j hj =>
  ⟨(hb.cell (p := ⟨g, j, none⟩) hg).trans (h j hj).1, (hb.frozen (p := ⟨g, j, none⟩) hg).trans (h j hj).2⟩
theorem RowV.go {w w' : World} {g : Nat} {xs : List Value} (h : RowV w g xs) (hg : 0 < xs.length → g < w.heap.size) (hb : Below w.heap.size w w') : RowV w' g xs := fun j hj => RowV.below h hb (hg (by omega)) j hj
theorem RowV.keeps {S : Nat → Prop} {w w' : World} {g : Nat} {xs : List Value} (h : RowV w g xs) (k : Keeps S w w') (hg : g < w.heap.size) (hn : ¬ S g) : RowV w' g xs := fun j hj =>
  ⟨(k.cell (p := ⟨g, j, none⟩) hg hn).trans (h j hj).1, (k.frozen (p := ⟨g, j, none⟩) hg hn).trans (h j hj).2⟩
theorem RowV.far {w : World} {g : Nat} {xs : List Value} (h : RowV w g xs) {p : Addr} (hne : p.block ≠ g) (v : Value) : RowV (w.setCell p v) g xs := fun j hj =>
  ⟨(World.cell?_setCell_other _ _ _ _ (fun e => hne (by rw [e]))).trans (h j hj).1, by rw [World.frozen?_setCell]; exact (h j hj).2⟩
theorem RowV.slv {w : World} {g B k n : Nat} {xs : List Value} (h : RowV w g xs) (hl : xs.length = n * k) (hg : g < B) : SlV w B k (some ⟨g, 0, none⟩) n xs :=
  ⟨hl, fun _ => ⟨g, 0, rfl, hg, fun j hj => by rw [Nat.zero_add]; exact (h j (by omega)).1⟩⟩
/-- A row of the call's own, opened. -/
theorem open_row {w : World} {B e k n : Nat} {v : Value} {xs : List Value} (h : w.ownsRow B e k v n xs) :
    ∃ A c g, v = .slice A n c ∧ (0 < n → A = some ⟨g, 0, none⟩) ∧ n ≤ c ∧ B ≤ g ∧ (0 < n → g < w.heap.size) ∧ RowV w g xs ∧ SlV w w.heap.size k A n xs ∧ n ≤ maxLen := by
  have hl := h.1
  rcases h.2 with ⟨rfl, h0⟩ | ⟨g, cap, cur, rfl, hb, hh, hnc, hcm, hsz, ht⟩
  · subst h0
    have : xs = [] := List.eq_nil_of_length_eq_zero (by omega)
    subst this
    exact ⟨none, 0, B, rfl, fun h => by omega, Nat.le_refl _, Nat.le_refl _, fun h => by omega, fun j hj => by simp at hj, SlV.nil _ _ _ _, Nat.zero_le _⟩
  · have hg : g < w.heap.size := (Array.getElem?_eq_some_iff.1 hh).1
    have R : RowV w g xs := fun j hj => ⟨by
      have := h.cells (g := g) rfl j _ (List.getElem?_eq_getElem hj)
      rw [add_zero_block] at this
      rw [this, List.getElem?_eq_getElem hj], frozen_of_row _ _ _ _ _ hh⟩
    exact ⟨_, cap, g, rfl, fun _ => rfl, hnc, hb, fun _ => hg, R, R.slv hl hg, Nat.le_trans hnc hcm⟩

/-- What a maker of a new list of n elements answers. -/
def MadeV (w : World) (n : Nat) (xs : List Value) (e : Ending) (w' : World) : Prop :=
  ∃ g, e = .returned (.slice (some ⟨g, 0, none⟩) n n) ∧ w.heap.size ≤ g ∧ g < w'.heap.size ∧ RowV w' g xs ∧ Below w.heap.size w w'
/-- A copy under way: the first m cells are as xs. -/
structure CopyV (w wr : World) (m : Nat) (xs : List Value) : Prop where
  K : Below w.heap.size w wr
  z : w.heap.size < wr.heap.size
  R : ∃ ys, ys.length = xs.length ∧ RowV wr w.heap.size ys ∧ ∀ j, j < m → ys[j]? = xs[j]?
theorem CopyV.step {w w1 w2 : World} {m : Nat} {xs : List Value} (h : CopyV w w1 m xs) (hb : Below w1.heap.size w1 w2) : CopyV w w2 m xs := by
  obtain ⟨K, z, ys, hl, R, e⟩ := h
  exact ⟨K.trans (hb.mono K.size), Nat.lt_of_lt_of_le z hb.size, ys, hl, R.below hb z, e⟩
theorem CopyV.set {w w1 : World} {m : Nat} {xs : List Value} {u : Value} (h : CopyV w w1 m xs) (hu : xs[m]? = some u) : CopyV w (w1.setCell ⟨w.heap.size, m, none⟩ u) (m + 1) xs := by
  obtain ⟨K, z, ys, hl, R, e⟩ := h
  have hm : m < xs.length := (List.getElem?_eq_some_iff.1 hu).1
  refine ⟨K.setCell (Nat.le_refl _) _, by simpa [World.setCell] using z, _, by rw [List.length_set]; exact hl, R.set (by omega) u, fun j hj => ?_⟩
  by_cases h : j = m
  · subst h
    rw [List.getElem?_set_self (by omega), hu]
  · rw [List.getElem?_set_ne (fun he => h he.symm)]
    exact e j (by omega)
theorem CopyV.at_ {w w1 : World} {m : Nat} {xs : List Value} (h : CopyV w w1 m xs) {j : Nat} (hj : j < xs.length) : ∃ v, w1.cell? ⟨w.heap.size, j, none⟩ = some v ∧ w1.frozen? ⟨w.heap.size, j, none⟩ = false := by
  obtain ⟨K, z, ys, hl, R, e⟩ := h
  have := R j (by omega)
  exact ⟨_, this.1.trans (List.getElem?_eq_getElem (by omega)), this.2⟩
theorem CopyV.made {w w1 : World} {n m : Nat} {xs : List Value} (h : CopyV w w1 m xs) (hm : xs.length ≤ m) : MadeV w n xs (.returned (.slice (some ⟨w.heap.size, 0, none⟩) n n)) w1 := by
  obtain ⟨K, z, ys, hl, R, e⟩ := h
  have : ys = xs := List.ext_getElem? fun j => by
    by_cases hj : j < m
    · exact e j hj
    · rw [List.getElem?_eq_none (by omega), List.getElem?_eq_none (by omega)]
  subst this
  exact ⟨_, rfl, Nat.le_refl _, z, R, K⟩
theorem CopyV.start {w w1 : World} {base e n k : Nat} {ys xs : List Value} (h : w1.ownsRow base e k (.slice (some ⟨w.heap.size, 0, none⟩) n n) n ys) (hg : w.grownBy w1 none) (hl : xs.length = n * k) : CopyV w w1 0 xs := by
  have h1 := h.1
  refine ⟨(Below.refl _ _).grown hg (Nat.le_refl _) (fun k hk => by cases hk), ?_, ys, by omega, ?_, fun j hj => absurd hj (by omega)⟩
  · rcases h.2 with ⟨h, _⟩ | ⟨g, cap, cur, hv, hb, hh, _⟩
    · cases h
    · injection hv with hv _ _
      injection hv with hv
      injection hv with hv _ _
      rw [hv]
      exact (Array.getElem?_eq_some_iff.1 hh).1
  · intro j hj
    rcases h.2 with ⟨h, _⟩ | ⟨g, cap, cur, hv, hb, hh, _⟩
    · cases h
    · injection hv with hv _ _
      injection hv with hv
      injection hv with hv _ _
      subst hv
      have := h.cells (g := w.heap.size) rfl j _ (List.getElem?_eq_getElem hj)
      rw [add_zero_block] at this
      exact ⟨by rw [this, List.getElem?_eq_getElem hj], frozen_of_row _ _ _ _ _ hh⟩
end Go.Proofs.YtkefbmbjkijilaaGreatDoor
/- A2 -/
set_option linter.unusedVariables false
namespace Go.Proofs.YtkefbmbjkijilaaGreatDoor
open Go.RowKit

def allB (n : Nat) (f : Nat → Bool) : Bool := decide (∀ i, i < n → f i = true)

theorem allB_true {n : Nat} {f : Nat → Bool} : allB n f = true ↔ ∀ i, i < n → f i = true := by simp [allB]

theorem allB_false {n : Nat} {f : Nat → Bool} {i : Nat} (hi : i < n) (h : f i = false) : allB n f = false := by
  simp only [allB, decide_eq_false_iff_not]
  exact fun hh => by rw [hh i hi] at h; cases h

theorem step_all {f : Nat → Bool} {k : Nat} (h : ∀ j, j < k → f j = true) (hk : f k = true) : ∀ j, j < k + 1 → f j = true := fun j hj => by
  by_cases e : j = k
  · rw [e]; exact hk
  · exact h j (by omega)

set_option maxHeartbeats 400000 in
theorem allBelow_any (g : Nat) (pv : Value) (n : Nat) (f : Nat → Bool) (w : World) (hn : n ≤ maxLen)
    (hg : ∀ (x y : Value) (wr : World), (callFunc g #[x, y]).run Tryz.prog wr = .ok (.enter g #[x, y]) wr)
    (H : Hid (∀ i, i < n → ∀ wr, Below w.heap.size w wr → Calls Tryz.prog g #[pv, .int .i64 i] wr fun e w' => e = .returned (.bool (f i)) ∧ Below wr.heap.size wr w')) :
    Calls Tryz.prog 137 #[.int .i64 n, .func (.func g) #[pv] #[]] w fun e w' => e = .returned (.bool (allB n f)) ∧ Below w.heap.size w w' := by
  unfold maxLen at hn
  go_enter Tryz.func137, Tryz.ntmps137
  go_wp2
  go_loopw [7] (fun i wr => ∃ k : Nat, k ≤ n ∧ i = .int .i64 k ∧ (∀ j, j < k → f j = true) ∧ Below w.heap.size w wr) (fun i _ => n - (intOf i).toNat)
  case atStart => exact ⟨0, Nat.zero_le _, rfl, fun j hj => absurd hj (by omega), Below.refl _ _⟩
  case round =>
    obtain ⟨k, hk, rfl, hall, hb⟩ := hrel
    have HA := Lib.hid hall
    clear hall
    by_cases hlt : k < n
    · have hf := H.out k hlt _ hb
      cases hv : f k
      · rw [hv] at hf
        have Hv := Lib.hid hv
        clear hv
        go_wp2_with (refine hf.mono ?_; rintro e w1 ⟨rfl, hb1⟩)
        go_ret
        exact ⟨ret_bool (allB_false hlt Hv.out).symm, hb.trans (hb1.mono hb.size)⟩
      · rw [hv] at hf
        have Hv := Lib.hid hv
        clear hv
        go_wp2_with (refine hf.mono ?_; rintro e w1 ⟨rfl, hb1⟩)
        go_roundw
        case rel =>
          refine ⟨k + 1, by omega, by go_num, fun j hj => ?_, hb.trans (hb1.mono hb.size)⟩
          by_cases h : j = k
          · rw [h]; exact Hv.out
          · exact HA.out j (by omega)
        case measure => simp [intOf]; omega
    · obtain rfl : k = n := by omega
      go_wp2
      go_ret
      exact ⟨ret_bool (allB_true.2 HA.out).symm, hb⟩

theorem below_via {W W' w1 : World} (h : Below W.heap.size W w1) (k : Below w1.heap.size w1 W') : Below W.heap.size W W' := h.trans (k.mono h.size)

end Go.Proofs.YtkefbmbjkijilaaGreatDoor
/- A3 -/
set_option linter.unusedVariables false
namespace Go.Proofs.YtkefbmbjkijilaaGreatDoor
open Go.RowKit

/-- The value owns a row of n elements of k whole numbers, x 0, x 1, .. -/
def OI (w : World) (B e k : Nat) (v : Value) (n : Nat) (x : Nat → Int) : Prop :=
  ∃ xs : List Value, w.ownsRow B e k v n xs ∧ ∀ j, j < n * k → xs[j]? = some (.int .i64 (x j))
theorem OI.nil_ (w : World) (B e k : Nat) (x : Nat → Int) : OI w B e k (.slice none 0 0) 0 x := ⟨[], World.ownsRow_nil _ _ _ _, fun j hj => by omega⟩
theorem OI.form {w : World} {B e k n : Nat} {v : Value} {x : Nat → Int} (h : OI w B e k v n x) :
    ∃ A c, v = .slice A n c ∧ Sl w w.heap.size k A n x ∧ n ≤ maxLen := by
  obtain ⟨xs, hown, hx⟩ := h
  rcases hown.2 with ⟨rfl, h0⟩ | ⟨g, cap, cur, rfl, hb, hh, hnc, hcm, _⟩
  · exact ⟨none, 0, by rw [h0], fun hn => by omega, by rw [h0]; exact Nat.zero_le _⟩
  · refine ⟨_, cap, rfl, fun hn => ⟨g, 0, rfl, (Array.getElem?_eq_some_iff.1 hh).1, fun j hj => ?_⟩, Nat.le_trans hnc hcm⟩
    have := hown.cells (g := g) rfl j _ (hx j hj)
    rw [add_zero_block] at this
    rwa [Nat.zero_add]
theorem OI.block {w : World} {B e k n : Nat} {v : Value} {x : Nat → Int} (h : OI w B e k v n x) {r : Nat} (hr : v.ownBlock = some r) : ∃ cs, w.heap[r]? = some (.cells cs e (0, 0)) := by
  obtain ⟨xs, hown, _⟩ := h
  rcases hown.2 with ⟨rfl, _⟩ | ⟨g, cap, cur, rfl, hb, hh, _⟩
  · cases hr
  · injection hr with hr
    subst hr
    exact ⟨cur, hh⟩
theorem OI.moved {w w' : World} {B e k n : Nat} {v : Value} {x : Nat → Int} (h : OI w B e k v n x) (hm : ∀ r, v.ownBlock = some r → w'.heap[r]? = w.heap[r]?) : OI w' B e k v n x := by
  obtain ⟨xs, hown, hx⟩ := h
  refine ⟨xs, ⟨hown.1, hown.2.imp id ?_⟩, hx⟩
  rintro ⟨g, cap, cur, hv, hb', hh, rest⟩
  exact ⟨g, cap, cur, hv, hb', (hm g (by rw [hv]; rfl)).trans hh, rest⟩
/-- Only block g has turned, and it is of another type. -/
theorem OI.keeps {w w' : World} {B e k n g T : Nat} {cs : Array Value} {v : Value} {x : Nat → Int} (h : OI w B e k v n x) (kk : Keeps (· = g) w w') (hg : w.heap[g]? = some (.cells cs T (0, 0))) (hne : T ≠ e) : OI w' B e k v n x :=
  h.moved fun r hr => by
    obtain ⟨cs', hb⟩ := h.block hr
    refine kk.block r (Array.getElem?_eq_some_iff.1 hb).1 fun e' => ?_
    have e' : r = g := e'
    rw [e', hg] at hb
    injection hb with hb
    injection hb with _ ht
    exact hne ht
theorem OI.below {w w' : World} {B e k n : Nat} {v : Value} {x : Nat → Int} (h : OI w B e k v n x) (hb : Below w.heap.size w w') : OI w' B e k v n x :=
  h.moved fun r hr => by
    obtain ⟨cs', hb'⟩ := h.block hr
    exact hb.block r (Array.getElem?_eq_some_iff.1 hb').1
/-- Another row, of another type, has grown. -/
theorem OI.grown {w w' : World} {B e k n B' e' k' n' : Nat} {v v' : Value} {x x' : Nat → Int} (h : OI w B e k v n x) (h' : OI w B' e' k' v' n' x') (hne : e' ≠ e) (hg : w.grownBy w' v'.ownBlock) : OI w' B e k v n x :=
  h.moved fun r hr => by
    obtain ⟨cs, hb⟩ := h.block hr
    refine hg.block r (Array.getElem?_eq_some_iff.1 hb).1 fun e2 => ?_
    obtain ⟨cs', hb'⟩ := h'.block e2.symm
    rw [hb] at hb'
    injection hb' with hb'
    injection hb' with _ ht
    exact hne ht.symm
/-- An element more. -/
def ext (n k : Nat) (x : Nat → Int) (l : List Int) : Nat → Int := fun j => if j < n * k then x j else l.getD (j - n * k) 0
theorem OI.push {w' : World} {B e k n : Nat} {v' : Value} {x : Nat → Int} {xs : List Value} (hx : ∀ j, j < n * k → xs[j]? = some (.int .i64 (x j))) (hl : xs.length = n * k) (l : List Int) (hk : l.length = k)
    (h : w'.ownsRow B e k v' (n + 1) (xs ++ l.map (Value.int .i64))) : OI w' B e k v' (n + 1) (ext n k x l) := by
  refine ⟨_, h, fun j hj => ?_⟩
  unfold ext
  by_cases hlt : j < n * k
  · rw [if_pos hlt, List.getElem?_append_left (by omega)]
    exact hx j hlt
  · rw [if_neg hlt, List.getElem?_append_right (by omega), hl]
    have : j - n * k < l.length := by rw [hk]; rw [Nat.add_mul] at hj; omega
    simp [List.getD, this]
end Go.Proofs.YtkefbmbjkijilaaGreatDoor
/- A4 -/
set_option linter.unusedVariables false
namespace Go.Proofs.YtkefbmbjkijilaaGreatDoor
open Go.RowKit

/-- The bytes that came in, below block B. -/
def Bytes (w : World) (B : Nat) (A : Option Addr) (n : Nat) : Prop :=
  0 < n → ∃ b off, A = some ⟨b, off, none⟩ ∧ b < B ∧ ∀ j, j < n → ∃ z : Int, w.cell? ⟨b, off + j, none⟩ = some (.int .u8 z) ∧ 0 ≤ z ∧ z ≤ 255
/-- The cells of a cursor: the bytes, how many are used, a number. -/
abbrev curC (k : IntKind) (A : Option Addr) (n c : Nat) (i h : Int) : Array Value := #[.slice A n c, .int .i64 i, .int k h]
/-- A cursor at block g, of type T, over bytes below block B. -/
structure Cur (T : TypeId) (k : IntKind) (w : World) (g : Nat) : Prop where
  it : ∃ A n c i h, w.heap[g]? = some (.cells (curC k A n c i h) T (0, 0)) ∧ 0 ≤ i ∧ i ≤ (n : Int) ∧ n ≤ 4096 ∧ Bytes w g A n
theorem Bytes.below {w w' : World} {B B' n : Nat} {A : Option Addr} (h : Bytes w B A n) (hb : Below B' w w') (hB : B ≤ B') : Bytes w' B A n := fun hn => by
  obtain ⟨b, off, rfl, hlt, hc⟩ := h hn
  exact ⟨b, off, rfl, hlt, fun j hj => by obtain ⟨z, hz, hr⟩ := hc j hj; exact ⟨z, (hb.cell (p := ⟨b, off + j, none⟩) (by show b < B'; omega)).trans hz, hr⟩⟩
theorem Cur.of {T : TypeId} {k : IntKind} {w w' : World} {g : Nat} {A : Option Addr} {n c : Nat} {i h : Int} (hB : Bytes w g A n) (hm : n ≤ 4096) (hk : Keeps (· = g) w w') (hgs : g < w.heap.size)
    (hg : w'.heap[g]? = some (.cells (curC k A n c i h) T (0, 0))) (i0 : 0 ≤ i) (i1 : i ≤ (n : Int)) : Cur T k w' g :=
  ⟨A, n, c, i, h, hg, i0, i1, hm, hB.below (hk.below (B := g) (by omega) (fun b hb e => by omega)) (Nat.le_refl _)⟩
theorem Bytes.more {w : World} {B B' n : Nat} {A : Option Addr} (h : Bytes w B A n) (hB : B ≤ B') : Bytes w B' A n := fun hn => by
  obtain ⟨b, off, e, hlt, hc⟩ := h hn
  exact ⟨b, off, e, by omega, hc⟩

end Go.Proofs.YtkefbmbjkijilaaGreatDoor
/- A5 -/
set_option linter.unusedVariables false
namespace Go.Proofs.YtkefbmbjkijilaaGreatDoor
open Go.RowKit

theorem Cur.lt {T : TypeId} {k : IntKind} {w : World} {g : Nat} (h : Cur T k w g) : g < w.heap.size := by
  obtain ⟨A, n, c, i, hh, hg, _⟩ := h
  exact (Array.getElem?_eq_some_iff.1 hg).1
theorem Cur.keeps {T : TypeId} {k : IntKind} {S : Nat → Prop} {w w' : World} {g : Nat} (h : Cur T k w g) (kk : Keeps S w w') (hn : ∀ b, b ≤ g → ¬ S b) : Cur T k w' g := by
  have hlt := h.lt
  obtain ⟨A, n, c, i, hh, hg, i0, i1, hm, hB⟩ := h
  exact ⟨A, n, c, i, hh, (kk.block g hlt (hn g (Nat.le_refl _))).trans hg, i0, i1, hm, hB.below (kk.below (B := g) (by omega) (fun b hb => hn b (by omega))) (Nat.le_refl _)⟩
theorem Cur.below {T : TypeId} {k : IntKind} {w w' : World} {g : Nat} (h : Cur T k w g) (hb : Below w.heap.size w w') : Cur T k w' g :=
  h.keeps (S := fun _ => False) (Keeps.of_below hb) (fun _ _ => id)
end Go.Proofs.YtkefbmbjkijilaaGreatDoor
/- A8 -/
set_option linter.unusedVariables false
namespace Go.Proofs.YtkefbmbjkijilaaGreatDoor
open Go.RowKit

end Go.Proofs.YtkefbmbjkijilaaGreatDoor
/- A6 -/
set_option linter.unusedVariables false
namespace Go.Proofs.YtkefbmbjkijilaaGreatDoor
open Go.ChangeShapes Go.WideShapes Go.ChangeAt Go.RowKit Go.Deep

/-- Every field is a plain int64. -/
def intFields (P : Program) (fs : Array Field) : Bool := (List.range fs.size).all fun j => match fs[j]? with
  | some f => (match P.underlying f.type with | some (.int .i64) => true | _ => false)
  | none => false
theorem intFields_at {P : Program} {fs : Array Field} (h : intFields P fs = true) {j : Nat} {f : Field} (hj : fs[j]? = some f) : P.underlying f.type = some (.int .i64) := by
  have hlt : j < fs.size := (Array.getElem?_eq_some_iff.1 hj).1
  have := List.all_eq_true.1 h j (List.mem_range.2 hlt)
  simp only [hj] at this
  split at this
  · assumption
  · cases this

section
variable {H : Type} {enc : TypeId × Value → H} {P : Program} {w : World} {spare : Nat → Bool} {held : Bool}
theorem sl_of_cells {a : Addr} {n k : Nat} (hk : 0 < k) (h : ∀ i, i < n → ∀ j, j < k → ∃ z, w.cell? ((a.add (i * k)).add j) = some (.int .i64 z)) : ∃ X, Sl w w.heap.size k (some a) n X := by
  rcases Nat.eq_zero_or_pos n with hn | hn
  · exact ⟨fun _ => 0, fun h0 => absurd h0 (by omega)⟩
  have hsp : a.spot = none := by
    obtain ⟨z, hz⟩ := h 0 hn 0 hk
    simpa [Addr.add] using World.cell?_spot hz
  obtain ⟨b, off, sp⟩ := a
  subst hsp
  have h' : ∀ q, q < n * k → ∃ z : Int, w.cell? ⟨b, off + q, none⟩ = some (.int .i64 z) := fun q hq => by
    obtain ⟨z, hz⟩ := h (q / k) ((Nat.div_lt_iff_lt_mul hk).2 hq) (q % k) (Nat.mod_lt _ hk)
    rw [add_plain, add_plain, Nat.add_assoc, Nat.mul_comm, Nat.div_add_mod] at hz
    exact ⟨z, hz⟩
  obtain ⟨X, hX⟩ := choose_lt h'
  exact ⟨X, fun _ => ⟨b, off, rfl, block_lt_of_cell (hX 0 (Nat.mul_pos hn hk)), hX⟩⟩

/-- A slice of structs of plain int64 fields. -/
theorem sl_structs {t e : TypeId} {fs : Array Field} {fuel k : Nat} {v : Value} {x : DataW H × List MemPlace} (ht : P.underlying t = some (.slice e)) (he : P.underlying e = some (.struct fs))
    (hone : oneCellFields P fs = true) (hint : intFields P fs = true) (hC : P.cellsOf e = k) (hk : fs.size = k) (hk0 : 0 < k) (h : DataW.trod enc P w 0 spare held fuel t [v] = some x) :
    ∃ A n c X, v = .slice A n c ∧ n ≤ maxLen ∧ Sl w w.heap.size k A n X := by
  rcases open_slice ht h with ⟨h1, _⟩ | ⟨a, len, cap, m, n, D, Pl, hcs, hb, hl, hm, hmm, hx, hi⟩
  · injection h1 with h1 _
    exact ⟨none, 0, 0, fun _ => 0, h1, Nat.zero_le _, fun h0 => absurd h0 (by omega)⟩
  · injection hcs with hv _
    have hlm : len ≤ m := by rw [hmm]; split <;> omega
    obtain ⟨X, hX⟩ := sl_of_cells (w := w) (a := a) (n := len) hk0 (fun i hin j hj => by
      obtain ⟨cs', hc, ht'⟩ := hi i (by omega)
      rw [hC] at hc
      obtain ⟨ys, n', _, hy, hlen, hyl, hf⟩ := DataW.trod_struct he ht'
      obtain ⟨_, hcl, hat⟩ := World.cells?_some hc
      obtain ⟨f, hfj⟩ : ∃ f, fs[j]? = some f := ⟨_, Array.getElem?_eq_getElem (by omega)⟩
      obtain ⟨ho, hk1⟩ := hone_of hone j f hfj
      have h1 := hf j f hfj
      rw [ho, hk1] at h1
      have hone' : (cs'.drop j).take 1 = [cs'[j]'(by omega)] := by
        rw [List.drop_eq_getElem_cons (by omega)]
        rfl
      rw [hone', List.getElem?_eq_getElem (by omega)] at h1
      obtain ⟨z, hz, _, _⟩ := DataW.trod_int (intFields_at hint hfj) h1
      injection hz with hz _
      exact ⟨z, by rw [hat j hj, List.getElem?_eq_getElem (by omega), hz]⟩)
    exact ⟨some a, len, cap, X, hv, Nat.le_trans hl hm, hX⟩
/-- A slice of int64. -/
theorem sl_ints {t e : TypeId} {fuel : Nat} {v : Value} {x : DataW H × List MemPlace} (ht : P.underlying t = some (.slice e)) (he : P.underlying e = some (.int .i64)) (hC : P.cellsOf e = 1)
    (h : DataW.trod enc P w 0 spare held fuel t [v] = some x) : ∃ A n c X, v = .slice A n c ∧ n ≤ maxLen ∧ Sl w w.heap.size 1 A n X := by
  rcases open_ints ht he hC h with ⟨h1, _⟩ | ⟨a, len, cap, zs, hcs, hb, hl, hm, hz, hx, hcell, _⟩
  · injection h1 with h1 _
    exact ⟨none, 0, 0, fun _ => 0, h1, Nat.zero_le _, fun h0 => absurd h0 (by omega)⟩
  · injection hcs with hv _
    have hlm : len ≤ zs.length := by rw [hz]; split <;> omega
    obtain ⟨X, hX⟩ := sl_of_cells (w := w) (a := a) (n := len) (k := 1) (by omega) (fun i hin j hj => by
      obtain rfl : j = 0 := by omega
      rw [Nat.mul_one]
      exact ⟨_, hcell i (by omega)⟩)
    exact ⟨some a, len, cap, X, hv, Nat.le_trans hl hm, hX⟩
/-- A struct of one-cell fields: each field's own reading. -/
theorem agg_of_trod {r : Reach} {b0 : Nat} {t : TypeId} {fs : Array Field} {v : Value} {d : DataW H} {p : List MemPlace} (hs : P.underlying t = some (.struct fs)) (hone : oneCellFields P fs = true) (hC : P.cellsOf t = fs.size)
    (hv : Value.okWide P w r b0 t v) (h : DataW.Trod enc P w 0 spare held t v d p) :
    ∃ cs : Array Value, v = .agg cs ∧ ∃ hsz : cs.size = fs.size, ∃ n, ∀ (j : Nat) (f : Field) (hj : fs[j]? = some f), ∃ y, DataW.trod enc P w 0 spare held n f.type [cs[j]'(by rw [hsz]; exact (Array.getElem?_eq_some_iff.1 hj).1)] = some y := by
  obtain ⟨cs, rfl, hsz⟩ := okWide_struct hs hv
  rw [hC] at hsz
  obtain ⟨fuel, hf⟩ := h
  obtain ⟨xs, n, _, hx, _, hlen, hg⟩ := DataW.trod_struct hs hf
  refine ⟨cs, rfl, hsz, n, fun j f hj => ?_⟩
  have hjl : j < fs.size := (Array.getElem?_eq_some_iff.1 hj).1
  obtain ⟨ho, hk⟩ := hone_of hone j f hj
  have h1 := hg j f hj
  rw [ho, hk] at h1
  have hl : (Value.cells (.agg cs)).toList = cs.toList := rfl
  rw [hl] at h1
  have hone' : (cs.toList.drop j).take 1 = [cs[j]'(by omega)] := by
    rw [List.drop_eq_getElem_cons (by simp; omega)]
    simp
  rw [hone', List.getElem?_eq_getElem (by omega)] at h1
  exact ⟨_, h1⟩
end

theorem own_ : ownKnob Tryz.prog.godebug = none := by kernel_rfl
theorem laid_ : laidOutB Tryz.prog = true := by kernel_rfl

theorem at_of_map {fs : Array Field} {ts : Array TypeId} (h : fs.map (·.type) = ts) {j : Nat} {t : TypeId} (hj : ts[j]? = some t) : ∃ f, fs[j]? = some f ∧ f.type = t := by
  rw [← h, Array.getElem?_map] at hj
  cases hf : fs[j]? with
  | none => rw [hf] at hj; cases hj
  | some f => rw [hf] at hj; exact ⟨f, rfl, Option.some.inj hj⟩

end Go.Proofs.YtkefbmbjkijilaaGreatDoor
/- Pa -/
namespace Go.Proofs.YtkefbmbjkijilaaGreatDoor
open Go.RowKit
set_option maxHeartbeats 400000 in
theorem szPodS_any (A : Option Addr) (n c : Nat) (left : Int) (w : World) (hn : n ≤ maxLen) (h0 : 0 ≤ left) (h1 : left ≤ 1048576) :
    Calls Tryz.prog 33 #[.slice A n c, .int .i64 left] w fun e w' => e = .returned (.int .i64 (szI left n)) ∧ w = w' := by
  unfold maxLen at hn
  go_enter Tryz.func33, Tryz.ntmps33
  go_wp2
  · go_ret
    exact ⟨by rw [szI_neg (by omega)]; rfl, rfl⟩
  · go_ret
    exact ⟨by rw [szI_pos (by omega)]; rfl, rfl⟩
set_option maxHeartbeats 400000 in
theorem szInt64S_any (A : Option Addr) (n c : Nat) (left : Int) (w : World) (hn : n ≤ maxLen) (h0 : 0 ≤ left) (h1 : left ≤ 1048576) :
    Calls Tryz.prog 34 #[.slice A n c, .int .i64 left] w fun e w' => e = .returned (.int .i64 (szI left n)) ∧ w = w' := by
  unfold maxLen at hn
  go_enter Tryz.func34, Tryz.ntmps34
  go_wp2
  · go_ret
    exact ⟨by rw [szI_neg (by omega)]; rfl, rfl⟩
  · go_ret
    exact ⟨by rw [szI_pos (by omega)]; rfl, rfl⟩
set_option maxHeartbeats 400000 in
theorem szMountS_any (A : Option Addr) (n c : Nat) (left : Int) (w : World) (hn : n ≤ maxLen) (h0 : 0 ≤ left) (h1 : left ≤ 1048576) :
    Calls Tryz.prog 35 #[.slice A n c, .int .i64 left] w fun e w' => e = .returned (.int .i64 (szI left n)) ∧ w = w' := by
  unfold maxLen at hn
  go_enter Tryz.func35, Tryz.ntmps35
  go_wp2
  · go_ret
    exact ⟨by rw [szI_neg (by omega)]; rfl, rfl⟩
  · go_ret
    exact ⟨by rw [szI_pos (by omega)]; rfl, rfl⟩
set_option maxHeartbeats 400000 in
theorem szDeviceS_any (A : Option Addr) (n c : Nat) (left : Int) (w : World) (hn : n ≤ maxLen) (h0 : 0 ≤ left) (h1 : left ≤ 1048576) :
    Calls Tryz.prog 36 #[.slice A n c, .int .i64 left] w fun e w' => e = .returned (.int .i64 (szI left n)) ∧ w = w' := by
  unfold maxLen at hn
  go_enter Tryz.func36, Tryz.ntmps36
  go_wp2
  · go_ret
    exact ⟨by rw [szI_neg (by omega)]; rfl, rfl⟩
  · go_ret
    exact ⟨by rw [szI_pos (by omega)]; rfl, rfl⟩

/-- the plan as a value: its four lists and three numbers -/
abbrev planV (A0 A1 A2 A3 : Option Addr) (n0 c0 n1 c1 n2 c2 n3 c3 : Nat) (l p t : Int) : Value :=
  .agg #[.slice A0 n0 c0, .slice A1 n1 c1, .slice A2 n2 c2, .slice A3 n3 c3, .int .i64 l, .int .i64 p, .int .i64 t]

def sizesB (n0 n1 n2 n3 : Nat) : Bool := decide (n0 ≤ 12) && decide (n1 ≤ 4) && decide (n2 ≤ 12) && decide (n3 ≤ 12)
def timesB (l p t : Int) : Bool := inB l 0 500 && inB p 1 9 && inB t p 30
set_option maxHeartbeats 400000 in
theorem sizesRight_any (A0 A1 A2 A3 : Option Addr) (n0 c0 n1 c1 n2 c2 n3 c3 : Nat) (l p t : Int) (w : World)
    (b0 : n0 ≤ maxLen) (b1 : n1 ≤ maxLen) (b2 : n2 ≤ maxLen) (b3 : n3 ≤ maxLen) :
    Calls Tryz.prog 135 #[planV A0 A1 A2 A3 n0 c0 n1 c1 n2 c2 n3 c3 l p t] w fun e w' =>
      e = .returned (.bool (sizesB n0 n1 n2 n3)) ∧ Below w.heap.size w w' := by
  unfold maxLen at b0 b1 b2 b3
  go_enter Tryz.func135, Tryz.ntmps135
  go_wp2
  all_goals (go_ret; refine ⟨ret_bool ?_, (Below.refl _ _).alloc (Nat.le_refl _) _⟩)
  all_goals (unfold sizesB; rw [Bool.eq_iff_iff]; simp; omega)

set_option maxHeartbeats 400000 in
theorem timesRight_any (A0 A1 A2 A3 : Option Addr) (n0 c0 n1 c1 n2 c2 n3 c3 : Nat) (l p t : Int) (w : World) :
    Calls Tryz.prog 136 #[planV A0 A1 A2 A3 n0 c0 n1 c1 n2 c2 n3 c3 l p t] w fun e w' =>
      e = .returned (.bool (timesB l p t)) ∧ Below w.heap.size w w' := by
  unfold timesB
  cases h1 : inB l 0 500
  · go_enter Tryz.func136, Tryz.ntmps136
    go_wp2_with (go_at_call 133; refine (within_any _ _ _ _).mono ?_; rintro e w' ⟨rfl, rfl⟩)
    go_ret
    exact ⟨rfl, (Below.refl _ _).alloc (Nat.le_refl _) _⟩
  · cases h2 : inB p 1 9
    · go_enter Tryz.func136, Tryz.ntmps136
      go_wp2_with (go_at_call 133; refine (within_any _ _ _ _).mono ?_; rintro e w' ⟨rfl, rfl⟩)
      go_ret
      exact ⟨rfl, (Below.refl _ _).alloc (Nat.le_refl _) _⟩
    · go_enter Tryz.func136, Tryz.ntmps136
      go_wp2_with (go_at_call 133; refine (within_any _ _ _ _).mono ?_; rintro e w' ⟨rfl, rfl⟩)
      go_ret
      exact ⟨ret_bool (by simp), (Below.refl _ _).alloc (Nat.le_refl _) _⟩
end Go.Proofs.YtkefbmbjkijilaaGreatDoor
/- Pb -/
set_option linter.unusedVariables false
namespace Go.Proofs.YtkefbmbjkijilaaGreatDoor
open Go.RowKit
def podB (n1 : Nat) (x : Nat → Int) (i : Nat) : Bool := inB (x (i * 4)) 0 (n1 - 1) && inB (x (i * 4 + 1)) 0 5 && inB (x (i * 4 + 2)) 0 500 && inB (x (i * 4 + 3)) 0 500

set_option maxHeartbeats 400000 in
theorem podRight_any (A0 A1 A2 A3 : Option Addr) (n0 c0 n1 c1 n2 c2 n3 c3 : Nat) (l p t : Int) (x0 : Nat → Int) (i : Nat) (w : World)
    (s0 : Sl w w.heap.size 4 A0 n0 x0) (hi : i < n0) (b0 : n0 ≤ maxLen) (b1 : n1 ≤ maxLen) :
    Calls Tryz.prog 138 #[planV A0 A1 A2 A3 n0 c0 n1 c1 n2 c2 n3 c3 l p t, .int .i64 i] w fun e w' =>
      e = .returned (.bool (podB n1 x0 i)) ∧ Below w.heap.size w w' := by
  unfold maxLen at b0 b1
  obtain ⟨b, off, rfl, hb, q0, q1, q2, q3⟩ := s0.cell4 hi
  clear s0
  go_enter Tryz.func138, Tryz.ntmps138
  go_wp2_with (first | (go_at_call 133; refine (within_any _ _ _ _).mono ?_; rintro e w' ⟨rfl, rfl⟩) | (go_at_call 134; refine (isIndex_any _ _ _).mono ?_; rintro e w' ⟨rfl, rfl⟩))
  all_goals (go_ret; refine ⟨ret_bool ?_, ((Below.refl _ _).alloc (Nat.le_refl _) _).alloc (by simp) _⟩)
  all_goals simp [podB, *]

def minB (x : Nat → Int) (i : Nat) : Bool := inB (x i) 0 12
set_option maxHeartbeats 400000 in
theorem minRight_any (A0 A1 A2 A3 : Option Addr) (n0 c0 n1 c1 n2 c2 n3 c3 : Nat) (l p t : Int) (x1 : Nat → Int) (i : Nat) (w : World)
    (s1 : Sl w w.heap.size 1 A1 n1 x1) (hi : i < n1) (b1 : n1 ≤ maxLen) :
    Calls Tryz.prog 139 #[planV A0 A1 A2 A3 n0 c0 n1 c1 n2 c2 n3 c3 l p t, .int .i64 i] w fun e w' =>
      e = .returned (.bool (minB x1 i)) ∧ Below w.heap.size w w' := by
  unfold maxLen at b1
  obtain ⟨b, off, rfl, hb, q0⟩ := s1.cell1 hi
  clear s1
  go_enter Tryz.func139, Tryz.ntmps139
  go_wp2_with (first | (go_at_call 133; refine (within_any _ _ _ _).mono ?_; rintro e w' ⟨rfl, rfl⟩))
  go_ret
  exact ⟨rfl, (Below.refl _ _).alloc (Nat.le_refl _) _⟩

def mountB (n0 : Nat) (x : Nat → Int) (i : Nat) : Bool := inB (x (i * 2)) 0 (n0 - 1) && inB (x (i * 2 + 1)) (-1) (i - 1)
theorem mountB_eq (n0 : Nat) (x : Nat → Int) (i : Nat) : mountB n0 x i = (inB (x (i * 2)) 0 (n0 - 1) && (x (i * 2 + 1) == -1 || inB (x (i * 2 + 1)) 0 (i - 1))) := by
  unfold mountB
  congr 1
  rw [Bool.eq_iff_iff]
  simp [inB]
  omega
set_option maxHeartbeats 400000 in
theorem mountRight_any (A0 A1 A2 A3 : Option Addr) (n0 c0 n1 c1 n2 c2 n3 c3 : Nat) (l p t : Int) (x2 : Nat → Int) (i : Nat) (w : World)
    (s2 : Sl w w.heap.size 2 A2 n2 x2) (hi : i < n2) (b0 : n0 ≤ maxLen) (b2 : n2 ≤ maxLen) :
    Calls Tryz.prog 140 #[planV A0 A1 A2 A3 n0 c0 n1 c1 n2 c2 n3 c3 l p t, .int .i64 i] w fun e w' =>
      e = .returned (.bool (mountB n0 x2 i)) ∧ Below w.heap.size w w' := by
  rw [mountB_eq]
  unfold maxLen at b0 b2
  obtain ⟨b, off, rfl, hb, q0, q1⟩ := s2.cell2 hi
  clear s2
  go_enter Tryz.func140, Tryz.ntmps140
  go_wp2_with (first | (go_at_call 134; refine (isIndex_any _ _ _).mono ?_; rintro e w' ⟨rfl, rfl⟩))
  all_goals (go_ret; refine ⟨ret_bool ?_, ((Below.refl _ _).alloc (Nat.le_refl _) _).alloc (by simp) _⟩)
  all_goals simp [*]

def deviceB (n2 : Nat) (x : Nat → Int) (i : Nat) : Bool := inB (x i) 0 (n2 - 1)
set_option maxHeartbeats 400000 in
theorem deviceRight_any (A0 A1 A2 A3 : Option Addr) (n0 c0 n1 c1 n2 c2 n3 c3 : Nat) (l p t : Int) (x3 : Nat → Int) (i : Nat) (w : World)
    (s3 : Sl w w.heap.size 1 A3 n3 x3) (hi : i < n3) (b2 : n2 ≤ maxLen) (b3 : n3 ≤ maxLen) :
    Calls Tryz.prog 141 #[planV A0 A1 A2 A3 n0 c0 n1 c1 n2 c2 n3 c3 l p t, .int .i64 i] w fun e w' =>
      e = .returned (.bool (deviceB n2 x3 i)) ∧ Below w.heap.size w w' := by
  unfold maxLen at b2 b3
  obtain ⟨b, off, rfl, hb, q0⟩ := s3.cell1 hi
  clear s3
  go_enter Tryz.func141, Tryz.ntmps141
  go_wp2_with fail
  go_quiet ((go_at_call 134; exact Calls.quiet_of_same ((isIndex_any _ _ _).mono fun e w' h => ⟨h.1, h.2.symm⟩)))
  go_wp2
  go_ret
  exact ⟨rfl, below_drewN ((Below.refl _ _).alloc (Nat.le_refl _) _) _⟩
end Go.Proofs.YtkefbmbjkijilaaGreatDoor
/- Pc -/
set_option linter.unusedVariables false
namespace Go.Proofs.YtkefbmbjkijilaaGreatDoor
open Go.RowKit
theorem enter_podRight (x y : Value) (wr : World) : (callFunc 138 #[x, y]).run Tryz.prog wr = .ok (.enter 138 #[x, y]) wr := by simp [go_sem]
theorem enter_minRight (x y : Value) (wr : World) : (callFunc 139 #[x, y]).run Tryz.prog wr = .ok (.enter 139 #[x, y]) wr := by simp [go_sem]
theorem enter_mountRight (x y : Value) (wr : World) : (callFunc 140 #[x, y]).run Tryz.prog wr = .ok (.enter 140 #[x, y]) wr := by simp [go_sem]
theorem enter_deviceRight (x y : Value) (wr : World) : (callFunc 141 #[x, y]).run Tryz.prog wr = .ok (.enter 141 #[x, y]) wr := by simp [go_sem]

/-- What a plan holds: how many, and the numbers. -/
structure PlanD where
  n0 : Nat
  n1 : Nat
  n2 : Nat
  n3 : Nat
  x0 : Nat → Int
  x1 : Nat → Int
  x2 : Nat → Int
  x3 : Nat → Int
  l : Int
  p : Int
  t : Int

/-- A plan's value, read in world w below block B. -/
structure IsPlan (w : World) (B : Nat) (v : Value) (d : PlanD) : Prop where
  val : ∃ A0 A1 A2 A3 c0 c1 c2 c3, v = planV A0 A1 A2 A3 d.n0 c0 d.n1 c1 d.n2 c2 d.n3 c3 d.l d.p d.t ∧ Sl w B 4 A0 d.n0 d.x0 ∧ Sl w B 1 A1 d.n1 d.x1 ∧ Sl w B 2 A2 d.n2 d.x2 ∧ Sl w B 1 A3 d.n3 d.x3
  b0 : d.n0 ≤ maxLen
  b1 : d.n1 ≤ maxLen
  b2 : d.n2 ≤ maxLen
  b3 : d.n3 ≤ maxLen

theorem IsPlan.below {w w' : World} {B B' : Nat} {v : Value} {d : PlanD} (h : IsPlan w B v d) (hb : Below B' w w') (hB : B ≤ B') : IsPlan w' B v d := by
  obtain ⟨⟨A0, A1, A2, A3, c0, c1, c2, c3, hv, s0, s1, s2, s3⟩, b0, b1, b2, b3⟩ := h
  exact ⟨⟨A0, A1, A2, A3, c0, c1, c2, c3, hv, s0.below hb hB, s1.below hb hB, s2.below hb hB, s3.below hb hB⟩, b0, b1, b2, b3⟩
theorem IsPlan.more {w : World} {B B' : Nat} {v : Value} {d : PlanD} (h : IsPlan w B v d) (hB : B ≤ B') : IsPlan w B' v d := by
  obtain ⟨⟨A0, A1, A2, A3, c0, c1, c2, c3, hv, s0, s1, s2, s3⟩, b0, b1, b2, b3⟩ := h
  exact ⟨⟨A0, A1, A2, A3, c0, c1, c2, c3, hv, s0.more hB, s1.more hB, s2.more hB, s3.more hB⟩, b0, b1, b2, b3⟩

/-- A plan is right. -/
def planOkB (d : PlanD) : Bool :=
  sizesB d.n0 d.n1 d.n2 d.n3 && timesB d.l d.p d.t && allB d.n0 (podB d.n1 d.x0) && allB d.n1 (minB d.x1) && allB d.n2 (mountB d.n0 d.x2) && allB d.n3 (deviceB d.n2 d.x3)

section
variable (A0 A1 A2 A3 : Option Addr) (n0 c0 n1 c1 n2 c2 n3 c3 : Nat) (l p t : Int) (x0 x1 x2 x3 : Nat → Int) (w W : World)
theorem all_pods (K : Below w.heap.size w W) (s0 : Sl w w.heap.size 4 A0 n0 x0) (b0 : n0 ≤ maxLen) (b1 : n1 ≤ maxLen) :
    Calls Tryz.prog 137 #[.int .i64 n0, .func (.func 138) #[planV A0 A1 A2 A3 n0 c0 n1 c1 n2 c2 n3 c3 l p t] #[]] W fun e w' =>
      e = .returned (.bool (allB n0 (podB n1 x0))) ∧ Below W.heap.size W w' :=
  allBelow_any _ _ n0 _ W b0 enter_podRight fun i hi wr hb =>
    podRight_any A0 A1 A2 A3 n0 c0 n1 c1 n2 c2 n3 c3 l p t x0 i wr ((s0.below (below_via K hb) (Nat.le_refl _)).more (below_via K hb).size) hi b0 b1
theorem all_mins (K : Below w.heap.size w W) (s1 : Sl w w.heap.size 1 A1 n1 x1) (b1 : n1 ≤ maxLen) :
    Calls Tryz.prog 137 #[.int .i64 n1, .func (.func 139) #[planV A0 A1 A2 A3 n0 c0 n1 c1 n2 c2 n3 c3 l p t] #[]] W fun e w' =>
      e = .returned (.bool (allB n1 (minB x1))) ∧ Below W.heap.size W w' :=
  allBelow_any _ _ n1 _ W b1 enter_minRight fun i hi wr hb =>
    minRight_any A0 A1 A2 A3 n0 c0 n1 c1 n2 c2 n3 c3 l p t x1 i wr ((s1.below (below_via K hb) (Nat.le_refl _)).more (below_via K hb).size) hi b1
theorem all_mounts (K : Below w.heap.size w W) (s2 : Sl w w.heap.size 2 A2 n2 x2) (b0 : n0 ≤ maxLen) (b2 : n2 ≤ maxLen) :
    Calls Tryz.prog 137 #[.int .i64 n2, .func (.func 140) #[planV A0 A1 A2 A3 n0 c0 n1 c1 n2 c2 n3 c3 l p t] #[]] W fun e w' =>
      e = .returned (.bool (allB n2 (mountB n0 x2))) ∧ Below W.heap.size W w' :=
  allBelow_any _ _ n2 _ W b2 enter_mountRight fun i hi wr hb =>
    mountRight_any A0 A1 A2 A3 n0 c0 n1 c1 n2 c2 n3 c3 l p t x2 i wr ((s2.below (below_via K hb) (Nat.le_refl _)).more (below_via K hb).size) hi b0 b2
theorem all_devices (K : Below w.heap.size w W) (s3 : Sl w w.heap.size 1 A3 n3 x3) (b2 : n2 ≤ maxLen) (b3 : n3 ≤ maxLen) :
    Calls Tryz.prog 137 #[.int .i64 n3, .func (.func 141) #[planV A0 A1 A2 A3 n0 c0 n1 c1 n2 c2 n3 c3 l p t] #[]] W fun e w' =>
      e = .returned (.bool (allB n3 (deviceB n2 x3))) ∧ Below W.heap.size W w' :=
  allBelow_any _ _ n3 _ W b3 enter_deviceRight fun i hi wr hb =>
    deviceRight_any A0 A1 A2 A3 n0 c0 n1 c1 n2 c2 n3 c3 l p t x3 i wr ((s3.below (below_via K hb) (Nat.le_refl _)).more (below_via K hb).size) hi b2 b3
end

set_option maxHeartbeats 2000000 in
theorem planOk_any (v : Value) (d : PlanD) (w : World) (h : IsPlan w w.heap.size v d) :
    Calls Tryz.prog 104 #[v] w fun e w' => e = .returned (.bool (planOkB d)) ∧ Below w.heap.size w w' := by
  obtain ⟨⟨A0, A1, A2, A3, c0, c1, c2, c3, rfl, s0, s1, s2, s3⟩, b0, b1, b2, b3⟩ := h
  obtain ⟨n0, n1, n2, n3, x0, x1, x2, x3, l, p, t⟩ := d
  dsimp only at *
  have S0 := Lib.hid s0
  have S1 := Lib.hid s1
  have S2 := Lib.hid s2
  have S3 := Lib.hid s3
  have B0 := Lib.hid b0
  have B1 := Lib.hid b1
  have B2 := Lib.hid b2
  have B3 := Lib.hid b3
  clear s0 s1 s2 s3 b0 b1 b2 b3
  go_enter Tryz.func104, Tryz.ntmps104
  go_wp2_with fail
  refine (sizesRight_any A0 A1 A2 A3 n0 c0 n1 c1 n2 c2 n3 c3 l p t _ B0.out B1.out B2.out B3.out).mono ?_
  rintro e w1 ⟨rfl, hb1⟩
  have X1 := (Own.box w _ _).step hb1
  have hC1 := X1.C
  clear hb1
  go_wp2_with (first
    | (go_at_call 136; refine (timesRight_any A0 A1 A2 A3 n0 c0 n1 c1 n2 c2 n3 c3 l p t _).mono ?_; rintro e w2 ⟨rfl, hb2⟩; have X2 := X1.step hb2; have hC2 := X2.C; clear hb2)
    | (with_reducible refine (all_pods A0 A1 A2 A3 n0 c0 n1 c1 n2 c2 n3 c3 l p t x0 w _ X2.K S0.out B0.out B1.out).mono ?_; rintro e w3 ⟨rfl, hb3⟩; have X3 := X2.step hb3; have hC3 := X3.C; clear hb3)
    | (with_reducible refine (all_mins A0 A1 A2 A3 n0 c0 n1 c1 n2 c2 n3 c3 l p t x1 w _ X3.K S1.out B1.out).mono ?_; rintro e w4 ⟨rfl, hb4⟩; have X4 := X3.step hb4; have hC4 := X4.C; clear hb4)
    | (with_reducible refine (all_mounts A0 A1 A2 A3 n0 c0 n1 c1 n2 c2 n3 c3 l p t x2 w _ X4.K S2.out B0.out B2.out).mono ?_; rintro e w5 ⟨rfl, hb5⟩; have X5 := X4.step hb5; have hC5 := X5.C; clear hb5)
    | (with_reducible refine (all_devices A0 A1 A2 A3 n0 c0 n1 c1 n2 c2 n3 c3 l p t x3 w _ X5.K S3.out B2.out B3.out).mono ?_; rintro e w6 ⟨rfl, hb6⟩; have X6 := X5.step hb6; have hC6 := X6.C; clear hb6))
  all_goals (go_ret; refine ⟨ret_bool (by simp [planOkB, *]), ?_⟩)
  · exact X6.K
  · exact X5.K
  · exact X4.K
  · exact X3.K
  · exact X2.K
  · exact X1.K
end Go.Proofs.YtkefbmbjkijilaaGreatDoor
