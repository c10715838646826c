/-
  A slice of whole-number cells as a function on places; the plan's own checks of one pod, one least number, one mount, one device.
-/
import Derived.Test.YtmbblhnagohlhaaPa
import Derived.Deep.Draws
import Derived.Deep.QuietTactic
import Derived.BigQuiet
import Derived.WalkSmall
import Derived.Lib.Hide
set_option linter.unusedVariables false
namespace Go.Proofs.Ytmbblhnagohlhaa
open Go.RowKit

/-- The slice value with address A and length n holds x 0, x 1, .. (k cells an element), below block B. -/
def Sl (w : World) (B k : Nat) (A : Option Addr) (n : Nat) (x : Nat → Int) : Prop :=
  0 < n → ∃ b off, A = some ⟨b, off, none⟩ ∧ b < B ∧ ∀ j, j < n * k → w.cell? ⟨b, off + j, none⟩ = some (.int .i64 (x j))

theorem Sl.below {w w' : World} {B B' k n : Nat} {A : Option Addr} {x : Nat → Int} (h : Sl w B k A n x) (hb : Below B' w w') (hB : B ≤ B') : Sl w' B k A n x := fun hn => by
  obtain ⟨b, off, rfl, hlt, hc⟩ := h hn
  exact ⟨b, off, rfl, hlt, fun j hj => (hb.cell (p := ⟨b, off + j, none⟩) (by show b < B'; omega)).trans (hc j hj)⟩
theorem Sl.more {w : World} {B B' k n : Nat} {A : Option Addr} {x : Nat → Int} (h : Sl w B k A n x) (hB : B ≤ B') : Sl w B' k A n x := fun hn => by
  obtain ⟨b, off, rfl, hlt, hc⟩ := h hn
  exact ⟨b, off, rfl, by omega, hc⟩
theorem bcell {B : Nat} {W w1 : World} (hb : Below B W w1) : (∀ b o, b < B → w1.cell? ⟨b, o, none⟩ = W.cell? ⟨b, o, none⟩) ∧ (∀ b o, b < B → w1.frozen? ⟨b, o, none⟩ = W.frozen? ⟨b, o, none⟩) :=
  ⟨fun b o h => hb.cell (p := ⟨b, o, none⟩) h, fun b o h => hb.frozen (p := ⟨b, o, none⟩) h⟩

/-- Of the worlds w (when a call began) and w1 (now): below w nothing has turned; block g holds just cs, all writable. -/
structure Own (w w1 : World) (g : Nat) (cs : Array Value) : Prop where
  K : Below w.heap.size w w1
  z : g < w1.heap.size
  C : ∀ o, w1.cell? ⟨g, o, none⟩ = cs[o]?
  F : ∀ o, w1.frozen? ⟨g, o, none⟩ = false
theorem cell_new (w : World) (cs : Array Value) (t : TypeId) (o : Nat) : (w.alloc (.cells cs t)).cell? ⟨w.heap.size, o, none⟩ = cs[o]? :=
  cell_of_row _ _ _ _ _ _ (heap_alloc_new w _)
theorem Own.box2 {w w1 : World} (K : Below w.heap.size w w1) (cs : Array Value) (t : TypeId) : Own w (w1.alloc (.cells cs t)) w1.heap.size cs :=
  ⟨K.alloc K.size _, by simp, cell_new w1 cs t, fun o => frozen_of_row _ _ _ _ _ (heap_alloc_new w1 _)⟩
theorem Own.box (w : World) (cs : Array Value) (t : TypeId) : Own w (w.alloc (.cells cs t)) w.heap.size cs := Own.box2 (Below.refl _ _) cs t
theorem Own.step {w w1 w2 : World} {g : Nat} {cs : Array Value} (h : Own w w1 g cs) (hb : Below w1.heap.size w1 w2) : Own w w2 g cs :=
  ⟨h.K.trans (hb.mono h.K.size), Nat.lt_of_lt_of_le h.z hb.size, fun o => (hb.cell (p := ⟨g, o, none⟩) h.z).trans (h.C o), fun o => (hb.frozen (p := ⟨g, o, none⟩) h.z).trans (h.F o)⟩
theorem Own.alloc {w w1 : World} {g : Nat} {cs : Array Value} (h : Own w w1 g cs) (o : Obj) : Own w (w1.alloc o) g cs :=
  h.step ((Below.refl _ _).alloc (Nat.le_refl _) _)
theorem Own.drew {w w1 : World} {g : Nat} {cs : Array Value} (h : Own w w1 g cs) : Own w w1.drew g cs := h.step (Below.refl _ _).drew
theorem Own.drewN {w w1 : World} {g : Nat} {cs : Array Value} (h : Own w w1 g cs) (n : Nat) : Own w (w1.drewN n) g cs := h.step (below_drewN (Below.refl _ _) n)
theorem Own.far {w w1 : World} {g : Nat} {cs : Array Value} (h : Own w w1 g cs) {p : Addr} (hp : w.heap.size ≤ p.block) (hne : p.block ≠ g) (v : Value) : Own w (w1.setCell p v) g cs :=
  ⟨h.K.setCell hp v, by simpa [World.setCell] using h.z, fun o => (World.cell?_setCell_other _ _ _ _ (fun e => hne (by rw [e]))).trans (h.C o), fun o => by rw [World.frozen?_setCell]; exact h.F o⟩
theorem Own.set {w w1 : World} {g : Nat} {cs : Array Value} (h : Own w w1 g cs) (hg : w.heap.size ≤ g) {i : Nat} (hi : i < cs.size) (v : Value) : Own w (w1.setCell ⟨g, i, none⟩ v) g (cs.setIfInBounds i v) :=
  ⟨h.K.setCell hg v, by simpa [World.setCell] using h.z, fun o => by
    by_cases e : o = i
    · subst e
      have hc := (h.C o).trans (Array.getElem?_eq_getElem hi)
      rw [World.cell?_setCell_same _ _ _ hc]
      simp [hi]
    · rw [World.cell?_setCell_other _ _ _ _ (fun he => e (by injection he with _ h2 _; exact h2.symm)), h.C o, Array.getElem?_setIfInBounds_ne (fun he => e he.symm)],
   fun o => by rw [World.frozen?_setCell]; exact h.F o⟩
theorem Sl.own {w w1 : World} {k n g : Nat} {cs : Array Value} {A : Option Addr} {x : Nat → Int} (h : Sl w w.heap.size k A n x) (o : Own w w1 g cs) : Sl w1 w1.heap.size k A n x :=
  (h.below o.K (Nat.le_refl _)).more o.K.size

theorem Sl.cell4 {w : World} {B n : Nat} {A : Option Addr} {x : Nat → Int} (h : Sl w B 4 A n x) {i : Nat} (hi : i < n) : ∃ b off, A = some ⟨b, off, none⟩ ∧ b < B ∧
    w.cell? ⟨b, off + i * 4, none⟩ = some (.int .i64 (x (i * 4))) ∧ w.cell? ⟨b, off + i * 4 + 1, none⟩ = some (.int .i64 (x (i * 4 + 1))) ∧
    w.cell? ⟨b, off + i * 4 + 2, none⟩ = some (.int .i64 (x (i * 4 + 2))) ∧ w.cell? ⟨b, off + i * 4 + 3, none⟩ = some (.int .i64 (x (i * 4 + 3))) := by
  obtain ⟨b, off, rfl, hb, hc⟩ := h (by omega)
  exact ⟨b, off, rfl, hb, hc _ (by omega), by rw [Nat.add_assoc]; exact hc _ (by omega), by rw [Nat.add_assoc]; exact hc _ (by omega), by rw [Nat.add_assoc]; exact hc _ (by omega)⟩
theorem Sl.cell2 {w : World} {B n : Nat} {A : Option Addr} {x : Nat → Int} (h : Sl w B 2 A n x) {i : Nat} (hi : i < n) : ∃ b off, A = some ⟨b, off, none⟩ ∧ b < B ∧
    w.cell? ⟨b, off + i * 2, none⟩ = some (.int .i64 (x (i * 2))) ∧ w.cell? ⟨b, off + i * 2 + 1, none⟩ = some (.int .i64 (x (i * 2 + 1))) := by
  obtain ⟨b, off, rfl, hb, hc⟩ := h (by omega)
  exact ⟨b, off, rfl, hb, hc _ (by omega), by rw [Nat.add_assoc]; exact hc _ (by omega)⟩
theorem Sl.cell1 {w : World} {B n : Nat} {A : Option Addr} {x : Nat → Int} (h : Sl w B 1 A n x) {i : Nat} (hi : i < n) : ∃ b off, A = some ⟨b, off, none⟩ ∧ b < B ∧
    w.cell? ⟨b, off + i, none⟩ = some (.int .i64 (x i)) := by
  obtain ⟨b, off, rfl, hb, hc⟩ := h (by omega)
  exact ⟨b, off, rfl, hb, hc _ (by omega)⟩

def podB (n1 : Nat) (x : Nat → Int) (i : Nat) : Bool := inB (x (i * 4)) 0 (n1 - 1) && inB (x (i * 4 + 1)) 0 5 && inB (x (i * 4 + 2)) 0 500 && inB (x (i * 4 + 3)) 0 500

set_option maxHeartbeats 400000 in
theorem podRight_any (A0 A1 A2 A3 : Option Addr) (n0 c0 n1 c1 n2 c2 n3 c3 : Nat) (l p t : Int) (x0 : Nat → Int) (i : Nat) (w : World)
    (s0 : Sl w w.heap.size 4 A0 n0 x0) (hi : i < n0) (b0 : n0 ≤ maxLen) (b1 : n1 ≤ maxLen) :
    Calls Try.prog 58 #[planV A0 A1 A2 A3 n0 c0 n1 c1 n2 c2 n3 c3 l p t, .int .i64 i] w fun e w' =>
      e = .returned (.bool (podB n1 x0 i)) ∧ Below w.heap.size w w' := by
  unfold maxLen at b0 b1
  obtain ⟨b, off, rfl, hb, q0, q1, q2, q3⟩ := s0.cell4 hi
  clear s0
  go_enter Try.func58, Try.ntmps58
  go_wp2_with (first | (go_at_call 76; refine (within_any _ _ _ _).mono ?_; rintro e w' ⟨rfl, rfl⟩) | (go_at_call 77; refine (isIndex_any _ _ _).mono ?_; rintro e w' ⟨rfl, rfl⟩))
  all_goals (go_ret; refine ⟨ret_bool ?_, ((Below.refl _ _).alloc (Nat.le_refl _) _).alloc (by simp) _⟩)
  all_goals simp [podB, *]

def minB (x : Nat → Int) (i : Nat) : Bool := inB (x i) 0 12
set_option maxHeartbeats 400000 in
theorem minRight_any (A0 A1 A2 A3 : Option Addr) (n0 c0 n1 c1 n2 c2 n3 c3 : Nat) (l p t : Int) (x1 : Nat → Int) (i : Nat) (w : World)
    (s1 : Sl w w.heap.size 1 A1 n1 x1) (hi : i < n1) (b1 : n1 ≤ maxLen) :
    Calls Try.prog 59 #[planV A0 A1 A2 A3 n0 c0 n1 c1 n2 c2 n3 c3 l p t, .int .i64 i] w fun e w' =>
      e = .returned (.bool (minB x1 i)) ∧ Below w.heap.size w w' := by
  unfold maxLen at b1
  obtain ⟨b, off, rfl, hb, q0⟩ := s1.cell1 hi
  clear s1
  go_enter Try.func59, Try.ntmps59
  go_wp2_with (first | (go_at_call 76; refine (within_any _ _ _ _).mono ?_; rintro e w' ⟨rfl, rfl⟩))
  go_ret
  exact ⟨rfl, (Below.refl _ _).alloc (Nat.le_refl _) _⟩

def mountB (n0 : Nat) (x : Nat → Int) (i : Nat) : Bool := inB (x (i * 2)) 0 (n0 - 1) && inB (x (i * 2 + 1)) (-1) (i - 1)
theorem mountB_eq (n0 : Nat) (x : Nat → Int) (i : Nat) : mountB n0 x i = (inB (x (i * 2)) 0 (n0 - 1) && (x (i * 2 + 1) == -1 || inB (x (i * 2 + 1)) 0 (i - 1))) := by
  unfold mountB
  congr 1
  rw [Bool.eq_iff_iff]
  simp [inB]
  omega
set_option maxHeartbeats 400000 in
theorem mountRight_any (A0 A1 A2 A3 : Option Addr) (n0 c0 n1 c1 n2 c2 n3 c3 : Nat) (l p t : Int) (x2 : Nat → Int) (i : Nat) (w : World)
    (s2 : Sl w w.heap.size 2 A2 n2 x2) (hi : i < n2) (b0 : n0 ≤ maxLen) (b2 : n2 ≤ maxLen) :
    Calls Try.prog 60 #[planV A0 A1 A2 A3 n0 c0 n1 c1 n2 c2 n3 c3 l p t, .int .i64 i] w fun e w' =>
      e = .returned (.bool (mountB n0 x2 i)) ∧ Below w.heap.size w w' := by
  rw [mountB_eq]
  unfold maxLen at b0 b2
  obtain ⟨b, off, rfl, hb, q0, q1⟩ := s2.cell2 hi
  clear s2
  go_enter Try.func60, Try.ntmps60
  go_wp2_with (first | (go_at_call 77; refine (isIndex_any _ _ _).mono ?_; rintro e w' ⟨rfl, rfl⟩))
  all_goals (go_ret; refine ⟨ret_bool ?_, ((Below.refl _ _).alloc (Nat.le_refl _) _).alloc (by simp) _⟩)
  all_goals simp [*]

def deviceB (n2 : Nat) (x : Nat → Int) (i : Nat) : Bool := inB (x i) 0 (n2 - 1)
set_option maxHeartbeats 400000 in
theorem deviceRight_any (A0 A1 A2 A3 : Option Addr) (n0 c0 n1 c1 n2 c2 n3 c3 : Nat) (l p t : Int) (x3 : Nat → Int) (i : Nat) (w : World)
    (s3 : Sl w w.heap.size 1 A3 n3 x3) (hi : i < n3) (b2 : n2 ≤ maxLen) (b3 : n3 ≤ maxLen) :
    Calls Try.prog 61 #[planV A0 A1 A2 A3 n0 c0 n1 c1 n2 c2 n3 c3 l p t, .int .i64 i] w fun e w' =>
      e = .returned (.bool (deviceB n2 x3 i)) ∧ Below w.heap.size w w' := by
  unfold maxLen at b2 b3
  obtain ⟨b, off, rfl, hb, q0⟩ := s3.cell1 hi
  clear s3
  go_enter Try.func61, Try.ntmps61
  go_wp2_with fail
  go_quiet ((go_at_call 77; exact Calls.quiet_of_same ((isIndex_any _ _ _).mono fun e w' h => ⟨h.1, h.2.symm⟩)))
  go_wp2
  go_ret
  exact ⟨rfl, below_drewN ((Below.refl _ _).alloc (Nat.le_refl _) _) _⟩
end Go.Proofs.Ytmbblhnagohlhaa
