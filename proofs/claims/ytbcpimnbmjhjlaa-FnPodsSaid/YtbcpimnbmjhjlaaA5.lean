/-
  The model's cursor made; its small draws.
-/
import Derived.Test.YtbcpimnbmjhjlaaA4
import Derived.RegionTactic
import Derived.BigRegion
set_option linter.unusedVariables false
namespace Go.Proofs.Ytbcpimnbmjhjlaa
open Go.RowKit

theorem Cur.lt {T : TypeId} {k : IntKind} {w : World} {g : Nat} (h : Cur T k w g) : g < w.heap.size := by
  obtain ⟨A, n, c, i, hh, hg, _⟩ := h
  exact (Array.getElem?_eq_some_iff.1 hg).1
theorem Cur.keeps {T : TypeId} {k : IntKind} {S : Nat → Prop} {w w' : World} {g : Nat} (h : Cur T k w g) (kk : Keeps S w w') (hn : ∀ b, b ≤ g → ¬ S b) : Cur T k w' g := by
  have hlt := h.lt
  obtain ⟨A, n, c, i, hh, hg, i0, i1, hm, hB⟩ := h
  exact ⟨A, n, c, i, hh, (kk.block g hlt (hn g (Nat.le_refl _))).trans hg, i0, i1, hm, hB.below (kk.below (B := g) (by omega) (fun b hb => hn b (by omega))) (Nat.le_refl _)⟩
theorem Cur.below {T : TypeId} {k : IntKind} {w w' : World} {g : Nat} (h : Cur T k w g) (hb : Below w.heap.size w w') : Cur T k w' g :=
  h.keeps (S := fun _ => False) (Keeps.of_below hb) (fun _ _ => id)
/-- What a maker of a cursor answers. -/
def Rolled (T : TypeId) (k : IntKind) (w : World) (e : Ending) (w' : World) : Prop :=
  ∃ g, e = .returned (.pointer (some ⟨g, 0, none⟩)) ∧ w.heap.size ≤ g ∧ Cur T k w' g ∧ Below w.heap.size w w'
set_option maxRecDepth 100000 in
set_option maxHeartbeats 1000000 in
theorem l1New_any (A : Option Addr) (n c : Nat) (w : World) (hB : Bytes w w.heap.size A n) (hn : n ≤ 4096) :
    Calls Try.prog 19 #[.slice A n c] w (Rolled 49 .i64 w) := by
  have HB := Lib.hid hB
  clear hB
  go_enter Try.func19, Try.ntmps19
  go_wp2
  go_loop [3, 4] (fun h i => ∃ k : Nat, k ≤ n ∧ i = .int .i64 k ∧ ∃ z : Int, h = .int .i64 z) (fun _ i => n - (intOf i).toNat)
  case atStart => exact ⟨0, Nat.zero_le _, rfl, _, rfl⟩
  case round =>
    obtain ⟨k, hk, rfl, y, rfl⟩ := hrel
    by_cases hlt : k < n
    · obtain ⟨b, off, rfl, hbg, hz⟩ := HB.out (by omega)
      obtain ⟨z, hz0, z0, z1⟩ := hz k hlt
      clear hz
      go_wp2
      exact ⟨⟨k + 1, by omega, by go_num, _, rfl⟩, by simp [intOf]; omega⟩
    · obtain rfl : k = n := by omega
      go_wp2
      go_ret
      refine ⟨_, rfl, Nat.le_refl _, ⟨A, k, c, 0, y, heap_alloc_new _ _, by omega, by omega, hn, HB.out.below ((Below.refl _ _).alloc (Nat.le_refl _) _) (Nat.le_refl _)⟩, (Below.refl _ _).alloc (Nat.le_refl _) _⟩
/-- Behind a draw of a number from lo to hi. -/
def DrawnIn (T : TypeId) (k : IntKind) (g : Nat) (lo hi : Int) (w : World) (e : Ending) (w' : World) : Prop :=
  ∃ r : Int, e = .returned (.int .i64 r) ∧ lo ≤ r ∧ r ≤ hi ∧ Cur T k w' g ∧ Keeps (· = g) w w'
/-- Behind a draw of whatever number. -/
def DrawnInt (T : TypeId) (k : IntKind) (g : Nat) (w : World) (e : Ending) (w' : World) : Prop :=
  ∃ r : Int, e = .returned (.int .i64 r) ∧ Cur T k w' g ∧ Keeps (· = g) w w'
def DrawnBool (T : TypeId) (k : IntKind) (g : Nat) (w : World) (e : Ending) (w' : World) : Prop :=
  ∃ b : Bool, e = .returned (.bool b) ∧ Cur T k w' g ∧ Keeps (· = g) w w'
set_option maxRecDepth 100000 in
set_option maxHeartbeats 1000000 in
theorem l1From_any (g : Nat) (lo hi : Int) (w : World) (h : Cur 49 .i64 w g) (h0 : lo ≤ hi) (h1 : hi - lo < 256) (h2 : -1000 ≤ lo) (h3 : hi ≤ 1000) :
    Calls Try.prog 21 #[.pointer (some ⟨g, 0, none⟩), .int .i64 lo, .int .i64 hi] w (DrawnIn 49 .i64 g lo hi w) := by
  have H := Lib.hid h
  clear h
  go_enter Try.func21, Try.ntmps21
  go_wp2_with fail
  refine (l1Below_any g _ _ H.out (by omega) (by omega)).mono ?_
  rintro e w2 ⟨x, rfl, x0, x1, hc, hk⟩
  go_wp2_with fail
  go_ret
  exact ⟨_, rfl, by omega, by omega, hc, hk⟩
end Go.Proofs.Ytbcpimnbmjhjlaa
