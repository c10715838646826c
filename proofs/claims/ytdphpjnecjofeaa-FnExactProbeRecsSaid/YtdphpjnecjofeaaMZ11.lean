/-
  The model's cursor made; its small draws.
-/
import Derived.Test.YtdphpjnecjofeaaMZxWg
import Derived.Test.YtdphpjnecjofeaaMZ10
import Derived.Test.YtdphpjnecjofeaaMZ0
import Derived.RegionTactic
import Derived.BigRegion
/- Wh -/
set_option linter.unusedVariables false
namespace Go.Proofs.Ytdphpjnecjofeaa
open Go.RowKit

end Go.Proofs.Ytdphpjnecjofeaa
/- A4 -/
set_option linter.unusedVariables false
namespace Go.Proofs.Ytdphpjnecjofeaa
open Go.RowKit

/-- The bytes that came in, below block B. -/
def Bytes (w : World) (B : Nat) (A : Option Addr) (n : Nat) : Prop :=
  0 < n → ∃ b off, A = some ⟨b, off, none⟩ ∧ b < B ∧ ∀ j, j < n → ∃ z : Int, w.cell? ⟨b, off + j, none⟩ = some (.int .u8 z) ∧ 0 ≤ z ∧ z ≤ 255
/-- The cells of a cursor: the bytes, how many are used, a number. -/
abbrev curC (k : IntKind) (A : Option Addr) (n c : Nat) (i h : Int) : Array Value := #[.slice A n c, .int .i64 i, .int k h]
/-- A cursor at block g, of type T, over bytes below block B. -/
structure Cur (T : TypeId) (k : IntKind) (w : World) (g : Nat) : Prop where
  it : ∃ A n c i h, w.heap[g]? = some (.cells (curC k A n c i h) T (0, 0)) ∧ 0 ≤ i ∧ i ≤ (n : Int) ∧ n ≤ 4096 ∧ Bytes w g A n
theorem Bytes.below {w w' : World} {B B' n : Nat} {A : Option Addr} (h : Bytes w B A n) (hb : Below B' w w') (hB : B ≤ B') : Bytes w' B A n := fun hn => by
  obtain ⟨b, off, rfl, hlt, hc⟩ := h hn
  exact ⟨b, off, rfl, hlt, fun j hj => by obtain ⟨z, hz, hr⟩ := hc j hj; exact ⟨z, (hb.cell (p := ⟨b, off + j, none⟩) (by show b < B'; omega)).trans hz, hr⟩⟩
theorem Cur.of {T : TypeId} {k : IntKind} {w w' : World} {g : Nat} {A : Option Addr} {n c : Nat} {i h : Int} (hB : Bytes w g A n) (hm : n ≤ 4096) (hk : Keeps (· = g) w w') (hgs : g < w.heap.size)
    (hg : w'.heap[g]? = some (.cells (curC k A n c i h) T (0, 0))) (i0 : 0 ≤ i) (i1 : i ≤ (n : Int)) : Cur T k w' g :=
  ⟨A, n, c, i, h, hg, i0, i1, hm, hB.below (hk.below (B := g) (by omega) (fun b hb e => by omega)) (Nat.le_refl _)⟩
theorem Bytes.more {w : World} {B B' n : Nat} {A : Option Addr} (h : Bytes w B A n) (hB : B ≤ B') : Bytes w B' A n := fun hn => by
  obtain ⟨b, off, e, hlt, hc⟩ := h hn
  exact ⟨b, off, e, by omega, hc⟩

end Go.Proofs.Ytdphpjnecjofeaa
/- A5 -/
set_option linter.unusedVariables false
namespace Go.Proofs.Ytdphpjnecjofeaa
open Go.RowKit

theorem Cur.lt {T : TypeId} {k : IntKind} {w : World} {g : Nat} (h : Cur T k w g) : g < w.heap.size := by
  obtain ⟨A, n, c, i, hh, hg, _⟩ := h
  exact (Array.getElem?_eq_some_iff.1 hg).1
theorem Cur.keeps {T : TypeId} {k : IntKind} {S : Nat → Prop} {w w' : World} {g : Nat} (h : Cur T k w g) (kk : Keeps S w w') (hn : ∀ b, b ≤ g → ¬ S b) : Cur T k w' g := by
  have hlt := h.lt
  obtain ⟨A, n, c, i, hh, hg, i0, i1, hm, hB⟩ := h
  exact ⟨A, n, c, i, hh, (kk.block g hlt (hn g (Nat.le_refl _))).trans hg, i0, i1, hm, hB.below (kk.below (B := g) (by omega) (fun b hb => hn b (by omega))) (Nat.le_refl _)⟩
theorem Cur.below {T : TypeId} {k : IntKind} {w w' : World} {g : Nat} (h : Cur T k w g) (hb : Below w.heap.size w w') : Cur T k w' g :=
  h.keeps (S := fun _ => False) (Keeps.of_below hb) (fun _ _ => id)
end Go.Proofs.Ytdphpjnecjofeaa
