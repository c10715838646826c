/-
  Bytes kept where marks are set.
-/
import Derived.Test.YtcpmkbemkhacnaaDoorBh
set_option linter.unusedVariables false
namespace Go.Proofs.YtcpmkbemkhacnaaDoor
open Go.RowKit

theorem Bt.keeps {S : Nat → Prop} {w w' : World} {B : Nat} {v : Value} {L : List Nat} (h : Bt w B v L) (hk : Keeps S w w') (hB : B ≤ w.heap.size) (hS : ∀ b, b < B → ¬ S b) : Bt w' B v L :=
  h.below (hk.below (B := B) hB hS) (Nat.le_refl _)
theorem OB.keeps {S : Nat → Prop} {w w' : World} {B : Nat} {v : Value} {L : List Nat} (h : OB w B v L) (hk : Keeps S w w') (hS : ∀ r, B ≤ r → ¬ S r) : OB w' B v L := by
  obtain ⟨⟨hl, ho⟩, hs⟩ := h
  refine ⟨⟨hl, ho.imp id ?_⟩, hs⟩
  rintro ⟨g, cap, cur, hv, hb', hh, rest⟩
  exact ⟨g, cap, cur, hv, hb', (hk.block g (Array.getElem?_eq_some_iff.1 hh).1 (hS g hb')).trans hh, rest⟩
theorem OB.openU {w : World} {B : Nat} {v : Value} {L : List Nat} (h : OB w B v L) :
    ∃ A c g, v = .slice A L.length c ∧ (0 < L.length → A = some ⟨g, 0, none⟩) ∧ B ≤ g ∧ (0 < L.length → g < w.heap.size) ∧ RowU w g L.length (fun j => (L.getD j 0 : Nat)) := by
  obtain ⟨A, c, g, hv, -, hA, hB, hz, R⟩ := h.open_
  exact ⟨A, c, g, hv, hA, hB, hz, R⟩

end Go.Proofs.YtcpmkbemkhacnaaDoor
