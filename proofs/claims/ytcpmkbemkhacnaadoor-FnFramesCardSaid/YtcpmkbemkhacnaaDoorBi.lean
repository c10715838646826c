/-
  Bytes of the call's own: kept where other blocks turn; one of them stored anew.
-/
import Derived.Test.YtcpmkbemkhacnaaDoorBa
set_option linter.unusedVariables false
namespace Go.Proofs.YtcpmkbemkhacnaaDoor
open Go.RowKit

theorem OB.keeps {S : Nat → Prop} {w w' : World} {B : Nat} {v : Value} {L : List Nat} (h : OB w B v L) (hk : Keeps S w w') (hS : ∀ r, B ≤ r → ¬ S r) : OB w' B v L := by
  obtain ⟨⟨hl, ho⟩, hs⟩ := h
  refine ⟨⟨hl, ho.imp id ?_⟩, hs⟩
  rintro ⟨g, cap, cur, hv, hb', hh, rest⟩
  exact ⟨g, cap, cur, hv, hb', (hk.block g (Array.getElem?_eq_some_iff.1 hh).1 (hS g hb')).trans hh, rest⟩
theorem getD_set (L : List Nat) (k j b : Nat) (hk : k < L.length) : (L.set k b).getD j 0 = if j = k then b else L.getD j 0 := by
  simp only [List.getD]
  by_cases e : j = k
  · subst e
    simp [hk]
  · rw [if_neg e, List.getElem?_set_ne (fun h => e h.symm)]
/-- A byte of a row stored anew. -/
theorem OB.stored {w : World} {B : Nat} {A : Option Addr} {n c : Nat} {L : List Nat} (h : OB w B (.slice A n c) L) {k b : Nat} (hk : k < L.length) (hb : b < 256) :
    ∃ s, A = some ⟨s, 0, none⟩ ∧ B ≤ s ∧ s < w.heap.size ∧ w.cell? ⟨s, k, none⟩ = some (.int .u8 (L.getD k 0 : Nat)) ∧ w.frozen? ⟨s, k, none⟩ = false ∧
      ∃ M, Bt (w.setCell ⟨s, k, none⟩ (.int .u8 (b : Int))) w.heap.size (.slice A n c) M := by
  have hl := h.len
  have hs := h.small
  obtain ⟨A', c', s, hv, hcap, hA, hB, hz, hc⟩ := h.open_
  injection hv with h1 h2 h3
  subst h1 h2 h3
  obtain rfl := hA (by omega)
  refine ⟨s, rfl, hB, hz (by omega), (hc k hk).1, (hc k hk).2, L.set k b, ⟨⟨some ⟨s, 0, none⟩, c, by rw [List.length_set], by rw [List.length_set]; exact hcap, fun _ => ⟨s, 0, rfl, hz (by omega), fun j hj => ?_⟩⟩, by rw [List.length_set]; exact hl, fun x hx => ?_⟩⟩
  · rw [List.length_set] at hj
    rw [Nat.zero_add, getD_set L k j b hk]
    by_cases e : j = k
    · subst e
      rw [if_pos rfl, World.cell?_setCell_same _ _ _ (hc j hj).1]
    · rw [if_neg e, World.cell?_setCell_other _ _ _ _ (fun he => e (by injection he with _ h2 _; exact h2.symm))]
      exact (hc j hj).1
  · rcases List.mem_or_eq_of_mem_set hx with h | h
    · exact hs x h
    · rw [h]; exact hb
end Go.Proofs.YtcpmkbemkhacnaaDoor
