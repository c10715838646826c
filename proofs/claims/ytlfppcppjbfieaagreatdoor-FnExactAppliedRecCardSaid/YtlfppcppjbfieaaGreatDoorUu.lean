/-
  The model's l6Apply, whatever the record.
-/
import Derived.Test.YtlfppcppjbfieaaGreatDoorUt
set_option linter.unusedVariables false
namespace Go.Proofs.YtlfppcppjbfieaaGreatDoor
open Go.RowKit

theorem l6Apply_any (v : Value) (s : StD) (r : RecD) (w : World) (B : Nat) (hB : B ≤ w.heap.size) (h : OwnSt w B v s) (hk : recOkB r = true) (ht : thereB s r = true) (hf : s.lks.length ≤ 1048576) (hr : s.lks.Pairwise (· < ·)) :
    Calls Tryz.prog 34 #[v, recC r] w (Appl w B v (applyR s r)) := by
  obtain ⟨k, a, b⟩ := r
  simp only [recOkB, Bool.and_eq_true, inB_true] at hk
  obtain ⟨⟨⟨k1, k2⟩, ha0, -⟩, -⟩ := hk
  have : k = 1 ∨ k = 2 ∨ k = 3 ∨ k = 4 ∨ k = 5 ∨ k = 6 ∨ k = 7 ∨ k = 8 ∨ k = 9 ∨ k = 10 ∨ k = 11 ∨ k = 12 := by omega
  rcases this with rfl | rfl | rfl | rfl | rfl | rfl | rfl | rfl | rfl | rfl | rfl | rfl
  · by_cases ha : a = 0
    · exact apply_idle v s a b w B hB h ha
    · exact apply_phase v s a b w B hB h ha
  · exact apply_pod v s a b w B hB h ha0 (of_decide_eq_true ht)
  · exact apply_busy v s a b w B hB h ha0 (of_decide_eq_true ht)
  · exact apply_free v s a b w B hB h ha0 (of_decide_eq_true ht)
  · exact apply_give v s a b w B hB h ha0 (of_decide_eq_true ht)
  · exact apply_lock v s a b w B hB h hf hr
  · exact apply_unlock v s a b w B hB h hf
  · exact apply_clock v s a b w B hB h
  · exact apply_band v s a b w B hB h
  · exact apply_boot v s a b w B hB h
  · exact apply_lockBy v s a b w B hB h
  · exact apply_probe v s a b w B hB h
end Go.Proofs.YtlfppcppjbfieaaGreatDoor
