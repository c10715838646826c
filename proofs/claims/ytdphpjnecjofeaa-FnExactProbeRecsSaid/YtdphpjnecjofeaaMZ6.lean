/-
  The model's l6Apply, whatever the record.
-/
import Derived.Test.YtdphpjnecjofeaaMZ5
/- Us -/
set_option linter.unusedVariables false
namespace Go.Proofs.Ytdphpjnecjofeaa
open Go.RowKit

theorem three (w : World) (o o' o'' : Obj) : Below w.heap.size w (((w.alloc o).alloc o').alloc o'') := (((Below.refl _ _).alloc (Nat.le_refl _) _).alloc (by simp) _).alloc (by simp; omega) _
/-- The blocks of a state's lists. -/
def rowsOf (v : Value) (g : Nat) : Prop := ∃ (cs : Array Value) (i : Nat) (u : Value), v = .agg cs ∧ cs[i]? = some u ∧ u.ownBlock = some g
theorem OwnSt.blocks {w : World} {B : Nat} {v : Value} {s : StD} (h : OwnSt w B v s) {g : Nat} (hg : rowsOf v g) : B ≤ g ∧ g < w.heap.size := by
  obtain ⟨v0, v1, v2, v3, rfl, h0, h1, h2, h3⟩ := h.it
  obtain ⟨cs, i, u, hv, hc, hu⟩ := hg
  injection hv with hv
  subst hv
  match i, hc with
  | 0, hc => cases hc; cases hu
  | 1, hc => cases hc; cases hu
  | 2, hc => cases hc; cases hu
  | 3, hc => cases hc; cases hu
  | 4, hc => cases hc; cases hu
  | 5, hc => cases hc; cases hu
  | 6, hc => cases hc; exact h0.lt g hu
  | 7, hc => cases hc; exact h1.lt g hu
  | 8, hc => cases hc; exact h2.lt g hu
  | 9, hc => cases hc; exact h3.lt g hu
  | 10, hc => cases hc; cases hu
  | 11, hc => cases hc; cases hu
  | k + 12, hc => simp at hc
end Go.Proofs.Ytdphpjnecjofeaa
/- Ut -/
set_option linter.unusedVariables false
namespace Go.Proofs.Ytdphpjnecjofeaa
open Go.RowKit

end Go.Proofs.Ytdphpjnecjofeaa
/- Uu -/
set_option linter.unusedVariables false
namespace Go.Proofs.Ytdphpjnecjofeaa
open Go.RowKit

end Go.Proofs.Ytdphpjnecjofeaa
