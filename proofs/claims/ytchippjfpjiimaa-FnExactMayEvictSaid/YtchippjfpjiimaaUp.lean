/-
  The model's l6Without and l6With.
-/
import Derived.Test.YtchippjfpjiimaaUn
import Derived.Test.YtchippjfpjiimaaA3
set_option linter.unusedVariables false
namespace Go.Proofs.Ytchippjfpjiimaa
open Go.RowKit

/-- A row of whole numbers of the call's own. -/
def LkR (w : World) (B : Nat) (v : Value) (l : List Int) : Prop := w.ownsRow B 2 1 v l.length (lkCs l)
theorem LkR.push {w' : World} {B : Nat} {v' : Value} {l : List Int} (a : Int) (h' : w'.ownsRow B 2 1 v' (l.length + 1) (lkCs l ++ [.int .i64 a])) : LkR w' B v' (l ++ [a]) := by
  unfold LkR
  rw [List.length_append]
  have : lkCs (l ++ [a]) = lkCs l ++ [.int .i64 a] := by simp [lkCs]
  rw [this]
  exact h'
theorem LkR.lt {w : World} {B : Nat} {v : Value} {l : List Int} (h : LkR w B v l) {r : Nat} (hr : v.ownBlock = some r) : B ≤ r ∧ r < w.heap.size := World.ownsRow.lt h r hr
theorem LkR.empty (w : World) (B : Nat) (hB : B ≤ w.heap.size) : LkR (w.alloc (.cells #[] 2)) B (.slice (some ⟨w.heap.size, 0, none⟩) 0 0) [] := made_empty w B _ _ hB

theorem lk_at {w : World} {B n : Nat} {A : Option Addr} {l : List Int} (h : SlV w B 1 A n (lkCs l)) (hn : l.length = n) {k : Nat} (hk : k < n) : ∃ b off, A = some ⟨b, off, none⟩ ∧ b < B ∧ w.cell? ⟨b, off + k, none⟩ = some (.int .i64 (lkA l k)) := by
  obtain ⟨b, off, e, hb, hc⟩ := h.cell hk
  have := hc 0 (by decide)
  rw [Nat.mul_one, Nat.add_zero] at this
  exact ⟨b, off, e, hb, this.trans (lkCs_at l (by omega))⟩
theorem take_snoc (l : List Int) {k : Nat} (hk : k < l.length) : l.take (k + 1) = l.take k ++ [lkA l k] := by
  rw [List.take_add_one, List.getElem?_eq_getElem hk]
  have : lkA l k = l[k] := by simp [lkA, List.getD, List.getElem?_eq_getElem hk]
  rw [this]
  rfl
theorem without_len (l : List Int) (x : Int) : (withoutN l x).length ≤ l.length := List.length_filter_le _ _

end Go.Proofs.Ytchippjfpjiimaa
