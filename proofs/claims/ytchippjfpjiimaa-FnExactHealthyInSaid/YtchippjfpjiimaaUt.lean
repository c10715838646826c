/-
  The model's l6Apply where it writes into a list.
-/
import Derived.Test.YtchippjfpjiimaaUs
set_option linter.unusedVariables false
namespace Go.Proofs.Ytchippjfpjiimaa
open Go.RowKit

theorem kept_other {w w' : World} {B B' e e' k k' n n' g : Nat} {v v' : Value} {xs xs' : List Value} (h : w.ownsRow B e k v n xs) (h' : w.ownsRow B' e' k' v' n' xs') (hv' : v'.ownBlock = some g) (hne : e ≠ e') (hg : w.grownBy w' (some g)) : w'.ownsRow B e k v n xs := by
  refine h.kept hg ?_
  by_cases hv : v.ownBlock = some g
  · exact absurd (row_type h h' hv hv') hne
  · exact .inr hv
theorem mntCs_busy (l : List (Bool × Int)) {i : Nat} (hi : i < l.length) (b : Int) : mntCs (l.set i ((mntA l i).1, b)) = (mntCs l).set (i * 2 + 1) (.int .i64 b) := by
  rw [mntCs_set l hi]
  have h := (mntCs_at l hi).1
  have hl : i * 2 < (mntCs l).length := by rw [mntCs_len]; omega
  apply List.ext_getElem?
  intro k
  by_cases e : k = i * 2 + 1
  · subst e
    rw [List.getElem?_set_self (by rw [List.length_set, mntCs_len]; omega), List.getElem?_set_self (by rw [mntCs_len]; omega)]
  · rw [List.getElem?_set_ne (i := i * 2 + 1) (by omega), List.getElem?_set_ne (i := i * 2 + 1) (by omega)]
    by_cases e2 : k = i * 2
    · subst e2
      rw [List.getElem?_set_self hl, h]
    · rw [List.getElem?_set_ne (by omega)]

end Go.Proofs.Ytchippjfpjiimaa
