/-
  Marks in the lists of a state.
-/
import Derived.Test.YtchippjfpjiimaaUd
set_option linter.unusedVariables false
namespace Go.Proofs.Ytchippjfpjiimaa
open Go.RowKit

def m3 (k : Int) : Bool := k % 3 == 0
def mkPods (k : Int) (n : Nat) : List (Int × Int) := (List.range n).map fun (i : Nat) => (k + 2 * i, k + 2 * i + 1)
def mkMnts (k : Int) (n : Nat) : List (Bool × Int) := (List.range n).map fun (i : Nat) => (m3 (k + 2 * i), k + 2 * i + 1)
def mkDevs (k : Int) (n : Nat) : List Bool := (List.range n).map fun (i : Nat) => m3 (k + i)
def mkLks (k : Int) (n : Nat) : List Int := (List.range n).map fun (i : Nat) => k + i
theorem mkPods_len (k : Int) (n : Nat) : (mkPods k n).length = n := by simp [mkPods]
theorem mkMnts_len (k : Int) (n : Nat) : (mkMnts k n).length = n := by simp [mkMnts]
theorem mkDevs_len (k : Int) (n : Nat) : (mkDevs k n).length = n := by simp [mkDevs]
theorem mkLks_len (k : Int) (n : Nat) : (mkLks k n).length = n := by simp [mkLks]
theorem mkPods_at {k : Int} {n i : Nat} (h : i < n) : podA (mkPods k n) i = (k + 2 * i, k + 2 * i + 1) := by simp [podA, mkPods, List.getD, h]
theorem mkMnts_at {k : Int} {n i : Nat} (h : i < n) : mntA (mkMnts k n) i = (m3 (k + 2 * i), k + 2 * i + 1) := by simp [mntA, mkMnts, List.getD, h]
theorem mkDevs_at {k : Int} {n i : Nat} (h : i < n) : devA (mkDevs k n) i = m3 (k + i) := by simp [devA, mkDevs, List.getD, h]
theorem mkLks_at {k : Int} {n i : Nat} (h : i < n) : lkA (mkLks k n) i = k + i := by simp [lkA, mkLks, List.getD, h]
theorem lkCs_set (l : List Int) (i : Nat) (q : Int) : lkCs (l.set i q) = (lkCs l).set i (.int .i64 q) := by unfold lkCs; rw [List.map_set]
theorem getD_set_ {α : Type} (l : List α) (d x : α) (i j : Nat) (hi : i < l.length) : (l.set i x).getD j d = if j = i then x else l.getD j d := by
  simp only [List.getD]
  by_cases e : j = i
  · subst e
    simp [hi]
  · rw [if_neg e, List.getElem?_set_ne (fun h => e h.symm)]
theorem ext_getD {α : Type} {l m : List α} (d : α) (h : l.length = m.length) (e : ∀ j, j < l.length → l.getD j d = m.getD j d) : l = m := by
  refine List.ext_getElem h fun j hj hj' => ?_
  have := e j hj
  simpa [List.getD, hj, hj'] using this

end Go.Proofs.Ytchippjfpjiimaa
