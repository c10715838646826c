/-
  Chapter 12 of the program: a list of records in a box; the closure that adds one.
-/
import Derived.Test.YtmgckdmglnmnnaaGreatDoorMZxWl
import Derived.Test.YtmgckdmglnmnnaaGreatDoorMZ10
import Derived.Deep.RegionHeld3
import Derived.Deep.AppendLies
/- Oa -/
set_option linter.unusedVariables false
namespace Go.Proofs.YtmgckdmglnmnnaaGreatDoor
open Go.RowKit

/-- A box that holds a list of records, the call's own. -/
def BoxG (w : World) (B g : Nat) (v : Value) : Prop := w.ownsRow B 37 1 (.slice (some ⟨g, 0, none⟩) 1 1) 1 [v]
theorem BoxG.new {W : World} {B g : Nat} {v : Value} (hg : W.heap.size = g) (hB : B ≤ W.heap.size) : BoxG (W.alloc (.cells #[v] 37)) B g v := by
  subst hg
  exact own_of_heap (cur := #[v]) (heap_alloc_new W _) (by simp) (by simp) hB (by unfold maxLen; decide)
theorem BoxG.C {w : World} {B g : Nat} {v : Value} (h : BoxG w B g v) : ∀ o, w.cell? ⟨g, o, none⟩ = (#[v] : Array Value)[o]? := by
  intro o
  obtain ⟨hl, ⟨hv, _⟩ | ⟨g', cap, cur, hv, hb, hh, hnc, hcm, hsz, ht⟩⟩ := id h
  · cases hv
  · injection hv with h1 h2 h3
    injection h1 with h1
    injection h1 with h1 _ _
    subst h1 h3
    by_cases ho : o < 1
    · rw [show w.cell? ⟨g, o, none⟩ = [v][o]? from World.ownsRow.cellAt h o (by omega)]
      simp
    · rw [cell_of_row _ _ _ _ _ _ hh, Array.getElem?_eq_none (by omega), Array.getElem?_eq_none (by simp; omega)]
theorem BoxG.frozen {w : World} {B g : Nat} {v : Value} (h : BoxG w B g v) (o : Nat) : w.frozen? ⟨g, o, none⟩ = false := World.ownsRow.frozenAt h o
theorem BoxG.lt {w : World} {B g : Nat} {v : Value} (h : BoxG w B g v) : B ≤ g ∧ g < w.heap.size := World.ownsRow.lt h g rfl
theorem BoxG.go {w w' : World} {B g : Nat} {v : Value} (h : BoxG w B g v) (hb : Below w.heap.size w w') : BoxG w' B g v := ownsRow_below h hb
theorem keeps_setG (w : World) (g o : Nat) (u : Value) : Keeps (· = g) w (w.setCell ⟨g, o, none⟩ u) := (Keeps.refl (· = g) w).set rfl u

/-- Rows but of lists of records and of records are as they were. -/
def KRowG (W W' : World) : Prop := ∀ (B e k n : Nat) (u : Value) (xs : List Value), e ≠ 37 → e ≠ 56 → W.ownsRow B e k u n xs → W'.ownsRow B e k u n xs
theorem KRowG.refl (W : World) : KRowG W W := fun _ _ _ _ _ _ _ _ h => h
theorem KRowG.trans {a b c : World} (h : KRowG a b) (h' : KRowG b c) : KRowG a c := fun B e k n u xs h1 h2 x => h' B e k n u xs h1 h2 (h B e k n u xs h1 h2 x)
theorem KRowG.step {a b c : World} (h : KRowG a b) (hb : Below b.heap.size b c) : KRowG a c := fun B e k n u xs h1 h2 x => ownsRow_below (h B e k n u xs h1 h2 x) hb
theorem KRowG.row {a b c : World} {B e k n : Nat} {v : Value} {xs : List Value} (h : KRowG a b) (O : b.ownsRow B e k v n xs) (he : e = 37 ∨ e = 56) (kp : Keeps (fun q => v.ownBlock = some q) b c) : KRowG a c := fun B' e' k' n' u ys h1 h2 x =>
  ownsRow_keeps (h B' e' k' n' u ys h1 h2 x) kp fun r hr hv => by
    have := row_type (h B' e' k' n' u ys h1 h2 x) O hr hv
    rcases he with rfl | rfl
    · exact h1 this
    · exact h2 this

/-- What has been told so far, in its box. -/
def Gv (w0 W : World) (g : Nat) (l : List RecD) : Prop := Below w0.heap.size w0 W ∧ ∃ v, BoxG W w0.heap.size g v ∧ OR W w0.heap.size v l
theorem Gv.step {w0 W W' : World} {g : Nat} {l : List RecD} (h : Gv w0 W g l) (hb : Below W.heap.size W W') : Gv w0 W' g l := by
  obtain ⟨K, v, X, O⟩ := h
  exact ⟨K.trans (hb.mono K.size), v, X.go hb, O.below hb⟩
def GvP (w0 W : World) (g : Nat) (l : List RecD) (e : Ending) (w' : World) : Prop := e = .returned (.tuple #[]) ∧ Gv w0 w' g l ∧ KRowG W w'

set_option maxRecDepth 100000 in
set_option maxHeartbeats 8000000 in
theorem giveUp_any (w0 W : World) (g : Nat) (l : List RecD) (k a b : Int) (h : Gv w0 W g l) (hl : l.length ≤ 100) :
    Calls Tryz.prog 38 #[.int .i64 k, .int .i64 a, .int .i64 b, .pointer (some ⟨g, 0, none⟩)] W (GvP w0 W g (l ++ [⟨k, a, b⟩])) := by
  obtain ⟨K, v, X, O⟩ := h
  obtain ⟨A, c, rfl, -, -⟩ := O.slv
  have KR := KRowG.refl W
  have hC := X.C
  go_enter Tryz.func38, Tryz.ntmps38
  go_wp2_with (at_builtin; refine append_rec k a b _ _ rfl rfl rfl O rfl rfl (by omega) K.size ?_; rintro v2 w2 O2 hb2 kp; obtain ⟨A2, c2, rfl, -, -⟩ := O2.slv; rw [show (l ++ [(⟨k, a, b⟩ : RecD)]).length = l.length + 1 from by simp] at O2; have X2 : BoxG w2 w0.heap.size g (.slice A l.length c) := ownsRow_keeps X kp (fun r hr e => absurd (row_type X O hr e) (by decide)); have hC2 := X2.C; have hF2 := X2.frozen)
  replace KR := KR.row O (.inr rfl) kp
  have K2 := K.trans (hb2.mono (Nat.le_refl _))
  have kp2 : Keeps (fun b => (Value.slice (some ⟨g, 0, none⟩) 1 1).ownBlock = some b) w2 (w2.setCell ⟨g, 0, none⟩ (.slice A2 (l.length + 1) c2)) := (keeps_setG w2 g 0 _).mono fun b e => by rw [e]; rfl
  have K3 := K2.setCell (p := ⟨g, 0, none⟩) X2.lt.1 (.slice A2 (l.length + 1) c2)
  have KR3 := KR.row X2 (.inl rfl) kp2
  have O3 : OR _ _ _ _ := ownsRow_keeps O2 kp2 fun r hr e => absurd (row_type O2 X2 hr e) (by decide)
  have X3 : BoxG _ _ _ _ := (World.ownsRow.stored X2 0 (.slice A2 (l.length + 1) c2)).1
  refine bodyPost_ret (v := .tuple #[]) (by simp [results, Tryz.results38, go_sem]) rfl ?_
  exact ⟨rfl, ⟨K3, _, X3, O3⟩, KR3⟩
end Go.Proofs.YtmgckdmglnmnnaaGreatDoor
