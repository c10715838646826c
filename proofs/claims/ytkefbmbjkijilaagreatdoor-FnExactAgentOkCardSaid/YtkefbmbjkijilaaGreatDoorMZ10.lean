/-
  The model's chapter 10.
-/
import Derived.Test.YtkefbmbjkijilaaGreatDoorMZ5
import Derived.Test.YtkefbmbjkijilaaGreatDoorMZ3
import Derived.Test.YtkefbmbjkijilaaGreatDoorMZxUo
import Derived.Test.YtkefbmbjkijilaaGreatDoorMZ6
import Derived.Test.YtkefbmbjkijilaaGreatDoorMZ2
import Derived.BigQuiet
import Derived.Deep.RegionHeld3
import Derived.Test.YtkefbmbjkijilaaGreatDoorMZ7
/- Wb -/
set_option linter.unusedVariables false
namespace Go.Proofs.YtkefbmbjkijilaaGreatDoor
open Go.RowKit

theorem ownsRow_keeps {S : Nat → Prop} {w w' : World} {B e k n : Nat} {v : Value} {xs : List Value} (h : w.ownsRow B e k v n xs) (kp : Keeps S w w') (hn : ∀ r, v.ownBlock = some r → ¬ S r) : w'.ownsRow B e k v n xs := by
  refine ⟨h.1, h.2.imp id ?_⟩
  rintro ⟨g, cap, cur, hv, hb', hh, rest⟩
  exact ⟨g, cap, cur, hv, hb', (kp.block g (Array.getElem?_eq_some_iff.1 hh).1 (hn g (by rw [hv]; rfl))).trans hh, rest⟩
theorem OwnSt.keeps {S : Nat → Prop} {w w' : World} {B : Nat} {v : Value} {s : StD} (h : OwnSt w B v s) (kp : Keeps S w w') (hn : ∀ g, rowsOf v g → ¬ S g) : OwnSt w' B v s := by
  obtain ⟨v0, v1, v2, v3, rfl, h0, h1, h2, h3⟩ := h.it
  exact ⟨v0, v1, v2, v3, rfl, ownsRow_keeps h0 kp fun r hr => hn r ⟨_, 6, v0, rfl, rfl, hr⟩, ownsRow_keeps h1 kp fun r hr => hn r ⟨_, 7, v1, rfl, rfl, hr⟩, ownsRow_keeps h2 kp fun r hr => hn r ⟨_, 8, v2, rfl, rfl, hr⟩, ownsRow_keeps h3 kp fun r hr => hn r ⟨_, 9, v3, rfl, rfl, hr⟩⟩

/-- A box of a state, the call's own. -/
def BoxS (w : World) (B g : Nat) (xs : List Value) : Prop := w.ownsRow B 46 12 (.slice (some ⟨g, 0, none⟩) 1 1) 1 xs
theorem BoxS.new {W : World} {B g : Nat} {cs : Array Value} (hg : W.heap.size = g) (hB : B ≤ W.heap.size) (hl : cs.size = 12) : BoxS (W.alloc (.cells cs 46)) B g cs.toList := by
  subst hg
  exact own_of_heap (cur := cs) (heap_alloc_new W _) (by simp) (by simp [hl]) hB (by unfold maxLen; decide)
theorem BoxS.at_ {w : World} {B g : Nat} {xs : List Value} (h : BoxS w B g xs) (o : Nat) (ho : o < 12) : w.cell? ⟨g, o, none⟩ = xs[o]? := World.ownsRow.cellAt h o (by omega)
theorem BoxS.C {w : World} {B g : Nat} {cs : Array Value} (h : BoxS w B g cs.toList) : ∀ o, w.cell? ⟨g, o, none⟩ = cs[o]? := by
  intro o
  obtain ⟨hl, ⟨hv, _⟩ | ⟨g', cap, cur, hv, hb, hh, hnc, hcm, hsz, ht⟩⟩ := id h
  · cases hv
  · injection hv with h1 h2 h3
    injection h1 with h1
    injection h1 with h1 _ _
    subst h1 h3
    by_cases ho : o < 12
    · rw [h.at_ o ho, Array.getElem?_toList]
    · rw [cell_of_row _ _ _ _ _ _ hh, Array.getElem?_eq_none (by omega), Array.getElem?_eq_none (by simpa using (by omega : cs.toList.length ≤ o))]
theorem BoxS.frozen {w : World} {B g : Nat} {xs : List Value} (h : BoxS w B g xs) (o : Nat) : w.frozen? ⟨g, o, none⟩ = false := World.ownsRow.frozenAt h o
theorem BoxS.lt {w : World} {B g : Nat} {xs : List Value} (h : BoxS w B g xs) : B ≤ g ∧ g < w.heap.size := World.ownsRow.lt h g rfl
theorem BoxS.go {w w' : World} {B g : Nat} {xs : List Value} (h : BoxS w B g xs) (hb : Below w.heap.size w w') : BoxS w' B g xs := ownsRow_below h hb
theorem BoxS.keeps {S : Nat → Prop} {w w' : World} {B g : Nat} {xs : List Value} (h : BoxS w B g xs) (kp : Keeps S w w') (hn : ¬ S g) : BoxS w' B g xs := ownsRow_keeps h kp fun r hr => by
  obtain rfl : g = r := by simpa [Value.ownBlock] using hr
  exact hn
theorem OwnSt.apart {w : World} {B B' g : Nat} {v : Value} {s : StD} {xs : List Value} (h : OwnSt w B v s) (hb : BoxS w B' g xs) : ¬ rowsOf v g := by
  obtain ⟨v0, v1, v2, v3, rfl, h0, h1, h2, h3⟩ := h.it
  rintro ⟨cs, i, u, hv, hc, hu⟩
  injection hv with hv
  subst hv
  match i, hc with
  | 0, hc => cases hc; cases hu
  | 1, hc => cases hc; cases hu
  | 2, hc => cases hc; cases hu
  | 3, hc => cases hc; cases hu
  | 4, hc => cases hc; cases hu
  | 5, hc => cases hc; cases hu
  | 6, hc => cases hc; exact absurd (row_type h0 hb hu rfl) (by decide)
  | 7, hc => cases hc; exact absurd (row_type h1 hb hu rfl) (by decide)
  | 8, hc => cases hc; exact absurd (row_type h2 hb hu rfl) (by decide)
  | 9, hc => cases hc; exact absurd (row_type h3 hb hu rfl) (by decide)
  | 10, hc => cases hc; cases hu
  | 11, hc => cases hc; cases hu
  | k + 12, hc => simp at hc
section
variable (W : World) (g : Nat) (y0 y1 y2 y3 y4 y5 y6 y7 y8 y9 ya yb : Value)
/-- The world with twelve cells of block g set. -/
abbrev put12 : World := (((((((((((W.setCell ⟨g, 0, none⟩ y0).setCell ⟨g, 1, none⟩ y1).setCell ⟨g, 2, none⟩ y2).setCell ⟨g, 3, none⟩ y3).setCell ⟨g, 4, none⟩ y4).setCell ⟨g, 5, none⟩ y5).setCell ⟨g, 6, none⟩ y6).setCell ⟨g, 7, none⟩ y7).setCell ⟨g, 8, none⟩ y8).setCell ⟨g, 9, none⟩ y9).setCell ⟨g, 10, none⟩ ya).setCell ⟨g, 11, none⟩ yb
theorem keeps_put12 : Keeps (· = g) W (put12 W g y0 y1 y2 y3 y4 y5 y6 y7 y8 y9 ya yb) := by
  unfold put12
  iterate 12 (refine Keeps.set (S := (· = g)) ?_ rfl _)
  exact Keeps.refl _ _
end
theorem BoxS.put {W : World} {B g : Nat} {x0 x1 x2 x3 x4 x5 x6 x7 x8 x9 xa xb : Value} (h : BoxS W B g [x0, x1, x2, x3, x4, x5, x6, x7, x8, x9, xa, xb]) (y0 y1 y2 y3 y4 y5 y6 y7 y8 y9 ya yb : Value) :
    BoxS (put12 W g y0 y1 y2 y3 y4 y5 y6 y7 y8 y9 ya yb) B g [y0, y1, y2, y3, y4, y5, y6, y7, y8, y9, ya, yb] := by
  have h0 := (World.ownsRow.stored h 0 y0).1
  have h1 := (World.ownsRow.stored h0 1 y1).1
  have h2 := (World.ownsRow.stored h1 2 y2).1
  have h3 := (World.ownsRow.stored h2 3 y3).1
  have h4 := (World.ownsRow.stored h3 4 y4).1
  have h5 := (World.ownsRow.stored h4 5 y5).1
  have h6 := (World.ownsRow.stored h5 6 y6).1
  have h7 := (World.ownsRow.stored h6 7 y7).1
  have h8 := (World.ownsRow.stored h7 8 y8).1
  have h9 := (World.ownsRow.stored h8 9 y9).1
  have ha := (World.ownsRow.stored h9 10 ya).1
  exact (World.ownsRow.stored ha 11 yb).1
end Go.Proofs.YtkefbmbjkijilaaGreatDoor
/- Wd -/
set_option linter.unusedVariables false
namespace Go.Proofs.YtkefbmbjkijilaaGreatDoor
open Go.RowKit

/-- Records and a code: what is planned. -/
def RecsA (w : World) (a : List RecD × Int) (e : Ending) (w' : World) : Prop := ∃ v, e = .returned (.tuple #[v, .int .i64 a.2]) ∧ OR w' w.heap.size v a.1 ∧ Below w.heap.size w w'
theorem RecsA.back {w w1 w2 : World} {a : List RecD × Int} {e : Ending} (h : RecsA w1 a e w2) (K : Below w.heap.size w w1) : RecsA w a e w2 := by
  obtain ⟨v, he, ho, hb⟩ := h
  exact ⟨v, he, ho.base K.size, K.trans (hb.mono K.size)⟩
theorem OR.first {w : World} {B : Nat} (hB : B ≤ w.heap.size) (k a b : Int) : OR (w.alloc (.cells #[.int .i64 k, .int .i64 a, .int .i64 b] 96)) B (.slice (some ⟨w.heap.size, 0, none⟩) 1 1) [⟨k, a, b⟩] :=
  own_of_heap (heap_alloc_new w _) rfl rfl hB (by unfold maxLen; decide)
end Go.Proofs.YtkefbmbjkijilaaGreatDoor
/- We -/
set_option linter.unusedVariables false
namespace Go.Proofs.YtkefbmbjkijilaaGreatDoor
open Go.RowKit

def hP (d : PlanD) (s : StD) (g : Int) (i : Nat) : Bool := decide (d.x0 (i * 4) = g) && decide ((podA s.pods i).1 = 0)
end Go.Proofs.YtkefbmbjkijilaaGreatDoor
/- Wf -/
set_option linter.unusedVariables false
namespace Go.Proofs.YtkefbmbjkijilaaGreatDoor
open Go.RowKit

theorem Two.drewN {w w1 : World} {cs os : Array Value} (h : Two w w1 cs os) (n : Nat) : Two w (w1.drewN n) cs os := ⟨h.A.drewN n, h.O.drewN n⟩
end Go.Proofs.YtkefbmbjkijilaaGreatDoor
/- Wg -/
set_option linter.unusedVariables false
namespace Go.Proofs.YtkefbmbjkijilaaGreatDoor
open Go.RowKit

end Go.Proofs.YtkefbmbjkijilaaGreatDoor
/- Wh -/
set_option linter.unusedVariables false
namespace Go.Proofs.YtkefbmbjkijilaaGreatDoor
open Go.RowKit

end Go.Proofs.YtkefbmbjkijilaaGreatDoor
