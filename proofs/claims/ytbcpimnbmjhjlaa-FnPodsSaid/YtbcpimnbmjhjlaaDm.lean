/-
  A cursor stays where a box that holds no bytes is written, also an older one; whole rows stored.
-/
import Derived.Test.YtbcpimnbmjhjlaaDa
import Derived.Deep.RegionHeld3
import Derived.Laws.Tables
set_option linter.unusedVariables false
namespace Go.Proofs.Ytbcpimnbmjhjlaa
open Go.RowKit

def noByte : Value → Bool
  | .int .u8 _ => false
  | _ => true
theorem keepsRow_ (W : World) (g : Nat) (cs : Array Value) : Keeps (· = g) W (W.setRow g cs) := ⟨rfl, rfl, rfl, by simp, fun b hb hn => setRow_other W g b cs hn⟩
theorem Cur.row {T T' : TypeId} {k : IntKind} {w : World} {g B : Nat} {cs : Array Value} (h : Cur T k w g) (hb : w.heap[B]? = some (.cells cs T' (0, 0))) (hs : cs.all noByte = true) (hne : ¬ B = g) (cs' : Array Value) : Cur T k (w.setRow B cs') g := by
  have kk := keepsRow_ w B cs'
  have hlt := h.lt
  obtain ⟨A, n, c, i, hh, hg, i0, i1, hm, hB⟩ := h
  refine ⟨A, n, c, i, hh, (kk.block g hlt (by show ¬ g = B; omega)).trans hg, i0, i1, hm, fun hn => ?_⟩
  obtain ⟨b, off, rfl, hbl, hc⟩ := hB hn
  have hbB : ¬ b = B := by
    rintro rfl
    obtain ⟨z, hz, -⟩ := hc 0 hn
    rw [cell_of_row _ _ _ _ _ _ hb] at hz
    have := Array.all_eq_true.1 hs (off + 0) (Array.getElem?_eq_some_iff.1 hz).1
    rw [(Array.getElem?_eq_some_iff.1 hz).2] at this
    simp [noByte] at this
  exact ⟨b, off, rfl, hbl, fun j hj => by
    obtain ⟨z, hz, hr⟩ := hc j hj
    exact ⟨z, (kk.cell (p := ⟨b, off + j, none⟩) (by show b < w.heap.size; omega) hbB).trans hz, hr⟩⟩
/-- A box of the call's own is written whole. -/
theorem belowRow_ {w W : World} (h : Below w.heap.size w W) {B : Nat} (hB : w.heap.size ≤ B) (cs : Array Value) : Below w.heap.size w (W.setRow B cs) :=
  h.trans ((keepsRow_ W B cs).below (B := w.heap.size) h.size (by rintro b hb rfl; omega))
theorem Blk.row {W : World} {g B : Nat} {cs : Array Value} (h : Blk W g cs) (hne : ¬ g = B) (cs' : Array Value) : Blk (W.setRow B cs') g cs := h.keeps (keepsRow_ W B cs') hne
end Go.Proofs.Ytbcpimnbmjhjlaa
