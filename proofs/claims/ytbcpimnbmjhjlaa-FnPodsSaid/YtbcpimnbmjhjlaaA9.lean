/-
  Bytes as they come in.
-/
import Derived.Test.YtbcpimnbmjhjlaaA4
import Derived.Test.YtbcpimnbmjhjlaaA6
set_option linter.unusedVariables false
namespace Go.Proofs.Ytbcpimnbmjhjlaa
open Go.ChangeShapes Go.WideShapes Go.ChangeAt Go.RowKit Go.Deep

set_option maxRecDepth 100000 in
theorem open_bytes {H : Type} {enc : TypeId × Value → H} {W : World} {spare : Nat → Bool} {held : Bool} {r : Reach} {b0 : Nat} {v : Value} {d : DataW H} {p : List MemPlace}
    (hv : Value.okWide Try.prog W r b0 34 v) (h : DataW.Trod enc Try.prog W 0 spare held 34 v d p) : ∃ A n c, v = .slice A n c ∧ n ≤ maxLen ∧ Bytes W W.heap.size A n := by
  obtain ⟨a0, l0, c0, rfl⟩ := okWide_slice Try.underlying34 hv
  obtain ⟨fuel, hf⟩ := h
  have hf : DataW.trod enc Try.prog W 0 spare held fuel 34 [.slice a0 l0 c0] = some (d, p) := hf
  rcases open_ints Try.underlying34 Try.underlying5 (by kernel_rfl) hf with ⟨h1, _⟩ | ⟨a, len, cap, zs, hcs, hb, hl, hm, hz, hx, hcell, hwf⟩
  · injection h1 with h1 _
    exact ⟨none, 0, 0, h1, Nat.zero_le _, fun h0 => absurd h0 (by omega)⟩
  · injection hcs with hv _
    have hlm : len ≤ zs.length := by rw [hz]; split <;> omega
    refine ⟨some a, len, cap, hv, Nat.le_trans hl hm, fun hn => ?_⟩
    have h0 := hcell 0 (by omega)
    have hsp : a.spot = none := by simpa [Addr.add] using World.cell?_spot h0
    obtain ⟨b, off, sp⟩ := a
    subst hsp
    refine ⟨b, off, rfl, block_lt_of_cell h0, fun j hj => ⟨zs.getD j 0, by have := hcell j (by omega); rwa [add_plain] at this, ?_⟩⟩
    have := hwf (zs.getD j 0) (by rw [List.getD_eq_getElem?_getD, List.getElem?_eq_getElem (by omega)]; exact List.getElem_mem _)
    generalize zs.getD j 0 = z at this ⊢
    simp [Lit.wf, IntKind.min, IntKind.max, IntKind.signed, IntKind.bits] at this
    omega

end Go.Proofs.Ytbcpimnbmjhjlaa
