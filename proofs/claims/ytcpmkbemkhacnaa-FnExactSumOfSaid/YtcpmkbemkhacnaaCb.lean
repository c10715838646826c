/-
  Records and bytes as they come in.
-/
import Derived.Test.YtcpmkbemkhacnaaA6
import Derived.Test.YtcpmkbemkhacnaaBa
set_option linter.unusedVariables false
namespace Go.Proofs.Ytcpmkbemkhacnaa
open Go.ChangeShapes Go.WideShapes Go.ChangeAt Go.RowKit Go.Deep

set_option maxRecDepth 100000 in
theorem open_bt {H : Type} {enc : TypeId × Value → H} {W : World} {spare : Nat → Bool} {held : Bool} {r : Reach} {b0 : Nat} {v : Value} {d : DataW H} {p : List MemPlace}
    (hv : Value.okWide Try.prog W r b0 22 v) (h : DataW.Trod enc Try.prog W 0 spare held 22 v d p) : ∃ L, Bt W W.heap.size v L := by
  obtain ⟨a0, l0, c0, rfl⟩ := okWide_slice Try.underlying22 hv
  obtain ⟨fuel, hf⟩ := h
  have hf : DataW.trod enc Try.prog W 0 spare held fuel 22 [.slice a0 l0 c0] = some (d, p) := hf
  rcases open_ints Try.underlying22 Try.underlying5 (by kernel_rfl) hf with ⟨h1, _⟩ | ⟨a, len, cap, zs, hcs, hb, hl, hm, hz, hx, hcell, hwf⟩
  · injection h1 with h1 _
    rw [h1]
    exact ⟨[], Bt.nil _ _ _ _⟩
  · injection hcs with hv _
    have hlm : len ≤ zs.length := by rw [hz]; split <;> omega
    have hlen : ((zs.take len).map Int.toNat).length = len := by rw [List.length_map, List.length_take]; omega
    have hrange : ∀ z ∈ zs, 0 ≤ z ∧ z ≤ 255 := fun z hz => by
      have := hwf z hz
      simp [Lit.wf, IntKind.min, IntKind.max, IntKind.signed, IntKind.bits] at this
      omega
    refine ⟨(zs.take len).map Int.toNat, ⟨⟨some a, cap, by rw [hlen]; exact hv, by rw [hlen]; exact hl, fun hn => ?_⟩, by rw [hlen]; exact Nat.le_trans hl hm, fun x hx => ?_⟩⟩
    · rw [hlen] at hn ⊢
      have h0 := hcell 0 (by omega)
      have hsp : a.spot = none := by simpa [Addr.add] using World.cell?_spot h0
      obtain ⟨b, off, sp⟩ := a
      subst hsp
      refine ⟨b, off, rfl, block_lt_of_cell h0, fun j hj => ?_⟩
      have hc := hcell j (by omega)
      rw [add_plain] at hc
      rw [hc]
      have hj' : j < zs.length := by omega
      have hr := hrange zs[j] (List.getElem_mem hj')
      have e1 : zs.getD j 0 = zs[j] := by simp [List.getD, hj']
      have e2 : ((zs.take len).map Int.toNat).getD j 0 = zs[j].toNat := by simp [List.getD, hj, hj']
      rw [e1, e2]
      congr 2
      omega
    · obtain ⟨z, hz, rfl⟩ := List.mem_map.1 hx
      have := hrange z (List.mem_of_mem_take hz)
      omega
end Go.Proofs.Ytcpmkbemkhacnaa
