/-
  Records and bytes as they come in.
-/
import Derived.Test.YtcpmkbemkhacnaaDoorA6
import Derived.Test.YtcpmkbemkhacnaaDoorBa
set_option linter.unusedVariables false
namespace Go.Proofs.YtcpmkbemkhacnaaDoor
open Go.ChangeShapes Go.WideShapes Go.ChangeAt Go.RowKit Go.Deep

theorem fields_rec : ∃ fs, Tryd.prog.underlying 71 = some (.struct fs) ∧ oneCellFields Tryd.prog fs = true ∧ Tryd.prog.cellsOf 71 = fs.size ∧ fs.size = 3 ∧
    fs.map (·.type) = #[2, 2, 2] :=
  ⟨_, Tryd.underlying71, by kernel_rfl, by kernel_rfl, by kernel_rfl, by kernel_rfl⟩
set_option maxRecDepth 100000 in
theorem open_rec {H : Type} {enc : TypeId × Value → H} {W : World} {spare : Nat → Bool} {held : Bool} {r : Reach} {b0 : Nat} {v : Value} {d : DataW H} {p : List MemPlace}
    (hv : Value.okWide Tryd.prog W r b0 71 v) (h : DataW.Trod enc Tryd.prog W 0 spare held 71 v d p) : ∃ a b c : Int, v = .agg #[.int .i64 a, .int .i64 b, .int .i64 c] := by
  obtain ⟨fs, hu, hone, hC, h7, hts⟩ := fields_rec
  obtain ⟨cs, rfl, hsz, n, hf⟩ := agg_of_trod hu hone hC hv h
  rw [h7] at hsz
  obtain ⟨f0, j0, t0⟩ := at_of_map hts (j := 0) rfl
  obtain ⟨f1, j1, t1⟩ := at_of_map hts (j := 1) rfl
  obtain ⟨f2, j2, t2⟩ := at_of_map hts (j := 2) rfl
  obtain ⟨y0, h0⟩ := hf 0 f0 j0
  obtain ⟨y1, h1⟩ := hf 1 f1 j1
  obtain ⟨y2, h2⟩ := hf 2 f2 j2
  rw [t0] at h0
  rw [t1] at h1
  rw [t2] at h2
  obtain ⟨a, e0, _, _⟩ := DataW.trod_int Tryd.underlying2 h0
  obtain ⟨b, e1, _, _⟩ := DataW.trod_int Tryd.underlying2 h1
  obtain ⟨c, e2, _, _⟩ := DataW.trod_int Tryd.underlying2 h2
  injection e0 with e0 _
  injection e1 with e1 _
  injection e2 with e2 _
  refine ⟨a, b, c, ?_⟩
  congr 1
  apply Array.ext (by simp [hsz])
  intro i hi _
  match i, hi with
  | 0, _ => exact e0
  | 1, _ => exact e1
  | 2, _ => exact e2
  | k + 3, hi => omega

theorem fs_rec : ∃ fs, Tryd.prog.underlying 71 = some (.struct fs) ∧ oneCellFields Tryd.prog fs = true ∧ intFields Tryd.prog fs = true ∧ fs.size = 3 := ⟨_, Tryd.underlying71, by kernel_rfl, by kernel_rfl, by kernel_rfl⟩
set_option maxRecDepth 100000 in
theorem open_recs {H : Type} {enc : TypeId × Value → H} {W : World} {spare : Nat → Bool} {held : Bool} {r : Reach} {b0 : Nat} {v : Value} {d : DataW H} {p : List MemPlace}
    (hv : Value.okWide Tryd.prog W r b0 42 v) (h : DataW.Trod enc Tryd.prog W 0 spare held 42 v d p) : ∃ A n c X, v = .slice A n c ∧ n ≤ maxLen ∧ Sl W W.heap.size 3 A n X := by
  obtain ⟨ps, ps1, ps2, ps3, ps4⟩ := fs_rec
  obtain ⟨a0, l0, c0, rfl⟩ := okWide_slice Tryd.underlying42 hv
  obtain ⟨fuel, hf⟩ := h
  have hf : DataW.trod enc Tryd.prog W 0 spare held fuel 42 [.slice a0 l0 c0] = some (d, p) := hf
  exact sl_structs Tryd.underlying42 ps1 ps2 ps3 (by kernel_rfl) ps4 (by omega) hf
set_option maxRecDepth 100000 in
theorem open_bt {H : Type} {enc : TypeId × Value → H} {W : World} {spare : Nat → Bool} {held : Bool} {r : Reach} {b0 : Nat} {v : Value} {d : DataW H} {p : List MemPlace}
    (hv : Value.okWide Tryd.prog W r b0 22 v) (h : DataW.Trod enc Tryd.prog W 0 spare held 22 v d p) : ∃ L, Bt W W.heap.size v L := by
  obtain ⟨a0, l0, c0, rfl⟩ := okWide_slice Tryd.underlying22 hv
  obtain ⟨fuel, hf⟩ := h
  have hf : DataW.trod enc Tryd.prog W 0 spare held fuel 22 [.slice a0 l0 c0] = some (d, p) := hf
  rcases open_ints Tryd.underlying22 Tryd.underlying5 (by kernel_rfl) hf with ⟨h1, _⟩ | ⟨a, len, cap, zs, hcs, hb, hl, hm, hz, hx, hcell, hwf⟩
  · injection h1 with h1 _
    rw [h1]
    exact ⟨[], Bt.nil _ _ _ _⟩
  · injection hcs with hv _
    have hlm : len ≤ zs.length := by rw [hz]; split <;> omega
    have hlen : ((zs.take len).map Int.toNat).length = len := by rw [List.length_map, List.length_take]; omega
    have hrange : ∀ z ∈ zs, 0 ≤ z ∧ z ≤ 255 := fun z hz => by
      have := hwf z hz
      simp [Lit.wf, IntKind.min, IntKind.max, IntKind.signed, IntKind.bits] at this
      omega
    refine ⟨(zs.take len).map Int.toNat, ⟨⟨some a, cap, by rw [hlen]; exact hv, by rw [hlen]; exact hl, fun hn => ?_⟩, by rw [hlen]; exact Nat.le_trans hl hm, fun x hx => ?_⟩⟩
    · rw [hlen] at hn ⊢
      have h0 := hcell 0 (by omega)
      have hsp : a.spot = none := by simpa [Addr.add] using World.cell?_spot h0
      obtain ⟨b, off, sp⟩ := a
      subst hsp
      refine ⟨b, off, rfl, block_lt_of_cell h0, fun j hj => ?_⟩
      have hc := hcell j (by omega)
      rw [add_plain] at hc
      rw [hc]
      have hj' : j < zs.length := by omega
      have hr := hrange zs[j] (List.getElem_mem hj')
      have e1 : zs.getD j 0 = zs[j] := by simp [List.getD, hj']
      have e2 : ((zs.take len).map Int.toNat).getD j 0 = zs[j].toNat := by simp [List.getD, hj, hj']
      rw [e1, e2]
      congr 2
      omega
    · obtain ⟨z, hz, rfl⟩ := List.mem_map.1 hx
      have := hrange z (List.mem_of_mem_take hz)
      omega
end Go.Proofs.YtcpmkbemkhacnaaDoor
