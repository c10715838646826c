/-
  The one listed variable, as the row's condition tells it; a world in which it lies so.
-/
import Derived.Test.YtcpmkbemkhacnaaDoorA6
import Derived.Test.YtcpmkbemkhacnaaDoorBb
import Derived.ChangeVars
import Derived.LaidLaws
import Derived.OpenShut
import Derived.RowKitTokens
import Derived.WalkSmall
set_option linter.unusedVariables false
namespace Go.Proofs.YtcpmkbemkhacnaaDoor
open Go.ChangeShapes Go.WideShapes Go.ChangeAt Go.RowKit Go.Deep

abbrev namesLaid {H : Type} : DataW H := Rows.laid_loop_example_g00767_impl_kindNames
theorem names_global : Tryd.prog.globalNamed "loop.example/g00767/impl.kindNames" = some 0 := by kernel_rfl
theorem names_type : (Tryd.prog.globals[0]?).map (·.type) = some 99 := by kernel_rfl

theorem names_of_laid {W : World} (h : laidMetH Tryd.prog [("loop.example/g00767/impl.kindNames", namesLaid)] W) : Names W := by
  have h' : laidMet Tryd.prog [("loop.example/g00767/impl.kindNames", namesLaid)] W := h
  obtain ⟨ps, ⟨g, t, cs, fuel, p, q, h1, h2, h3, h4, _, _⟩, _, _⟩ := h'
  obtain rfl := Option.some.inj (names_global.symm.trans h1)
  obtain rfl := Option.some.inj (names_type.symm.trans h2)
  obtain ⟨xs, m, rfl, hx, hcl, hxl, hat⟩ := DataW.trod_array Tryd.underlying99 h4
  have hce : Tryd.prog.cellsOf 9 = 1 := by kernel_rfl
  have hc13 : Tryd.prog.cellsOf 99 = 13 := by kernel_rfl
  rw [hc13] at hcl
  have hcell := fun i => World.var?_cell names_global h3 i
  have hsz : cs.size = 13 := by simpa using hcl
  have hlt : 0 < W.heap.size := by
    have h0 := hcell 0
    rcases Nat.eq_zero_or_pos W.heap.size with hz | hz
    · rw [Array.getElem?_eq_getElem (by omega)] at h0
      simp [World.cell?, hz] at h0
    · exact hz
  refine ⟨hlt, fun i hi => ?_⟩
  rw [hcell i]
  have hi' := hat i hi
  rw [hce, Nat.mul_one] at hi'
  have hone : (cs.toList.drop i).take 1 = [cs[i]'(by omega)] := by
    rw [List.drop_eq_getElem_cons (by simp; omega)]
    simp
  rw [hone] at hi'
  rw [Array.getElem?_eq_getElem (by omega)]
  cases hxi : xs[i]? with
  | none => rw [List.getElem?_eq_none_iff] at hxi; omega
  | some x =>
    rw [hxi] at hi'
    obtain ⟨s, hs, rfl, _⟩ := DataW.trod_string Tryd.underlying9 hi'
    injection hs with hs _
    have hd : (xs.map (·.1))[i]? = some (.lit (.string s.data.toList)) := by simp [hxi]
    have hx1 := congrArg Prod.fst hx
    have hx1 : (namesLaid : DataW Unit) = .agg (xs.map (·.1)) := hx1
    have hx2 : xs.map (·.1) = _ := (DataW.agg.inj hx1).symm
    rw [hx2] at hd
    rw [hs]
    congr 2
    rcases (by omega : i = 0 ∨ i = 1 ∨ i = 2 ∨ i = 3 ∨ i = 4 ∨ i = 5 ∨ i = 6 ∨ i = 7 ∨ i = 8 ∨ i = 9 ∨ i = 10 ∨ i = 11 ∨ i = 12) with rfl | rfl | rfl | rfl | rfl | rfl | rfl | rfl | rfl | rfl | rfl | rfl | rfl
    all_goals
      apply ByteArray.ext
      apply Array.toList_inj.1
      exact (Lit.string.inj (DataW.lit.inj (Option.some.inj hd))).symm

/-- A world in which the variable lies as it is listed. -/
noncomputable def laidWorld (os : Os) : World :=
  let w0 := World.holding Tryd.prog os ⟨#[], #[], []⟩
  { w0 with heap := w0.heap.modify 0 fun
      | .cells _ t frozen => .cells #[.string (nameOf 0), .string (nameOf 1), .string (nameOf 2), .string (nameOf 3), .string (nameOf 4), .string (nameOf 5), .string (nameOf 6), .string (nameOf 7), .string (nameOf 8), .string (nameOf 9), .string (nameOf 10), .string (nameOf 11), .string (nameOf 12)] t frozen
      | o => o }
theorem laidWorld_met (os : Os) (args : Array Value) : laidMetH Tryd.prog [("loop.example/g00767/impl.kindNames", namesLaid)] ((laidWorld os).forCall (fun _ _ => 0) ⟨#[], args, []⟩).memory :=
  laidMet_of_run' 8 (by kernel_rfl) (by kernel_rfl)
end Go.Proofs.YtcpmkbemkhacnaaDoor
