/-
  An order as it comes in, and its copy.
-/
import Derived.Test.YtfilbodigooenaaGreatDoorMZxLy
import Derived.Test.YtfilbodigooenaaGreatDoorLm
set_option linter.unusedVariables false
namespace Go.Proofs.YtfilbodigooenaaGreatDoor
open Go.ChangeShapes Go.WideShapes Go.ChangeAt Go.RowKit Go.Deep

theorem fields_ord : ∃ fs, Tryz.prog.underlying 34 = some (.struct fs) ∧ oneCellFields Tryz.prog fs = true ∧ Tryz.prog.cellsOf 34 = fs.size ∧ fs.size = 3 ∧
    fs.map (·.type) = #[2, 2, 2] :=
  ⟨_, Tryz.underlying34, by kernel_rfl, by kernel_rfl, by kernel_rfl, by kernel_rfl⟩
set_option maxRecDepth 100000 in
theorem open_ord {H : Type} {enc : TypeId × Value → H} {W : World} {spare : Nat → Bool} {held : Bool} {r : Reach} {b0 : Nat} {v : Value} {d : DataW H} {p : List MemPlace}
    (hv : Value.okWide Tryz.prog W r b0 34 v) (h : DataW.Trod enc Tryz.prog W 0 spare held 34 v d p) : ∃ a b c : Int, v = .agg #[.int .i64 a, .int .i64 b, .int .i64 c] := by
  obtain ⟨fs, hu, hone, hC, h7, hts⟩ := fields_ord
  obtain ⟨cs, rfl, hsz, n, hf⟩ := agg_of_trod hu hone hC hv h
  rw [h7] at hsz
  obtain ⟨f0, j0, t0⟩ := at_of_map hts (j := 0) rfl
  obtain ⟨f1, j1, t1⟩ := at_of_map hts (j := 1) rfl
  obtain ⟨f2, j2, t2⟩ := at_of_map hts (j := 2) rfl
  obtain ⟨y0, h0⟩ := hf 0 f0 j0
  obtain ⟨y1, h1⟩ := hf 1 f1 j1
  obtain ⟨y2, h2⟩ := hf 2 f2 j2
  rw [t0] at h0
  rw [t1] at h1
  rw [t2] at h2
  obtain ⟨a, e0, _, _⟩ := DataW.trod_int Tryz.underlying2 h0
  obtain ⟨b, e1, _, _⟩ := DataW.trod_int Tryz.underlying2 h1
  obtain ⟨c, e2, _, _⟩ := DataW.trod_int Tryz.underlying2 h2
  injection e0 with e0 _
  injection e1 with e1 _
  injection e2 with e2 _
  refine ⟨a, b, c, ?_⟩
  congr 1
  apply Array.ext (by simp [hsz])
  intro i hi _
  match i, hi with
  | 0, _ => exact e0
  | 1, _ => exact e1
  | 2, _ => exact e2
  | k + 3, hi => omega

set_option maxHeartbeats 400000 in
theorem toOrder_any (a b c : Int) (w : World) :
    Calls Tryz.prog 9 #[.agg (ordC a b c)] w fun e w' => e = .returned (.agg (ordC a b c)) ∧ Below w.heap.size w w' := by
  go_enter Tryz.func9, Tryz.ntmps9
  go_wp2
  exact bodyPost_ret (v := .agg (ordC a b c)) (by simp [results, Tryz.results9, go_sem]) rfl ⟨rfl, (((Below.refl _ _).alloc (Nat.le_refl _) _).alloc (by simp) _).alloc (by simp; omega) _⟩
end Go.Proofs.YtfilbodigooenaaGreatDoor
