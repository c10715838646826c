/-
  PROVED: FnExactPodStepSaid: at every pod, every state of a pod and every clock PodStep answers as its model. Conditions: none beside the form's own.
-/
import Derived.Test.YtbcpimnbmjhjlaaKb
import Derived.Test.YtbcpimnbmjhjlaaA6
set_option linter.unusedVariables false
namespace Go.Proofs.Ytbcpimnbmjhjlaa
open Go.ChangeShapes Go.WideShapes Go.ChangeAt Go.RowKit Go.Deep
theorem open_pod {H : Type} {enc : TypeId × Value → H} {W : World} {spare : Nat → Bool} {held : Bool} {r : Reach} {b0 : Nat} {v : Value} {d : DataW H} {p : List MemPlace}
    (hv : Value.okWide Try.prog W r b0 23 v) (h : DataW.Trod enc Try.prog W 0 spare held 23 v d p) : ∃ a b c d : Int, v = .agg #[.int .i64 a, .int .i64 b, .int .i64 c, .int .i64 d] := by
  obtain ⟨fs, hu, hone, hint, hC, hk⟩ := (⟨_, Try.underlying23, by kernel_rfl, by kernel_rfl, by kernel_rfl, by kernel_rfl⟩ : ∃ fs, Try.prog.underlying 23 = some (.struct fs) ∧ oneCellFields Try.prog fs = true ∧ intFields Try.prog fs = true ∧ Try.prog.cellsOf 23 = fs.size ∧ fs.size = 4)
  obtain ⟨cs, rfl, hsz, n, hf⟩ := agg_of_trod hu hone hC hv h
  rw [hk] at hsz
  have HG : ∀ j (hj : j < 4), ∃ z : Int, cs[j]'(by omega) = .int .i64 z := fun j hj => by
    obtain ⟨y, hy⟩ := hf j (fs[j]'(by omega)) (Array.getElem?_eq_getElem (by omega))
    obtain ⟨z, hz, _, _⟩ := DataW.trod_int (intFields_at hint (Array.getElem?_eq_getElem (by omega))) hy
    injection hz with hz _
    exact ⟨z, hz⟩
  obtain ⟨a, e0⟩ := HG 0 (by omega)
  obtain ⟨b, e1⟩ := HG 1 (by omega)
  obtain ⟨c, e2⟩ := HG 2 (by omega)
  obtain ⟨d, e3⟩ := HG 3 (by omega)
  refine ⟨a, b, c, d, ?_⟩
  congr 1
  apply Array.ext
  · exact hsz
  · intro i hi hi'
    have : i < 4 := by omega
    rcases (by omega : i = 0 ∨ i = 1 ∨ i = 2 ∨ i = 3) with rfl | rfl | rfl | rfl
    · exact e0
    · exact e1
    · exact e2
    · exact e3
theorem open_at {H : Type} {enc : TypeId × Value → H} {W : World} {spare : Nat → Bool} {held : Bool} {r : Reach} {b0 : Nat} {v : Value} {d : DataW H} {p : List MemPlace}
    (hv : Value.okWide Try.prog W r b0 25 v) (h : DataW.Trod enc Try.prog W 0 spare held 25 v d p) : ∃ a b : Int, v = .agg #[.int .i64 a, .int .i64 b] := by
  obtain ⟨fs, hu, hone, hint, hC, hk⟩ := (⟨_, Try.underlying25, by kernel_rfl, by kernel_rfl, by kernel_rfl, by kernel_rfl⟩ : ∃ fs, Try.prog.underlying 25 = some (.struct fs) ∧ oneCellFields Try.prog fs = true ∧ intFields Try.prog fs = true ∧ Try.prog.cellsOf 25 = fs.size ∧ fs.size = 2)
  obtain ⟨cs, rfl, hsz, n, hf⟩ := agg_of_trod hu hone hC hv h
  rw [hk] at hsz
  have HG : ∀ j (hj : j < 2), ∃ z : Int, cs[j]'(by omega) = .int .i64 z := fun j hj => by
    obtain ⟨y, hy⟩ := hf j (fs[j]'(by omega)) (Array.getElem?_eq_getElem (by omega))
    obtain ⟨z, hz, _, _⟩ := DataW.trod_int (intFields_at hint (Array.getElem?_eq_getElem (by omega))) hy
    injection hz with hz _
    exact ⟨z, hz⟩
  obtain ⟨a, e0⟩ := HG 0 (by omega)
  obtain ⟨b, e1⟩ := HG 1 (by omega)
  refine ⟨a, b, ?_⟩
  congr 1
  apply Array.ext
  · exact hsz
  · intro i hi hi'
    have : i < 2 := by omega
    rcases (by omega : i = 0 ∨ i = 1) with rfl | rfl
    · exact e0
    · exact e1

namespace fnExactPodStepRow
set_option maxRecDepth 100000 in
theorem contract (H : Type) (enc : TypeId × Value → H) (W : World) (base : Nat) (args : Array Value) (ds gs : List (DataW H)) (before : List MemPlace)
    (hval : ∀ (j : Nat) t v, Try.f3.params[j]? = some t → args[j]? = some v → Value.okWide Try.prog W .any base t v)
    (hW : DataW.Whole enc Try.prog Try.f3.params.toList Rows.fnExactPodStepSpec.vars false W args.toList ds gs before) :
    Calls Try.prog 3 args W fun e W' => ∃ v, e = .returned v ∧ Rows.fnExactPodStepSpec.post enc Try.prog Try.f3 false true false false W args v W' := by
  have hW' := hW
  obtain ⟨p, q, hA0, hV, rfl, hfz, hnd⟩ := hW
  have hA : DataW.TrodAll enc Try.prog W 0 (fun _ => true) true Try.f3.params.toList args.toList ds p := hA0
  rw [Try.params3] at hA hval
  obtain ⟨v0, v1, v2, d0, d1, d2, p0, p1, p2, rfl, rfl, rfl, h0, h1, h2⟩ := trodAll_three hA
  obtain ⟨rfl, rfl⟩ := trodVars_none hV
  obtain ⟨gr, ba, grace, hook, rfl⟩ := open_pod (hval 0 23 v0 rfl rfl) h0
  obtain ⟨st, since, rfl⟩ := open_at (hval 1 25 v1 rfl rfl) h1
  obtain ⟨clock, rfl, rfl, rfl, ww⟩ := open_int Try.underlying2 (hval 2 2 v2 rfl rfl) h2
  clear hA0
  simp only [List.append_nil] at hW'
  have hlt0 : ∀ x ∈ p0, x.block < W.heap.size := fun x hx => by simpa using hW'.lt x (by simp [hx])
  have hlt1 : ∀ x ∈ p1, x.block < W.heap.size := fun x hx => by simpa using hW'.lt x (by simp [hx])
  refine (lawPodStep gr ba grace hook st since clock W).mono fun e W' ⟨he, K⟩ => ?_
  subst he
  refine ⟨_, rfl, ⟨_, _, _, [], p0 ++ (p1 ++ []), [], hW', ?_, ?_, ?_, K.frame _, fun h => by cases h⟩⟩
  · exact trodAll_mk1 (shut_bool Try.underlying4 _)
  · exact trodAll_mk3 (Below.trod laid_ (by kernel_rfl) (of_decide_eq_true (by kernel_rfl)) h0 K hlt0) (Below.trod laid_ (by kernel_rfl) (of_decide_eq_true (by kernel_rfl)) h1 K hlt1) (shut_int Try.underlying2 ww)
  · exact rfl

set_option maxRecDepth 100000 in
theorem lifted (os : Os) (started : os.Started) (H : Type) (enc : TypeId × Value → H) :
    ReturnsInHanded {} Try.checked os 3 .any (Rows.fnExactPodStepSpec.pre6 enc Try.prog Try.f3 Rows.fnExactPodStepRow.domain false) (Rows.fnExactPodStepSpec.post enc Try.prog Try.f3 false true false false) := by
  refine returnsInHanded_of_change (C := Try.checked) (s := Rows.fnExactPodStepSpec) own_ started (by kernel_rfl) Try.func3
    (ChangeSpec.witness6 (enc := enc) (C := Try.checked) (s := Rows.fnExactPodStepSpec) false ⟨#[], #[.agg #[.int .i64 0, .int .i64 0, .int .i64 0, .int .i64 0], .agg #[.int .i64 0, .int .i64 0], .int .i64 0], []⟩ 8 (by kernel_rfl) (by kernel_rfl) (by kernel_rfl) (by kernel_rfl)) ?_
  intro W base args ds gs before hval hW _ _
  exact contract H enc W base args ds gs before hval hW
end fnExactPodStepRow

theorem fnExactPodStep_holds : Rows.FnExactPodStepSaid :=
  OpenClaim.holds_of_wide 3 Try.f3 rfl rfl rfl rfl rfl rfl rfl ⟨rfl, rfl, rfl, rfl, rfl⟩ rfl rfl rfl rfl rfl (by kernel_rfl) Try.func3 (by kernel_rfl)
    (of_decide_eq_true (by kernel_rfl)) (by unfold Func.isWrapper; first | (rw [if_pos (by decide +kernel)]; kernel_rfl) | (rw [if_neg (by decide +kernel)]; exact ⟨rfl, rfl⟩))
    (fun os started H enc _ => fnExactPodStepRow.lifted os started H enc)
#print axioms fnExactPodStep_holds
end Go.Proofs.Ytbcpimnbmjhjlaa
