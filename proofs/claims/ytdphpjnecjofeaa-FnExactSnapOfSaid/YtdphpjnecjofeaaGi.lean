/-
  PROVED: FnExactSnapOfSaid: at every plan and state that can be read SnapOf answers as its model, its records are its own, and it writes into nothing. Conditions: none beside the form's own.
-/
import Derived.Test.YtdphpjnecjofeaaGh
import Derived.Test.YtdphpjnecjofeaaGg
import Derived.Test.YtdphpjnecjofeaaMZ22
import Derived.Test.YtdphpjnecjofeaaMZ14
import Derived.Test.YtdphpjnecjofeaaMZ4
set_option linter.unusedVariables false
namespace Go.Proofs.Ytdphpjnecjofeaa
open Go.ChangeShapes Go.WideShapes Go.ChangeAt Go.RowKit Go.Deep

namespace fnExactSnapOfRow
set_option maxRecDepth 100000 in
theorem contract (H : Type) (enc : TypeId × Value → H) (W : World) (base : Nat) (args : Array Value) (ds gs : List (DataW H)) (before : List MemPlace)
    (hval : ∀ (j : Nat) t v, Try.f3.params[j]? = some t → args[j]? = some v → Value.okWide Try.prog W .any base t v)
    (hW : DataW.Whole enc Try.prog Try.f3.params.toList Rows.fnExactSnapOfSpec.vars false W args.toList ds gs before) :
    Calls Try.prog 3 args W fun e W' => ∃ v, e = .returned v ∧ Rows.fnExactSnapOfSpec.post enc Try.prog Try.f3 false true false false W args v W' := by
  have hW' := hW
  obtain ⟨p, q, hA0, hV, rfl, hfz, hnd⟩ := hW
  have hA : DataW.TrodAll enc Try.prog W 0 (fun _ => true) true Try.f3.params.toList args.toList ds p := hA0
  rw [Try.params3] at hA hval
  obtain ⟨v0, v1, d0, d1, p0, p1, rfl, rfl, rfl, h0, h1⟩ := trodAll_two hA
  obtain ⟨rfl, rfl⟩ := trodVars_none hV
  obtain ⟨D, hD⟩ := open_plan (hval 0 27 v0 rfl rfl) h0
  obtain ⟨s, hS⟩ := open_state (hval 1 32 v1 rfl rfl) h1
  clear hA0
  simp only [List.append_nil] at hW'
  have hlt0 : ∀ x ∈ p0, x.block < W.heap.size := fun x hx => by simpa using hW'.lt x (by simp [hx])
  have hlt1 : ∀ x ∈ p1, x.block < W.heap.size := fun x hx => by simpa using hW'.lt x (by simp [hx])
  refine (lawSnapOf v0 v1 D s _ W hD hS (snap_len D s) (fun pv sv W hp hs => specSnapOf_any pv sv D s W hp hs) (fun pv sv W1 hb hp hs => implSnapOf_any pv sv D s W1 hp hs)).mono fun e W' ⟨he, K⟩ => ?_
  subst he
  refine ⟨_, rfl, ⟨_, _, _, [], p0 ++ p1, [], hW', ?_, ?_, ?_, K.frame _, fun h => by cases h⟩⟩
  · exact trodAll_mk1 (shut_bool Try.underlying4 _)
  · exact trodAll_mk2 (Below.trod laid_ (by kernel_rfl) (of_decide_eq_true (by kernel_rfl)) h0 K hlt0) (Below.trod laid_ (by kernel_rfl) (of_decide_eq_true (by kernel_rfl)) h1 K hlt1)
  · exact rfl

set_option maxRecDepth 100000 in
theorem lifted (os : Os) (started : os.Started) (H : Type) (enc : TypeId × Value → H) :
    ReturnsInHanded {} Try.checked os 3 .any (Rows.fnExactSnapOfSpec.pre6 enc Try.prog Try.f3 Rows.fnExactSnapOfRow.domain false) (Rows.fnExactSnapOfSpec.post enc Try.prog Try.f3 false true false false) := by
  refine returnsInHanded_of_change (C := Try.checked) (s := Rows.fnExactSnapOfSpec) own_ started (by kernel_rfl) Try.func3
    (ChangeSpec.witness6 (enc := enc) (C := Try.checked) (s := Rows.fnExactSnapOfSpec) false ⟨#[], #[planV none none none none 0 0 0 0 0 0 0 0 0 0 0, .agg (stC none none none none 0 0 0 0 0 0 0 0 0 false 0 0 0 0 0 0)], []⟩ 8 (by kernel_rfl) (by kernel_rfl) (by kernel_rfl) (by kernel_rfl)) ?_
  intro W base args ds gs before hval hW _ _
  exact contract H enc W base args ds gs before hval hW
end fnExactSnapOfRow

theorem fnExactSnapOf_holds : Rows.FnExactSnapOfSaid :=
  OpenClaim.holds_of_wide 3 Try.f3 rfl rfl rfl rfl rfl rfl rfl ⟨rfl, rfl, rfl, rfl, rfl⟩ rfl rfl rfl rfl rfl (by kernel_rfl) Try.func3 (by kernel_rfl)
    (of_decide_eq_true (by kernel_rfl)) (by unfold Func.isWrapper; first | (rw [if_pos (by decide +kernel)]; kernel_rfl) | (rw [if_neg (by decide +kernel)]; exact ⟨rfl, rfl⟩))
    (fun os started H enc _ => fnExactSnapOfRow.lifted os started H enc)
#print axioms fnExactSnapOf_holds
end Go.Proofs.Ytdphpjnecjofeaa
