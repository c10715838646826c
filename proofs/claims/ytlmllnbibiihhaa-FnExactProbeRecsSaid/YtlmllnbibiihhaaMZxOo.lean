/-
  PROVED: FnExactProbeRecsSaid: at every plan, every state, found well or not, ProbeRecs answers as its model, its records are its own, and it writes into no argument. Conditions: none beside the form's own.
-/
import Derived.Test.YtlmllnbibiihhaaMZxOf
import Derived.Test.YtlmllnbibiihhaaMZxOc
import Derived.Test.YtlmllnbibiihhaaMZxWm
import Derived.Test.YtlmllnbibiihhaaMZ2
import Derived.Test.YtlmllnbibiihhaaMZ4
/- Oo -/
set_option linter.unusedVariables false
namespace Go.Proofs.Ytlmllnbibiihhaa
open Go.ChangeShapes Go.WideShapes Go.ChangeAt Go.RowKit Go.Deep

namespace fnExactProbeRecsRow
set_option maxRecDepth 100000 in
theorem contract (H : Type) (enc : TypeId × Value → H) (W : World) (base : Nat) (args : Array Value) (ds gs : List (DataW H)) (before : List MemPlace)
    (hval : ∀ (j : Nat) t v, Try.f4.params[j]? = some t → args[j]? = some v → Value.okWide Try.prog W .any base t v)
    (hW : DataW.Whole enc Try.prog Try.f4.params.toList Rows.fnExactProbeRecsSpec.vars false W args.toList ds gs before) :
    Calls Try.prog 4 args W fun e W' => ∃ v, e = .returned v ∧ Rows.fnExactProbeRecsSpec.post enc Try.prog Try.f4 false true false false W args v W' := by
  have hW' := hW
  obtain ⟨p, q, hA0, hV, rfl, hfz, hnd⟩ := hW
  have hA : DataW.TrodAll enc Try.prog W 0 (fun _ => true) true Try.f4.params.toList args.toList ds p := hA0
  rw [Try.params4] at hA hval
  obtain ⟨v0, v1, v2, d0, d1, d2, p0, p1, p2, rfl, rfl, rfl, h0, h1, h2⟩ := trodAll_three hA
  obtain ⟨rfl, rfl⟩ := trodVars_none hV
  obtain ⟨D, hD⟩ := open_plan (hval 0 27 v0 rfl rfl) h0
  obtain ⟨s, hS⟩ := open_state (hval 1 32 v1 rfl rfl) h1
  obtain ⟨b_g, rfl, rfl, rfl⟩ := open_bool Try.underlying4 (hval 2 4 v2 rfl rfl) h2
  clear hA0
  simp only [List.append_nil] at hW'
  have hlt0 : ∀ x ∈ p0, x.block < W.heap.size := fun x hx => by simpa using hW'.lt x (by simp [hx])
  have hlt1 : ∀ x ∈ p1, x.block < W.heap.size := fun x hx => by simpa using hW'.lt x (by simp [hx])
  refine (lawProbeRecs v0 v1 D s b_g _ _ W hD hS (probe_len1 D s b_g) (fun pv sv W hp hs => probeRecs_any pv sv D s b_g W hp hs) (fun pv sv W1 hb hp hs => implProbeRecs_any pv sv D s b_g W1 hp hs)).mono fun e W' ⟨he, K⟩ => ?_
  subst he
  refine ⟨_, rfl, ⟨_, _, _, [], p0 ++ (p1 ++ []), [], hW', ?_, ?_, ?_, K.frame _, fun h => by cases h⟩⟩
  · exact trodAll_mk1 (shut_bool Try.underlying4 _)
  · exact trodAll_mk3 (Below.trod laid_ (by kernel_rfl) (of_decide_eq_true (by kernel_rfl)) h0 K hlt0) (Below.trod laid_ (by kernel_rfl) (of_decide_eq_true (by kernel_rfl)) h1 K hlt1) (shut_bool Try.underlying4 _)
  · exact rfl

set_option maxRecDepth 100000 in
theorem lifted (os : Os) (started : os.Started) (H : Type) (enc : TypeId × Value → H) :
    ReturnsInHanded {} Try.checked os 4 .any (Rows.fnExactProbeRecsSpec.pre6 enc Try.prog Try.f4 Rows.fnExactProbeRecsRow.domain false) (Rows.fnExactProbeRecsSpec.post enc Try.prog Try.f4 false true false false) := by
  refine returnsInHanded_of_change (C := Try.checked) (s := Rows.fnExactProbeRecsSpec) own_ started (by kernel_rfl) Try.func4
    (ChangeSpec.witness6 (enc := enc) (C := Try.checked) (s := Rows.fnExactProbeRecsSpec) false ⟨#[], #[planV none none none none 0 0 0 0 0 0 0 0 0 0 0, .agg (stC none none none none 0 0 0 0 0 0 0 0 0 false 0 0 0 0 0 0), .bool false], []⟩ 8 (by kernel_rfl) (by kernel_rfl) (by kernel_rfl) (by kernel_rfl)) ?_
  intro W base args ds gs before hval hW _ _
  exact contract H enc W base args ds gs before hval hW
end fnExactProbeRecsRow

theorem fnExactProbeRecs_holds : Rows.FnExactProbeRecsSaid :=
  OpenClaim.holds_of_wide 4 Try.f4 rfl rfl rfl rfl rfl rfl rfl ⟨rfl, rfl, rfl, rfl, rfl⟩ rfl rfl rfl rfl rfl (by kernel_rfl) Try.func4 (by kernel_rfl)
    (of_decide_eq_true (by kernel_rfl)) (by unfold Func.isWrapper; first | (rw [if_pos (by decide +kernel)]; kernel_rfl) | (rw [if_neg (by decide +kernel)]; exact ⟨rfl, rfl⟩))
    (fun os started H enc _ => fnExactProbeRecsRow.lifted os started H enc)
#print axioms fnExactProbeRecs_holds
end Go.Proofs.Ytlmllnbibiihhaa
