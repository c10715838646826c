/-
  PROVED: FnExactOrderOkSaid: of every order OrderOk answers as its model. Conditions: none beside the form's own.
-/
import Derived.Test.YtfilbodigooenaaLa
import Derived.Test.YtfilbodigooenaaLo
import Derived.Test.YtfilbodigooenaaA1
set_option linter.unusedVariables false
namespace Go.Proofs.Ytfilbodigooenaa
open Go.ChangeShapes Go.WideShapes Go.ChangeAt Go.RowKit Go.Deep

set_option maxRecDepth 100000 in
set_option maxHeartbeats 1000000 in
theorem lawOrderOk (a b c : Int) (w : World) :
    Calls Try.prog 3 #[.agg (ordC a b c)] w fun e w' => e = .returned (.bool true) ∧ Below w.heap.size w w' := by
  go_enter Try.func3, Try.ntmps3
  go_wp2_with fail
  have X0 := Own.box w (ordC a b c) 23
  refine (toOrder_any a b c _).mono ?_
  rintro e w1 ⟨rfl, h1⟩
  have X1 := X0.step h1
  clear X0 h1
  go_wp2_with fail
  refine (orderOk_any a b c _).mono ?_
  rintro e w2 ⟨rfl, h2⟩
  have X2 := X1.step h2
  have hC := X2.C
  clear X1 h2
  go_wp2_with fail
  refine (toOrder_any a b c _).mono ?_
  rintro e w3 ⟨rfl, h3⟩
  have X3 := X2.step h3
  clear X2 h3 hC
  go_wp2_with fail
  refine (implOrderOk_any a b c _).mono ?_
  rintro e w4 ⟨rfl, h4⟩
  have X4 := X3.step h4
  clear X3 h4
  generalize orderOkB a b c = q
  cases q
  all_goals
    go_wp2_with fail
    go_ret
    exact ⟨rfl, X4.K⟩

namespace fnExactOrderOkRow
set_option maxRecDepth 100000 in
theorem contract (H : Type) (enc : TypeId × Value → H) (W : World) (base : Nat) (args : Array Value) (ds gs : List (DataW H)) (before : List MemPlace)
    (hval : ∀ (j : Nat) t v, Try.f3.params[j]? = some t → args[j]? = some v → Value.okWide Try.prog W .any base t v)
    (hW : DataW.Whole enc Try.prog Try.f3.params.toList Rows.fnExactOrderOkSpec.vars false W args.toList ds gs before) :
    Calls Try.prog 3 args W fun e W' => ∃ v, e = .returned v ∧ Rows.fnExactOrderOkSpec.post enc Try.prog Try.f3 false true false false W args v W' := by
  have hW' := hW
  obtain ⟨p, q, hA0, hV, rfl, hfz, hnd⟩ := hW
  have hA : DataW.TrodAll enc Try.prog W 0 (fun _ => true) true Try.f3.params.toList args.toList ds p := hA0
  rw [Try.params3] at hA hval
  obtain ⟨v0, d0, rfl, rfl, h0⟩ := trodAll_one hA
  obtain ⟨rfl, rfl⟩ := trodVars_none hV
  obtain ⟨a, b, c, rfl⟩ := open_ord (hval 0 23 v0 rfl rfl) h0
  clear hA0
  simp only [List.append_nil] at hW'
  have hlt : ∀ x ∈ p, x.block < W.heap.size := fun x hx => by simpa using hW'.lt x hx
  refine (lawOrderOk a b c W).mono fun e W' ⟨he, K⟩ => ?_
  subst he
  refine ⟨_, rfl, ⟨_, _, _, [], p, [], hW', ?_, ?_, ?_, K.frame _, fun h => by cases h⟩⟩
  · exact trodAll_mk1 (shut_bool Try.underlying4 _)
  · exact trodAll_mk1 (Below.trod laid_ (by kernel_rfl) (of_decide_eq_true (by kernel_rfl)) h0 K hlt)
  · exact rfl

set_option maxRecDepth 100000 in
theorem lifted (os : Os) (started : os.Started) (H : Type) (enc : TypeId × Value → H) :
    ReturnsInHanded {} Try.checked os 3 .any (Rows.fnExactOrderOkSpec.pre6 enc Try.prog Try.f3 Rows.fnExactOrderOkRow.domain false) (Rows.fnExactOrderOkSpec.post enc Try.prog Try.f3 false true false false) := by
  refine returnsInHanded_of_change (C := Try.checked) (s := Rows.fnExactOrderOkSpec) own_ started (by kernel_rfl) Try.func3
    (ChangeSpec.witness6 (enc := enc) (C := Try.checked) (s := Rows.fnExactOrderOkSpec) false ⟨#[], #[.agg #[.int .i64 0, .int .i64 0, .int .i64 0]], []⟩ 8 (by kernel_rfl) (by kernel_rfl) (by kernel_rfl) (by kernel_rfl)) ?_
  intro W base args ds gs before hval hW _ _
  exact contract H enc W base args ds gs before hval hW
end fnExactOrderOkRow

theorem fnExactOrderOk_holds : Rows.FnExactOrderOkSaid :=
  OpenClaim.holds_of_wide 3 Try.f3 rfl rfl rfl rfl rfl rfl rfl ⟨rfl, rfl, rfl, rfl, rfl⟩ rfl rfl rfl rfl rfl (by kernel_rfl) Try.func3 (by kernel_rfl)
    (of_decide_eq_true (by kernel_rfl)) (by unfold Func.isWrapper; first | (rw [if_pos (by decide +kernel)]; kernel_rfl) | (rw [if_neg (by decide +kernel)]; exact ⟨rfl, rfl⟩))
    (fun os started H enc _ => fnExactOrderOkRow.lifted os started H enc)
#print axioms fnExactOrderOk_holds
end Go.Proofs.Ytfilbodigooenaa
