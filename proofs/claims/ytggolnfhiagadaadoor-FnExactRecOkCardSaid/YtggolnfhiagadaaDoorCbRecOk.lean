/-
  PROVED: FnExactRecOkCardSaid: of every record RecOk answers as its model. Conditions: none beside the form's own (the one listed table lies as the program's text lays it: the card's tie).
-/
import Derived.Test.YtggolnfhiagadaaDoorBh
import Derived.Test.YtggolnfhiagadaaDoorCa
import Derived.Test.YtggolnfhiagadaaDoorCb
import Derived.Test.YtggolnfhiagadaaDoorCards
import Derived.Test.YtggolnfhiagadaaDoorTie
import Derived.SevenTiedAt
import Derived.OpenVars
set_option linter.unusedVariables false
namespace Go.Proofs.YtggolnfhiagadaaDoor
open Go.ChangeShapes Go.WideShapes Go.ChangeAt Go.RowKit Go.Deep

set_option maxRecDepth 100000 in
set_option maxHeartbeats 1000000 in
theorem lawRecOk (a b c : Int) (w : World) (hN : Names w) :
    Calls Tryd.prog 4 #[.agg #[.int .i64 a, .int .i64 b, .int .i64 c]] w fun e w' => e = .returned (.bool true) ∧ Below w.heap.size w w' := by
  have HN := Lib.hid hN
  clear hN
  go_enter Tryd.func4, Tryd.ntmps4
  go_wp2_with fail
  have X0 := Own.box w #[.int .i64 a, .int .i64 b, .int .i64 c] 36
  refine (toRec_any a b c _).mono ?_
  rintro e w1 ⟨rfl, h1⟩
  have X1 := X0.step h1
  clear X0 h1
  go_wp2_with fail
  refine (specRecOk_any ⟨a, b, c⟩ _).mono ?_
  rintro e w2 ⟨rfl, h2⟩
  have X2 := X1.step h2
  have hC := X2.C
  clear X1 h2
  go_wp2_with fail
  refine (toRec_any a b c _).mono ?_
  rintro e w3 ⟨rfl, h3⟩
  have X3 := X2.step h3
  clear X2 h3 hC
  go_wp2_with fail
  refine (recOk_any ⟨a, b, c⟩ _ (HN.out.go X3.K)).mono ?_
  rintro e w4 ⟨rfl, h4⟩
  have X4 := X3.step h4
  clear X3 h4
  generalize recOkB ⟨a, b, c⟩ = q
  cases q
  all_goals
    go_wp2_with fail
    go_ret
    exact ⟨rfl, X4.K⟩

namespace lawRecOkRow
set_option maxRecDepth 100000 in
theorem contract (H : Type) (enc : TypeId × Value → H) (W : World) (base : Nat) (args : Array Value) (ds gs : List (DataW H)) (before : List MemPlace)
    (hval : ∀ (j : Nat) t v, Tryd.f4.params[j]? = some t → args[j]? = some v → Value.okWide Tryd.prog W .any base t v)
    (hW : DataW.Whole enc Tryd.prog Tryd.f4.params.toList Rows.fnExactRecOkSpec.vars false W args.toList ds gs before)
    (hL : laidMetH Tryd.prog Rows.fnExactRecOkRow.laid W) :
    Calls Tryd.prog 4 args W fun e W' => ∃ v, e = .returned v ∧ Rows.fnExactRecOkSpec.post enc Tryd.prog Tryd.f4 false true false false W args v W' := by
  have hW' := hW
  obtain ⟨p, q, hA0, hV, rfl, hfz, hnd⟩ := hW
  have hA : DataW.TrodAll enc Tryd.prog W 0 (fun _ => true) true Tryd.f4.params.toList args.toList ds p := hA0
  rw [Tryd.params4] at hA hval
  obtain ⟨v0, d0, rfl, rfl, h0⟩ := trodAll_one hA
  have hN := names_of_laid hL
  have hlt : ∀ x ∈ p, x.block < W.heap.size := fun x hx => hW'.lt x (List.mem_append_left _ hx)
  obtain ⟨dv, rfl⟩ : ∃ dv, gs = [dv] := by obtain ⟨_, _, _, _, dv, _, e, _⟩ := trodVars_one hV; exact ⟨dv, e⟩
  obtain ⟨a, b, c, rfl⟩ := open_rec (hval 0 36 v0 rfl rfl) h0
  clear hA0
  refine (lawRecOk a b c W hN).mono fun e W' ⟨he, K⟩ => ?_
  subst he
  refine ⟨_, rfl, ⟨_, _, _, [], p, q, hW', ?_, ?_, ?_, K.frame _, fun h => by cases h⟩⟩
  · exact trodAll_mk1 (shut_bool Tryd.underlying4 _)
  · exact trodAll_mk1 (Below.trod laid_ (by kernel_rfl) (of_decide_eq_true (by kernel_rfl)) h0 K hlt)
  · exact Below.trodVars laid_ K (by kernel_rfl) hV

set_option maxRecDepth 100000 in
theorem lifted (os : Os) (started : os.Started) (H : Type) (enc : TypeId × Value → H) :
    ReturnsInHanded {} Tryd.checked os 4 .any (fun w args => (Rows.fnExactRecOkSpec.pre enc Tryd.prog Tryd.f4 Rows.fnExactRecOkRow.domain false w args ∧ laidMetH Tryd.prog Rows.fnExactRecOkRow.laid w) ∧ sizedMet enc Tryd.prog Tryd.f4 (OpenSpec.ofChange Rows.fnExactRecOkSpec) false w args)
      (Rows.fnExactRecOkSpec.post enc Tryd.prog Tryd.f4 false true false false) := by
  refine returnsInHanded_of_change_and (C := Tryd.checked) (X := fun w _ => laidMetH Tryd.prog Rows.fnExactRecOkRow.laid w) (fun _ _ _ hh h => h.of_heap hh) own_ started (by kernel_rfl) Tryd.func4
    (ChangeSpec.witness_at (enc := enc) (C := Tryd.checked) (os := os) (X := fun w _ => laidMetH Tryd.prog Rows.fnExactRecOkRow.laid w) false (laidWorld os) #[.agg #[.int .i64 0, .int .i64 0, .int .i64 0]] 8 rfl (by kernel_rfl) (by kernel_rfl) (by kernel_rfl) (by kernel_rfl) (by kernel_rfl) (laidWorld_met os _)) ?_
  intro W base args ds gs before hval hW _ _ hL _
  exact contract H enc W base args ds gs before hval hW hL
end lawRecOkRow

theorem fnExactRecOk_row : Rows.FnExactRecOkSaid :=
  OpenClaim.holds_of_wide 4 Tryd.f4 rfl rfl rfl rfl rfl rfl rfl ⟨rfl, rfl, rfl, rfl, rfl⟩ rfl rfl rfl rfl rfl (by kernel_rfl) Tryd.func4 (by kernel_rfl)
    (of_decide_eq_true (by kernel_rfl)) (by unfold Func.isWrapper; first | (rw [if_pos (by decide +kernel)]; kernel_rfl) | (rw [if_neg (by decide +kernel)]; exact ⟨rfl, rfl⟩))
    (fun os started H enc _ => lawRecOkRow.lifted os started H enc)
theorem fnExactRecOk_holds : Rows.FnExactRecOkCardSaid :=
  Claim7.holds_tied_plain_at .later [] [.data] true (true, "affa60d451768dae6cceb6f4f35c6b992e6abcd2bee7d9399111cb5ab1612a55") false
    fnExactRecOk_row (fun _ h => by cases h) (by kernel_rfl) (fun _ h => by cases h) fnExactRecOk_row_tie rfl ⟨rfl, rfl⟩ (by kernel_rfl) rfl
    (fun f fn hf hfn => by
      obtain rfl : f = 4 := Option.some.inj ((show Tryd.prog.funcNamed "loop.example/g00767/laws.FnExactRecOk" = some 4 by kernel_rfl).symm.trans hf) |>.symm
      obtain rfl : fn = Tryd.f4 := (Option.some.inj (Tryd.func4.symm.trans hfn)).symm
      exact ⟨by kernel_rfl, fun j t ht => by
        rw [Tryd.params4] at ht
        have h3 : t = 36 := by
          rcases j with _ | j
          · simpa using ht.symm
          · simp at ht
        subst h3
        exact (show Tryd.prog.wantsStandIn 36 = false by kernel_rfl)⟩)
    (by kernel_rfl)
#print axioms fnExactRecOk_holds
end Go.Proofs.YtggolnfhiagadaaDoor
