/-
  PROVED: FnPlannedCardSaid: of every list of bytes, and so of all that is drawn from it: what is planned is what its chapter tells; what is refused has no records; what is not is applied and keeps a state right (of a probe of a machine whose tries are used up already the law asks no more than that the order is right). Conditions: none beside the form's own (the listed variables lie as the program's text lays them: the card's tie).
-/
import Derived.Test.YtdkmhaghnfhajaaGreatDoorMZ30
import Derived.Test.YtdkmhaghnfhajaaGreatDoorMZ22
import Derived.Test.YtdkmhaghnfhajaaGreatDoorMZ0
import Derived.Test.YtdkmhaghnfhajaaGreatDoorCards
import Derived.Test.YtdkmhaghnfhajaaGreatDoorTie
import Derived.SevenTiedAt
import Derived.OpenVars
/- Lg -/
set_option linter.unusedVariables false
namespace Go.Proofs.YtdkmhaghnfhajaaGreatDoor
open Go.ChangeShapes Go.WideShapes Go.ChangeAt Go.RowKit Go.Deep

namespace fnPlannedRow
set_option maxRecDepth 100000 in
theorem contract (H : Type) (enc : TypeId × Value → H) (W : World) (base : Nat) (args : Array Value) (ds gs : List (DataW H)) (before : List MemPlace)
    (hval : ∀ (j : Nat) t v, Tryz.f8.params[j]? = some t → args[j]? = some v → Value.okWide Tryz.prog W .any base t v)
    (hW : DataW.Whole enc Tryz.prog Tryz.f8.params.toList Rows.fnPlannedSpec.vars false W args.toList ds gs before)
    (hL : laidMetH Tryz.prog Rows.fnPlannedRow.laid W) :
    Calls Tryz.prog 8 args W fun e W' => ∃ v, e = .returned v ∧ Rows.fnPlannedSpec.post enc Tryz.prog Tryz.f8 false true false false W args v W' := by
  have hW' := hW
  obtain ⟨p, q, hA0, hV, rfl, hfz, hnd⟩ := hW
  have hA : DataW.TrodAll enc Tryz.prog W 0 (fun _ => true) true Tryz.f8.params.toList args.toList ds p := hA0
  rw [Tryz.params8] at hA hval
  clear hA0 hfz hnd
  obtain ⟨v0, vs0, d0, ds0, p0, r0, ea0, ed0, ep0, h0, hr0⟩ := trodAll_cons hA
  obtain ⟨en1, en2, en3⟩ := trodAll_nil hr0
  subst en1 en2 en3
  obtain rfl : args = #[v0] := by cases args; simp_all
  subst ed0 ep0
  simp only [List.append_nil] at *
  obtain ⟨K_, O_, P_, S_, B_, hE⟩ := errs_of_laid hL
  have hN := names_of_laidH hL
  have hlt0 : ∀ x ∈ p0, x.block < W.heap.size := fun x hx => hW'.lt x (List.mem_append_left _ hx)
  have hG : ∃ y : List (DataW H), gs = y ∧ Rows.fnPlannedSpec.fn H ([d0] ++ y) = { results := [.lit (.bool true)], args := [d0], vars := y } := by
    match gs, hV with
    | [y0, y1, y2, y3, y4, y5], _ => exact ⟨_, rfl, rfl⟩
    | [], h => exact absurd h (by simp [DataW.TrodVars, Rows.fnPlannedSpec])
    | [y0], h => exact absurd h (by simp [DataW.TrodVars, Rows.fnPlannedSpec])
    | [y0, y1], h => exact absurd h (by simp [DataW.TrodVars, Rows.fnPlannedSpec])
    | [y0, y1, y2], h => exact absurd h (by simp [DataW.TrodVars, Rows.fnPlannedSpec])
    | [y0, y1, y2, y3], h => exact absurd h (by simp [DataW.TrodVars, Rows.fnPlannedSpec])
    | [y0, y1, y2, y3, y4], h => exact absurd h (by simp [DataW.TrodVars, Rows.fnPlannedSpec])
    | y0 :: y1 :: y2 :: y3 :: y4 :: y5 :: z :: r, h => exact absurd h (by simp [DataW.TrodVars, Rows.fnPlannedSpec])
  obtain ⟨A, n, c, rfl, hn, hB⟩ := open_bytes (hval 0 22 v0 rfl rfl) h0
  obtain ⟨gs', rfl, eG⟩ := hG
  refine (lawPlannedF K_ O_ P_ S_ B_ A n c W hE hN hB hn).mono fun e W' ⟨he, K⟩ => ?_
  subst he
  refine ⟨_, rfl, ⟨_, _, _, [], p0, q, hW', ?_, ?_, ?_, K.frame _, fun h => by cases h⟩⟩
  · rw [eG]; exact trodAll_mk1 (shut_bool Tryz.underlying4 _)
  · rw [eG]; exact trodAll_mk1 (Below.trod laid_ (by kernel_rfl) (of_decide_eq_true (by kernel_rfl)) h0 K hlt0)
  · rw [eG]; exact Below.trodVars laid_ K (by kernel_rfl) hV

set_option maxRecDepth 100000 in
theorem lifted (os : Os) (started : os.Started) (H : Type) (enc : TypeId × Value → H) :
    ReturnsInHanded {} Tryz.checked os 8 .any (fun w args => (Rows.fnPlannedSpec.pre enc Tryz.prog Tryz.f8 Rows.fnPlannedRow.domain false w args ∧ laidMetH Tryz.prog Rows.fnPlannedRow.laid w) ∧ sizedMet enc Tryz.prog Tryz.f8 (OpenSpec.ofChange Rows.fnPlannedSpec) false w args)
      (Rows.fnPlannedSpec.post enc Tryz.prog Tryz.f8 false true false false) := by
  refine returnsInHanded_of_change_and (C := Tryz.checked) (X := fun w _ => laidMetH Tryz.prog Rows.fnPlannedRow.laid w) (fun _ _ _ hh h => h.of_heap hh) own_ started (by kernel_rfl) Tryz.func8
    (ChangeSpec.witness_at (enc := enc) (C := Tryz.checked) (os := os) (X := fun w _ => laidMetH Tryz.prog Rows.fnPlannedRow.laid w) false (laidWorldE os) #[.slice none 0 0] 8 rfl (by kernel_rfl) (by kernel_rfl) (by kernel_rfl) (by kernel_rfl) (by kernel_rfl) (laidWorldE_met os _)) ?_
  intro W base args ds gs before hval hW _ _ hL _
  exact contract H enc W base args ds gs before hval hW hL
end fnPlannedRow

theorem fnPlanned_row : Rows.FnPlannedSaid :=
  OpenClaim.holds_of_wide 8 Tryz.f8 rfl rfl rfl rfl rfl rfl rfl ⟨rfl, rfl, rfl, rfl, rfl⟩ rfl rfl rfl rfl rfl (by kernel_rfl) Tryz.func8 (by kernel_rfl)
    (of_decide_eq_true (by kernel_rfl)) (by unfold Func.isWrapper; first | (rw [if_pos (by decide +kernel)]; kernel_rfl) | (rw [if_neg (by decide +kernel)]; exact ⟨rfl, rfl⟩))
    (fun os started H enc _ => fnPlannedRow.lifted os started H enc)
theorem fnPlanned_holds : Rows.FnPlannedCardSaid :=
  Claim7.holds_tied_plain_at .later [] [.handle, .data, .sentinel, .sentinel, .sentinel, .sentinel, .sentinel] true (true, "9604883ff75e5b0d9a334acb260197841692de1925e2bec7ca77df0a84e99f13") true
    fnPlanned_row (fun _ h => by cases h) (by kernel_rfl) (fun _ h => by cases h) fnPlanned_row_tie rfl ⟨rfl, rfl⟩ (by kernel_rfl) rfl
    (fun f fn hf hfn => by
      obtain rfl : f = 8 := Option.some.inj ((show Tryz.prog.funcNamed "loop.example/g00767/laws.FnPlanned" = some 8 by kernel_rfl).symm.trans hf) |>.symm
      obtain rfl : fn = Tryz.f8 := (Option.some.inj (Tryz.func8.symm.trans hfn)).symm
      exact ⟨by kernel_rfl, fun j t ht => by
        rw [Tryz.params8] at ht
        have h3 : t = 22 := by
          rcases j with _ | j
          · exact (by simpa using ht.symm)
          · simp at ht
        rcases h3 with rfl
        · exact (show Tryz.prog.wantsStandIn 22 = false by kernel_rfl)⟩)
    (by kernel_rfl)
#print axioms fnPlanned_holds
end Go.Proofs.YtdkmhaghnfhajaaGreatDoor
