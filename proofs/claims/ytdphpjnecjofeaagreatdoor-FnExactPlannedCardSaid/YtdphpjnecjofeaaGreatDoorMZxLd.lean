/-
  PROVED: FnExactPlannedCardSaid: of every plan, every state and every order Planned answers as its model; its answer is new memory; the arguments stay. Conditions: none beside the form's own (the listed variables lie as the program's text lays them: the card's tie).
-/
import Derived.Test.YtdphpjnecjofeaaGreatDoorMZ20
import Derived.Test.YtdphpjnecjofeaaGreatDoorMZxLp
import Derived.Test.YtdphpjnecjofeaaGreatDoorMZ12
import Derived.Test.YtdphpjnecjofeaaGreatDoorMZ1
import Derived.Test.YtdphpjnecjofeaaGreatDoorMZ5
import Derived.Test.YtdphpjnecjofeaaGreatDoorCards
import Derived.Test.YtdphpjnecjofeaaGreatDoorTie
import Derived.SevenTiedAt
import Derived.OpenVars
/- Ld -/
set_option linter.unusedVariables false
namespace Go.Proofs.YtdphpjnecjofeaaGreatDoor
open Go.ChangeShapes Go.WideShapes Go.ChangeAt Go.RowKit Go.Deep

namespace fnExactPlannedRow
set_option maxRecDepth 100000 in
theorem contract (H : Type) (enc : TypeId × Value → H) (W : World) (base : Nat) (args : Array Value) (ds gs : List (DataW H)) (before : List MemPlace)
    (hval : ∀ (j : Nat) t v, Tryz.f6.params[j]? = some t → args[j]? = some v → Value.okWide Tryz.prog W .any base t v)
    (hW : DataW.Whole enc Tryz.prog Tryz.f6.params.toList Rows.fnExactPlannedSpec.vars false W args.toList ds gs before)
    (hL : laidMetH Tryz.prog Rows.fnExactPlannedRow.laid W) :
    Calls Tryz.prog 6 args W fun e W' => ∃ v, e = .returned v ∧ Rows.fnExactPlannedSpec.post enc Tryz.prog Tryz.f6 false true false false W args v W' := by
  have hW' := hW
  obtain ⟨p, q, hA0, hV, rfl, hfz, hnd⟩ := hW
  have hA : DataW.TrodAll enc Tryz.prog W 0 (fun _ => true) true Tryz.f6.params.toList args.toList ds p := hA0
  rw [Tryz.params6] at hA hval
  clear hA0 hfz hnd
  obtain ⟨v0, vs0, d0, ds0, p0, r0, ea0, ed0, ep0, h0, hr0⟩ := trodAll_cons hA
  obtain ⟨v1, vs1, d1, ds1, p1, r1, ea1, ed1, ep1, h1, hr1⟩ := trodAll_cons hr0
  obtain ⟨v2, vs2, d2, ds2, p2, r2, ea2, ed2, ep2, h2, hr2⟩ := trodAll_cons hr1
  obtain ⟨en1, en2, en3⟩ := trodAll_nil hr2
  subst en1 en2 en3
  subst ea2 ed2 ep2
  subst ea1 ed1 ep1
  obtain rfl : args = #[v0, v1, v2] := by cases args; simp_all
  subst ed0 ep0
  simp only [List.append_nil] at *
  obtain ⟨K_, O_, P_, S_, B_, hE⟩ := errs_of_laid hL
  have hlt0 : ∀ x ∈ p0, x.block < W.heap.size := fun x hx => hW'.lt x (List.mem_append_left _ (List.mem_append_left _ hx))
  have hlt1 : ∀ x ∈ p1, x.block < W.heap.size := fun x hx => hW'.lt x (List.mem_append_left _ (List.mem_append_right _ (List.mem_append_left _ hx)))
  have hlt2 : ∀ x ∈ p2, x.block < W.heap.size := fun x hx => hW'.lt x (List.mem_append_left _ (List.mem_append_right _ (List.mem_append_right _ hx)))
  have hG : ∃ y : List (DataW H), gs = y ∧ Rows.fnExactPlannedSpec.fn H ([d0, d1, d2] ++ y) = { results := [.lit (.bool true)], args := [d0, d1, d2], vars := y } := by
    match gs, hV with
    | [y0, y1, y2, y3, y4], _ => exact ⟨_, rfl, rfl⟩
    | [], h => exact absurd h (by simp [DataW.TrodVars, Rows.fnExactPlannedSpec])
    | [y0], h => exact absurd h (by simp [DataW.TrodVars, Rows.fnExactPlannedSpec])
    | [y0, y1], h => exact absurd h (by simp [DataW.TrodVars, Rows.fnExactPlannedSpec])
    | [y0, y1, y2], h => exact absurd h (by simp [DataW.TrodVars, Rows.fnExactPlannedSpec])
    | [y0, y1, y2, y3], h => exact absurd h (by simp [DataW.TrodVars, Rows.fnExactPlannedSpec])
    | y0 :: y1 :: y2 :: y3 :: y4 :: z :: r, h => exact absurd h (by simp [DataW.TrodVars, Rows.fnExactPlannedSpec])
  obtain ⟨D, hD⟩ := open_plan (hval 0 27 v0 rfl rfl) h0
  obtain ⟨s, hS⟩ := open_state (hval 1 32 v1 rfl rfl) h1
  obtain ⟨xk, xa, xb, rfl⟩ := open_ord (hval 2 68 v2 rfl rfl) h2
  obtain ⟨gs', rfl, eG⟩ := hG
  refine (lawPlanned v0 v1 D s xk xa xb _ _ W hD hS (planned_len D s xk xa xb) (fun pv sv W hp hs => planned_any pv sv D s xk xa xb W hp hs) (fun pv sv W1 hb hp hs => implPlanned_any K_ O_ P_ S_ B_ pv sv D s xk xa xb W1 hp hs (hE.below hb))).mono fun e W' ⟨he, K⟩ => ?_
  subst he
  refine ⟨_, rfl, ⟨_, _, _, [], p0 ++ (p1 ++ (p2)), q, hW', ?_, ?_, ?_, K.frame _, fun h => by cases h⟩⟩
  · rw [eG]; exact trodAll_mk1 (shut_bool Tryz.underlying4 _)
  · rw [eG]; exact ⟨p0, p1 ++ (p2), (Below.trod laid_ (by kernel_rfl) (of_decide_eq_true (by kernel_rfl)) h0 K hlt0), ⟨p1, p2, (Below.trod laid_ (by kernel_rfl) (of_decide_eq_true (by kernel_rfl)) h1 K hlt1), trodAll_mk1 (Below.trod laid_ (by kernel_rfl) (of_decide_eq_true (by kernel_rfl)) h2 K hlt2), rfl⟩, rfl⟩
  · rw [eG]; exact Below.trodVars laid_ K (by kernel_rfl) hV

set_option maxRecDepth 100000 in
theorem lifted (os : Os) (started : os.Started) (H : Type) (enc : TypeId × Value → H) :
    ReturnsInHanded {} Tryz.checked os 6 .any (fun w args => (Rows.fnExactPlannedSpec.pre enc Tryz.prog Tryz.f6 Rows.fnExactPlannedRow.domain false w args ∧ laidMetH Tryz.prog Rows.fnExactPlannedRow.laid w) ∧ sizedMet enc Tryz.prog Tryz.f6 (OpenSpec.ofChange Rows.fnExactPlannedSpec) false w args)
      (Rows.fnExactPlannedSpec.post enc Tryz.prog Tryz.f6 false true false false) := by
  refine returnsInHanded_of_change_and (C := Tryz.checked) (X := fun w _ => laidMetH Tryz.prog Rows.fnExactPlannedRow.laid w) (fun _ _ _ hh h => h.of_heap hh) own_ started (by kernel_rfl) Tryz.func6
    (ChangeSpec.witness_at (enc := enc) (C := Tryz.checked) (os := os) (X := fun w _ => laidMetH Tryz.prog Rows.fnExactPlannedRow.laid w) false (laidWorldE os) #[planV none none none none 0 0 0 0 0 0 0 0 0 0 0, .agg (stC none none none none 0 0 0 0 0 0 0 0 0 false 0 0 0 0 0 0), .agg #[.int .i64 0, .int .i64 0, .int .i64 0]] 8 rfl (by kernel_rfl) (by kernel_rfl) (by kernel_rfl) (by kernel_rfl) (by kernel_rfl) (laidWorldE_met os _)) ?_
  intro W base args ds gs before hval hW _ _ hL _
  exact contract H enc W base args ds gs before hval hW hL
end fnExactPlannedRow

theorem fnExactPlanned_row : Rows.FnExactPlannedSaid :=
  OpenClaim.holds_of_wide 6 Tryz.f6 rfl rfl rfl rfl rfl rfl rfl ⟨rfl, rfl, rfl, rfl, rfl⟩ rfl rfl rfl rfl rfl (by kernel_rfl) Tryz.func6 (by kernel_rfl)
    (of_decide_eq_true (by kernel_rfl)) (by unfold Func.isWrapper; first | (rw [if_pos (by decide +kernel)]; kernel_rfl) | (rw [if_neg (by decide +kernel)]; exact ⟨rfl, rfl⟩))
    (fun os started H enc _ => fnExactPlannedRow.lifted os started H enc)
theorem fnExactPlanned_holds : Rows.FnExactPlannedCardSaid :=
  Claim7.holds_tied_plain_at .later [] [.handle, .sentinel, .sentinel, .sentinel, .sentinel, .sentinel] true (true, "15bf401f4c702e812a6d36bd633aefde72431cc50e7deb406c5532528cc5f13f") true
    fnExactPlanned_row (fun _ h => by cases h) (by kernel_rfl) (fun _ h => by cases h) fnExactPlanned_row_tie rfl ⟨rfl, rfl⟩ (by kernel_rfl) rfl
    (fun f fn hf hfn => by
      obtain rfl : f = 6 := Option.some.inj ((show Tryz.prog.funcNamed "loop.example/g00767/laws.FnExactPlanned" = some 6 by kernel_rfl).symm.trans hf) |>.symm
      obtain rfl : fn = Tryz.f6 := (Option.some.inj (Tryz.func6.symm.trans hfn)).symm
      exact ⟨by kernel_rfl, fun j t ht => by
        rw [Tryz.params6] at ht
        have h3 : t = 27 ∨ t = 32 ∨ t = 68 := by
          rcases j with _ | _ | _ | j
          · exact .inl (by simpa using ht.symm)
          · exact .inr (.inl (by simpa using ht.symm))
          · exact .inr (.inr ((by simpa using ht.symm)))
          · simp at ht
        rcases h3 with rfl | rfl | rfl
        · exact (show Tryz.prog.wantsStandIn 27 = false by kernel_rfl)
        · exact (show Tryz.prog.wantsStandIn 32 = false by kernel_rfl)
        · exact (show Tryz.prog.wantsStandIn 68 = false by kernel_rfl)⟩)
    (by kernel_rfl)
#print axioms fnExactPlanned_holds
end Go.Proofs.YtdphpjnecjofeaaGreatDoor
