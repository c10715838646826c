/-
  The model's StateOk.
-/
import Derived.Test.YtdphpjnecjofeaaGreatMZ4
/- Ut -/
set_option linter.unusedVariables false
namespace Go.Proofs.YtdphpjnecjofeaaGreat
open Go.RowKit

end Go.Proofs.YtdphpjnecjofeaaGreat
/- Uu -/
set_option linter.unusedVariables false
namespace Go.Proofs.YtdphpjnecjofeaaGreat
open Go.RowKit

end Go.Proofs.YtdphpjnecjofeaaGreat
/- Ui -/
set_option linter.unusedVariables false
namespace Go.Proofs.YtdphpjnecjofeaaGreat
open Go.RowKit

set_option maxHeartbeats 8000000 in
theorem specStateOk_any (pv sv : Value) (d : PlanD) (s : StD) (w : World) (hp : IsPlan w w.heap.size pv d) (h : IsSt w w.heap.size sv s) :
    Calls Tryz.prog 24 #[pv, sv] w fun e w' => e = .returned (.bool (stOkB d s)) ∧ Below w.heap.size w w' := by
  have HP := Lib.hid hp
  have HS := Lib.hid h
  obtain ⟨⟨P0, P1, P2, P3, k0, k1, k2, k3, rfl, -, -, -, -⟩, -, -, -, -⟩ := hp
  obtain ⟨⟨A0, A1, A2, A3, c0, c1, c2, c3, rfl, -, -, -, -⟩, -, -, -, -⟩ := h
  have hans := stOkB_parts d s
  have hprt := fun (W : World) (hb : Below w.heap.size w W) => l5Parts_any _ _ d s W ((HP.out.below hb (Nat.le_refl _)).more hb.size) ((HS.out.below hb (Nat.le_refl _)).more hb.size)
  obtain ⟨ph, co, ck, bo, ba, lb, l0, l1, l2, l3, gd, pr⟩ := s
  dsimp only at hans hprt ⊢
  have T0 := Two.start w (planC P0 P1 P2 P3 d.n0 k0 d.n1 k1 d.n2 k2 d.n3 k3 d.l d.p d.t) (stC A0 A1 A2 A3 l0.length c0 l1.length c1 l2.length c2 l3.length c3 ph co ck bo ba lb gd pr) 42 47
  clear HS
  generalize stOkB d ⟨ph, co, ck, bo, ba, lb, l0, l1, l2, l3, gd, pr⟩ = ans at *
  generalize partsB d ⟨ph, co, ck, bo, ba, lb, l0, l1, l2, l3, gd, pr⟩ = okq at *
  have HANS := Lib.hid hans
  have HPRT := Lib.hid hprt
  clear hans hprt
  go_enter Tryz.func24, Tryz.ntmps24
  go_wp2_with fail
  refine (spec_planOk_any _ d _ ((HP.out.below T0.A.K (Nat.le_refl _)).more T0.A.K.size)).mono ?_
  rintro e w1 ⟨rfl, hb1⟩
  have X := T0.step hb1
  have hC := X.A.C
  have hD := X.O.C
  clear T0 hb1
  cases h0 : planOkB d
  · have H0 := Lib.hid h0
    clear h0
    go_wp2_with fail
    go_ret
    exact ⟨ret_bool (by rw [HANS.out, H0.out]; simp), X.A.K⟩
  · have H0 := Lib.hid h0
    clear h0
    cases h1 : inB ph 0 8
    · have H1 := Lib.hid h1
      clear h1
      go_wp2_with (first
          | (go_at_call 54; refine (in_any _ _ _ _).mono ?_; rintro e w' ⟨rfl, rfl⟩; first | rw [H1.out]))
      go_ret
      exact ⟨ret_bool (by rw [HANS.out, H0.out, H1.out]; simp), X.A.K⟩
    · have H1 := Lib.hid h1
      clear h1
      by_cases hph : ph = 0
      · subst hph
        cases co
        · have hup : True := trivial
          cases h3 : inB ck 0 1000000
          · have H3 := Lib.hid h3
            clear h3
            go_wp2_with (first
                | (go_at_call 54; refine (in_any _ _ _ _).mono ?_; rintro e w' ⟨rfl, rfl⟩; first | rw [H1.out])
                | (go_at_call 55; refine (field_any_ _ _).mono ?_; rintro e w' ⟨rfl, rfl⟩; first | rw [H3.out]))
            go_ret
            exact ⟨ret_bool (by rw [HANS.out, H0.out, H1.out, H3.out]; simp), X.A.K⟩
          · have H3 := Lib.hid h3
            clear h3
            cases h4 : inB bo 0 1000000
            · have H4 := Lib.hid h4
              clear h4
              go_wp2_with (first
                  | (go_at_call 54; refine (in_any _ _ _ _).mono ?_; rintro e w' ⟨rfl, rfl⟩; first | rw [H1.out])
                  | (go_at_call 55; refine (field_any_ _ _).mono ?_; rintro e w' ⟨rfl, rfl⟩; first | rw [H3.out] | rw [H4.out]))
              go_ret
              exact ⟨ret_bool (by rw [HANS.out, H0.out, H1.out, H3.out, H4.out]; simp), X.A.K⟩
            · have H4 := Lib.hid h4
              clear h4
              cases h5 : inB ba 0 6
              · have H5 := Lib.hid h5
                clear h5
                go_wp2_with (first
                    | (go_at_call 54; refine (in_any _ _ _ _).mono ?_; rintro e w' ⟨rfl, rfl⟩; first | rw [H1.out] | rw [H5.out])
                    | (go_at_call 55; refine (field_any_ _ _).mono ?_; rintro e w' ⟨rfl, rfl⟩; first | rw [H3.out] | rw [H4.out]))
                go_ret
                exact ⟨ret_bool (by rw [HANS.out, H0.out, H1.out, H3.out, H4.out, H5.out]; simp), X.A.K⟩
              · have H5 := Lib.hid h5
                clear h5
                cases h6 : inB lb 0 1000000
                · have H6 := Lib.hid h6
                  clear h6
                  go_wp2_with (first
                      | (go_at_call 54; refine (in_any _ _ _ _).mono ?_; rintro e w' ⟨rfl, rfl⟩; first | rw [H1.out] | rw [H5.out])
                      | (go_at_call 55; refine (field_any_ _ _).mono ?_; rintro e w' ⟨rfl, rfl⟩; first | rw [H3.out] | rw [H4.out] | rw [H6.out]))
                  go_ret
                  exact ⟨ret_bool (by rw [HANS.out, H0.out, H1.out, H3.out, H4.out, H5.out, H6.out]; simp), X.A.K⟩
                · have H6 := Lib.hid h6
                  clear h6
                  cases h7 : inB gd 0 pr
                  · have H7 := Lib.hid h7
                    clear h7
                    go_wp2_with (first
                        | (go_at_call 54; refine (in_any _ _ _ _).mono ?_; rintro e w' ⟨rfl, rfl⟩; first | rw [H1.out] | rw [H5.out] | rw [H7.out])
                        | (go_at_call 55; refine (field_any_ _ _).mono ?_; rintro e w' ⟨rfl, rfl⟩; first | rw [H3.out] | rw [H4.out] | rw [H6.out]))
                    go_ret
                    exact ⟨ret_bool (by rw [HANS.out, H0.out, H1.out, H3.out, H4.out, H5.out, H6.out, H7.out]; simp), X.A.K⟩
                  · have H7 := Lib.hid h7
                    clear h7
                    by_cases ht : pr ≤ d.t
                    · have hup : True := trivial
                      go_wp2_with (first
                          | (go_at_call 54; refine (in_any _ _ _ _).mono ?_; rintro e w' ⟨rfl, rfl⟩; first | rw [H1.out] | rw [H5.out] | rw [H7.out])
                          | (go_at_call 55; refine (field_any_ _ _).mono ?_; rintro e w' ⟨rfl, rfl⟩; first | rw [H3.out] | rw [H4.out] | rw [H6.out])
                          | (go_at_call 56; refine (HPRT.out _ X.A.K).mono ?_; rintro e w9 ⟨rfl, hb9⟩))
                      go_ret
                      exact ⟨ret_bool (by rw [HANS.out, H0.out, H1.out, H3.out, H4.out, H5.out, H6.out, H7.out]; simp [ht]), (X.step hb9).A.K⟩
                    · have ht' : d.t < pr := by omega
                      go_wp2_with (first
                          | (go_at_call 54; refine (in_any _ _ _ _).mono ?_; rintro e w' ⟨rfl, rfl⟩; first | rw [H1.out] | rw [H5.out] | rw [H7.out])
                          | (go_at_call 55; refine (field_any_ _ _).mono ?_; rintro e w' ⟨rfl, rfl⟩; first | rw [H3.out] | rw [H4.out] | rw [H6.out]))
                      go_ret
                      exact ⟨ret_bool (by rw [HANS.out, H0.out, H1.out, H3.out, H4.out, H5.out, H6.out, H7.out]; simp []; intro h; omega), X.A.K⟩
        · have hup : True := trivial
          go_wp2_with (first
              | (go_at_call 54; refine (in_any _ _ _ _).mono ?_; rintro e w' ⟨rfl, rfl⟩; first | rw [H1.out]))
          go_ret
          exact ⟨ret_bool (by rw [HANS.out, H0.out, H1.out]; simp), X.A.K⟩
      · have hphb : (ph != 0) = true := by simp [hph]
        cases co
        · have hup : True := trivial
          go_wp2_with (first
              | (go_at_call 54; refine (in_any _ _ _ _).mono ?_; rintro e w' ⟨rfl, rfl⟩; first | rw [H1.out]))
          go_ret
          exact ⟨ret_bool (by rw [HANS.out, H0.out, H1.out]; simp [hph]), X.A.K⟩
        · have hup : True := trivial
          cases h3 : inB ck 0 1000000
          · have H3 := Lib.hid h3
            clear h3
            go_wp2_with (first
                | (go_at_call 54; refine (in_any _ _ _ _).mono ?_; rintro e w' ⟨rfl, rfl⟩; first | rw [H1.out])
                | (go_at_call 55; refine (field_any_ _ _).mono ?_; rintro e w' ⟨rfl, rfl⟩; first | rw [H3.out]))
            go_ret
            exact ⟨ret_bool (by rw [HANS.out, H0.out, H1.out, H3.out]; simp), X.A.K⟩
          · have H3 := Lib.hid h3
            clear h3
            cases h4 : inB bo 0 1000000
            · have H4 := Lib.hid h4
              clear h4
              go_wp2_with (first
                  | (go_at_call 54; refine (in_any _ _ _ _).mono ?_; rintro e w' ⟨rfl, rfl⟩; first | rw [H1.out])
                  | (go_at_call 55; refine (field_any_ _ _).mono ?_; rintro e w' ⟨rfl, rfl⟩; first | rw [H3.out] | rw [H4.out]))
              go_ret
              exact ⟨ret_bool (by rw [HANS.out, H0.out, H1.out, H3.out, H4.out]; simp), X.A.K⟩
            · have H4 := Lib.hid h4
              clear h4
              cases h5 : inB ba 0 6
              · have H5 := Lib.hid h5
                clear h5
                go_wp2_with (first
                    | (go_at_call 54; refine (in_any _ _ _ _).mono ?_; rintro e w' ⟨rfl, rfl⟩; first | rw [H1.out] | rw [H5.out])
                    | (go_at_call 55; refine (field_any_ _ _).mono ?_; rintro e w' ⟨rfl, rfl⟩; first | rw [H3.out] | rw [H4.out]))
                go_ret
                exact ⟨ret_bool (by rw [HANS.out, H0.out, H1.out, H3.out, H4.out, H5.out]; simp), X.A.K⟩
              · have H5 := Lib.hid h5
                clear h5
                cases h6 : inB lb 0 1000000
                · have H6 := Lib.hid h6
                  clear h6
                  go_wp2_with (first
                      | (go_at_call 54; refine (in_any _ _ _ _).mono ?_; rintro e w' ⟨rfl, rfl⟩; first | rw [H1.out] | rw [H5.out])
                      | (go_at_call 55; refine (field_any_ _ _).mono ?_; rintro e w' ⟨rfl, rfl⟩; first | rw [H3.out] | rw [H4.out] | rw [H6.out]))
                  go_ret
                  exact ⟨ret_bool (by rw [HANS.out, H0.out, H1.out, H3.out, H4.out, H5.out, H6.out]; simp), X.A.K⟩
                · have H6 := Lib.hid h6
                  clear h6
                  cases h7 : inB gd 0 pr
                  · have H7 := Lib.hid h7
                    clear h7
                    go_wp2_with (first
                        | (go_at_call 54; refine (in_any _ _ _ _).mono ?_; rintro e w' ⟨rfl, rfl⟩; first | rw [H1.out] | rw [H5.out] | rw [H7.out])
                        | (go_at_call 55; refine (field_any_ _ _).mono ?_; rintro e w' ⟨rfl, rfl⟩; first | rw [H3.out] | rw [H4.out] | rw [H6.out]))
                    go_ret
                    exact ⟨ret_bool (by rw [HANS.out, H0.out, H1.out, H3.out, H4.out, H5.out, H6.out, H7.out]; simp), X.A.K⟩
                  · have H7 := Lib.hid h7
                    clear h7
                    by_cases ht : pr ≤ d.t
                    · have hup : True := trivial
                      go_wp2_with (first
                          | (go_at_call 54; refine (in_any _ _ _ _).mono ?_; rintro e w' ⟨rfl, rfl⟩; first | rw [H1.out] | rw [H5.out] | rw [H7.out])
                          | (go_at_call 55; refine (field_any_ _ _).mono ?_; rintro e w' ⟨rfl, rfl⟩; first | rw [H3.out] | rw [H4.out] | rw [H6.out])
                          | (go_at_call 56; refine (HPRT.out _ X.A.K).mono ?_; rintro e w9 ⟨rfl, hb9⟩))
                      go_ret
                      exact ⟨ret_bool (by rw [HANS.out, H0.out, H1.out, H3.out, H4.out, H5.out, H6.out, H7.out]; simp [hph, ht]), (X.step hb9).A.K⟩
                    · have ht' : d.t < pr := by omega
                      go_wp2_with (first
                          | (go_at_call 54; refine (in_any _ _ _ _).mono ?_; rintro e w' ⟨rfl, rfl⟩; first | rw [H1.out] | rw [H5.out] | rw [H7.out])
                          | (go_at_call 55; refine (field_any_ _ _).mono ?_; rintro e w' ⟨rfl, rfl⟩; first | rw [H3.out] | rw [H4.out] | rw [H6.out]))
                      go_ret
                      exact ⟨ret_bool (by rw [HANS.out, H0.out, H1.out, H3.out, H4.out, H5.out, H6.out, H7.out]; simp [hph]; intro h; omega), X.A.K⟩
end Go.Proofs.YtdphpjnecjofeaaGreat
