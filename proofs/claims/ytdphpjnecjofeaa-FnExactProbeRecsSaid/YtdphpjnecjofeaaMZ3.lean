/-
  A state as it comes in.
-/
import Derived.Test.YtdphpjnecjofeaaMZ2
import Derived.Test.YtdphpjnecjofeaaMZ0
/- Ui -/
set_option linter.unusedVariables false
namespace Go.Proofs.Ytdphpjnecjofeaa
open Go.RowKit

set_option maxHeartbeats 8000000 in
theorem specStateOk_any (pv sv : Value) (d : PlanD) (s : StD) (w : World) (hp : IsPlan w w.heap.size pv d) (h : IsSt w w.heap.size sv s) :
    Calls Try.prog 27 #[pv, sv] w fun e w' => e = .returned (.bool (stOkB d s)) ∧ Below w.heap.size w w' := by
  have HP := Lib.hid hp
  have HS := Lib.hid h
  obtain ⟨⟨P0, P1, P2, P3, k0, k1, k2, k3, rfl, -, -, -, -⟩, -, -, -, -⟩ := hp
  obtain ⟨⟨A0, A1, A2, A3, c0, c1, c2, c3, rfl, -, -, -, -⟩, -, -, -, -⟩ := h
  have hans := stOkB_parts d s
  have hprt := fun (W : World) (hb : Below w.heap.size w W) => l5Parts_any _ _ d s W ((HP.out.below hb (Nat.le_refl _)).more hb.size) ((HS.out.below hb (Nat.le_refl _)).more hb.size)
  obtain ⟨ph, co, ck, bo, ba, lb, l0, l1, l2, l3, gd, pr⟩ := s
  dsimp only at hans hprt ⊢
  have T0 := Two.start w (planC P0 P1 P2 P3 d.n0 k0 d.n1 k1 d.n2 k2 d.n3 k3 d.l d.p d.t) (stC A0 A1 A2 A3 l0.length c0 l1.length c1 l2.length c2 l3.length c3 ph co ck bo ba lb gd pr) 41 46
  clear HS
  generalize stOkB d ⟨ph, co, ck, bo, ba, lb, l0, l1, l2, l3, gd, pr⟩ = ans at *
  generalize partsB d ⟨ph, co, ck, bo, ba, lb, l0, l1, l2, l3, gd, pr⟩ = okq at *
  have HANS := Lib.hid hans
  have HPRT := Lib.hid hprt
  clear hans hprt
  go_enter Try.func27, Try.ntmps27
  go_wp2_with fail
  refine (spec_planOk_any _ d _ ((HP.out.below T0.A.K (Nat.le_refl _)).more T0.A.K.size)).mono ?_
  rintro e w1 ⟨rfl, hb1⟩
  have X := T0.step hb1
  have hC := X.A.C
  have hD := X.O.C
  clear T0 hb1
  cases h0 : planOkB d
  · have H0 := Lib.hid h0
    clear h0
    go_wp2_with fail
    go_ret
    exact ⟨ret_bool (by rw [HANS.out, H0.out]; simp), X.A.K⟩
  · have H0 := Lib.hid h0
    clear h0
    cases h1 : inB ph 0 8
    · have H1 := Lib.hid h1
      clear h1
      go_wp2_with (first
          | (go_at_call 79; refine (in_any _ _ _ _).mono ?_; rintro e w' ⟨rfl, rfl⟩; first | rw [H1.out]))
      go_ret
      exact ⟨ret_bool (by rw [HANS.out, H0.out, H1.out]; simp), X.A.K⟩
    · have H1 := Lib.hid h1
      clear h1
      by_cases hph : ph = 0
      · subst hph
        cases co
        · have hup : True := trivial
          cases h3 : inB ck 0 1000000
          · have H3 := Lib.hid h3
            clear h3
            go_wp2_with (first
                | (go_at_call 79; refine (in_any _ _ _ _).mono ?_; rintro e w' ⟨rfl, rfl⟩; first | rw [H1.out])
                | (go_at_call 80; refine (field_any_ _ _).mono ?_; rintro e w' ⟨rfl, rfl⟩; first | rw [H3.out]))
            go_ret
            exact ⟨ret_bool (by rw [HANS.out, H0.out, H1.out, H3.out]; simp), X.A.K⟩
          · have H3 := Lib.hid h3
            clear h3
            cases h4 : inB bo 0 1000000
            · have H4 := Lib.hid h4
              clear h4
              go_wp2_with (first
                  | (go_at_call 79; refine (in_any _ _ _ _).mono ?_; rintro e w' ⟨rfl, rfl⟩; first | rw [H1.out])
                  | (go_at_call 80; refine (field_any_ _ _).mono ?_; rintro e w' ⟨rfl, rfl⟩; first | rw [H3.out] | rw [H4.out]))
              go_ret
              exact ⟨ret_bool (by rw [HANS.out, H0.out, H1.out, H3.out, H4.out]; simp), X.A.K⟩
            · have H4 := Lib.hid h4
              clear h4
              cases h5 : inB ba 0 6
              · have H5 := Lib.hid h5
                clear h5
                go_wp2_with (first
                    | (go_at_call 79; refine (in_any _ _ _ _).mono ?_; rintro e w' ⟨rfl, rfl⟩; first | rw [H1.out] | rw [H5.out])
                    | (go_at_call 80; refine (field_any_ _ _).mono ?_; rintro e w' ⟨rfl, rfl⟩; first | rw [H3.out] | rw [H4.out]))
                go_ret
                exact ⟨ret_bool (by rw [HANS.out, H0.out, H1.out, H3.out, H4.out, H5.out]; simp), X.A.K⟩
              · have H5 := Lib.hid h5
                clear h5
                cases h6 : inB lb 0 1000000
                · have H6 := Lib.hid h6
                  clear h6
                  go_wp2_with (first
                      | (go_at_call 79; refine (in_any _ _ _ _).mono ?_; rintro e w' ⟨rfl, rfl⟩; first | rw [H1.out] | rw [H5.out])
                      | (go_at_call 80; refine (field_any_ _ _).mono ?_; rintro e w' ⟨rfl, rfl⟩; first | rw [H3.out] | rw [H4.out] | rw [H6.out]))
                  go_ret
                  exact ⟨ret_bool (by rw [HANS.out, H0.out, H1.out, H3.out, H4.out, H5.out, H6.out]; simp), X.A.K⟩
                · have H6 := Lib.hid h6
                  clear h6
                  cases h7 : inB gd 0 pr
                  · have H7 := Lib.hid h7
                    clear h7
                    go_wp2_with (first
                        | (go_at_call 79; refine (in_any _ _ _ _).mono ?_; rintro e w' ⟨rfl, rfl⟩; first | rw [H1.out] | rw [H5.out] | rw [H7.out])
                        | (go_at_call 80; refine (field_any_ _ _).mono ?_; rintro e w' ⟨rfl, rfl⟩; first | rw [H3.out] | rw [H4.out] | rw [H6.out]))
                    go_ret
                    exact ⟨ret_bool (by rw [HANS.out, H0.out, H1.out, H3.out, H4.out, H5.out, H6.out, H7.out]; simp), X.A.K⟩
                  · have H7 := Lib.hid h7
                    clear h7
                    by_cases ht : pr ≤ d.t
                    · have hup : True := trivial
                      go_wp2_with (first
                          | (go_at_call 79; refine (in_any _ _ _ _).mono ?_; rintro e w' ⟨rfl, rfl⟩; first | rw [H1.out] | rw [H5.out] | rw [H7.out])
                          | (go_at_call 80; refine (field_any_ _ _).mono ?_; rintro e w' ⟨rfl, rfl⟩; first | rw [H3.out] | rw [H4.out] | rw [H6.out])
                          | (go_at_call 81; refine (HPRT.out _ X.A.K).mono ?_; rintro e w9 ⟨rfl, hb9⟩))
                      go_ret
                      exact ⟨ret_bool (by rw [HANS.out, H0.out, H1.out, H3.out, H4.out, H5.out, H6.out, H7.out]; simp [ht]), (X.step hb9).A.K⟩
                    · have ht' : d.t < pr := by omega
                      go_wp2_with (first
                          | (go_at_call 79; refine (in_any _ _ _ _).mono ?_; rintro e w' ⟨rfl, rfl⟩; first | rw [H1.out] | rw [H5.out] | rw [H7.out])
                          | (go_at_call 80; refine (field_any_ _ _).mono ?_; rintro e w' ⟨rfl, rfl⟩; first | rw [H3.out] | rw [H4.out] | rw [H6.out]))
                      go_ret
                      exact ⟨ret_bool (by rw [HANS.out, H0.out, H1.out, H3.out, H4.out, H5.out, H6.out, H7.out]; simp []; intro h; omega), X.A.K⟩
        · have hup : True := trivial
          go_wp2_with (first
              | (go_at_call 79; refine (in_any _ _ _ _).mono ?_; rintro e w' ⟨rfl, rfl⟩; first | rw [H1.out]))
          go_ret
          exact ⟨ret_bool (by rw [HANS.out, H0.out, H1.out]; simp), X.A.K⟩
      · have hphb : (ph != 0) = true := by simp [hph]
        cases co
        · have hup : True := trivial
          go_wp2_with (first
              | (go_at_call 79; refine (in_any _ _ _ _).mono ?_; rintro e w' ⟨rfl, rfl⟩; first | rw [H1.out]))
          go_ret
          exact ⟨ret_bool (by rw [HANS.out, H0.out, H1.out]; simp [hph]), X.A.K⟩
        · have hup : True := trivial
          cases h3 : inB ck 0 1000000
          · have H3 := Lib.hid h3
            clear h3
            go_wp2_with (first
                | (go_at_call 79; refine (in_any _ _ _ _).mono ?_; rintro e w' ⟨rfl, rfl⟩; first | rw [H1.out])
                | (go_at_call 80; refine (field_any_ _ _).mono ?_; rintro e w' ⟨rfl, rfl⟩; first | rw [H3.out]))
            go_ret
            exact ⟨ret_bool (by rw [HANS.out, H0.out, H1.out, H3.out]; simp), X.A.K⟩
          · have H3 := Lib.hid h3
            clear h3
            cases h4 : inB bo 0 1000000
            · have H4 := Lib.hid h4
              clear h4
              go_wp2_with (first
                  | (go_at_call 79; refine (in_any _ _ _ _).mono ?_; rintro e w' ⟨rfl, rfl⟩; first | rw [H1.out])
                  | (go_at_call 80; refine (field_any_ _ _).mono ?_; rintro e w' ⟨rfl, rfl⟩; first | rw [H3.out] | rw [H4.out]))
              go_ret
              exact ⟨ret_bool (by rw [HANS.out, H0.out, H1.out, H3.out, H4.out]; simp), X.A.K⟩
            · have H4 := Lib.hid h4
              clear h4
              cases h5 : inB ba 0 6
              · have H5 := Lib.hid h5
                clear h5
                go_wp2_with (first
                    | (go_at_call 79; refine (in_any _ _ _ _).mono ?_; rintro e w' ⟨rfl, rfl⟩; first | rw [H1.out] | rw [H5.out])
                    | (go_at_call 80; refine (field_any_ _ _).mono ?_; rintro e w' ⟨rfl, rfl⟩; first | rw [H3.out] | rw [H4.out]))
                go_ret
                exact ⟨ret_bool (by rw [HANS.out, H0.out, H1.out, H3.out, H4.out, H5.out]; simp), X.A.K⟩
              · have H5 := Lib.hid h5
                clear h5
                cases h6 : inB lb 0 1000000
                · have H6 := Lib.hid h6
                  clear h6
                  go_wp2_with (first
                      | (go_at_call 79; refine (in_any _ _ _ _).mono ?_; rintro e w' ⟨rfl, rfl⟩; first | rw [H1.out] | rw [H5.out])
                      | (go_at_call 80; refine (field_any_ _ _).mono ?_; rintro e w' ⟨rfl, rfl⟩; first | rw [H3.out] | rw [H4.out] | rw [H6.out]))
                  go_ret
                  exact ⟨ret_bool (by rw [HANS.out, H0.out, H1.out, H3.out, H4.out, H5.out, H6.out]; simp), X.A.K⟩
                · have H6 := Lib.hid h6
                  clear h6
                  cases h7 : inB gd 0 pr
                  · have H7 := Lib.hid h7
                    clear h7
                    go_wp2_with (first
                        | (go_at_call 79; refine (in_any _ _ _ _).mono ?_; rintro e w' ⟨rfl, rfl⟩; first | rw [H1.out] | rw [H5.out] | rw [H7.out])
                        | (go_at_call 80; refine (field_any_ _ _).mono ?_; rintro e w' ⟨rfl, rfl⟩; first | rw [H3.out] | rw [H4.out] | rw [H6.out]))
                    go_ret
                    exact ⟨ret_bool (by rw [HANS.out, H0.out, H1.out, H3.out, H4.out, H5.out, H6.out, H7.out]; simp), X.A.K⟩
                  · have H7 := Lib.hid h7
                    clear h7
                    by_cases ht : pr ≤ d.t
                    · have hup : True := trivial
                      go_wp2_with (first
                          | (go_at_call 79; refine (in_any _ _ _ _).mono ?_; rintro e w' ⟨rfl, rfl⟩; first | rw [H1.out] | rw [H5.out] | rw [H7.out])
                          | (go_at_call 80; refine (field_any_ _ _).mono ?_; rintro e w' ⟨rfl, rfl⟩; first | rw [H3.out] | rw [H4.out] | rw [H6.out])
                          | (go_at_call 81; refine (HPRT.out _ X.A.K).mono ?_; rintro e w9 ⟨rfl, hb9⟩))
                      go_ret
                      exact ⟨ret_bool (by rw [HANS.out, H0.out, H1.out, H3.out, H4.out, H5.out, H6.out, H7.out]; simp [hph, ht]), (X.step hb9).A.K⟩
                    · have ht' : d.t < pr := by omega
                      go_wp2_with (first
                          | (go_at_call 79; refine (in_any _ _ _ _).mono ?_; rintro e w' ⟨rfl, rfl⟩; first | rw [H1.out] | rw [H5.out] | rw [H7.out])
                          | (go_at_call 80; refine (field_any_ _ _).mono ?_; rintro e w' ⟨rfl, rfl⟩; first | rw [H3.out] | rw [H4.out] | rw [H6.out]))
                      go_ret
                      exact ⟨ret_bool (by rw [HANS.out, H0.out, H1.out, H3.out, H4.out, H5.out, H6.out, H7.out]; simp [hph]; intro h; omega), X.A.K⟩
end Go.Proofs.Ytdphpjnecjofeaa
/- Ug -/
set_option linter.unusedVariables false
namespace Go.Proofs.Ytdphpjnecjofeaa
open Go.ChangeShapes Go.WideShapes Go.ChangeAt Go.RowKit Go.Deep

theorem podCs_map (X : Nat → Int) (n : Nat) {j : Nat} (hj : j < n * 2) : (podCs ((List.range n).map fun i => (X (i * 2), X (i * 2 + 1))))[j]? = some (.int .i64 (X j)) := by
  have hi : j / 2 < ((List.range n).map fun i => (X (i * 2), X (i * 2 + 1))).length := by simp; omega
  obtain ⟨p0, p1⟩ := podCs_at _ hi
  have e : podA ((List.range n).map fun i => (X (i * 2), X (i * 2 + 1))) (j / 2) = (X (j / 2 * 2), X (j / 2 * 2 + 1)) := by simp [podA, List.getD, show j / 2 < n by omega]
  rw [e] at p0 p1
  dsimp only at p0 p1
  rcases (by omega : j = j / 2 * 2 ∨ j = j / 2 * 2 + 1) with h | h
  · rw [← h] at p0; exact p0
  · rw [← h] at p1; exact p1
theorem slv_pods {w : World} {B n : Nat} {A : Option Addr} {X : Nat → Int} (h : Sl w B 2 A n X) : SlV w B 2 A n (podCs ((List.range n).map fun i => (X (i * 2), X (i * 2 + 1)))) := by
  refine ⟨by rw [podCs_len]; simp, fun hn => ?_⟩
  obtain ⟨b, off, rfl, hb, hc⟩ := h hn
  exact ⟨b, off, rfl, hb, fun j hj => by rw [hc j hj, podCs_map X n hj]⟩
theorem slv_ints {w : World} {B n : Nat} {A : Option Addr} {X : Nat → Int} (h : Sl w B 1 A n X) : SlV w B 1 A n (lkCs ((List.range n).map X)) := by
  refine ⟨by rw [lkCs_len]; simp, fun hn => ?_⟩
  obtain ⟨b, off, rfl, hb, hc⟩ := h hn
  exact ⟨b, off, rfl, hb, fun j hj => by rw [hc j hj]; simp [lkCs, show j < n by omega]⟩

section
variable {H : Type} {enc : TypeId × Value → H} {P : Program} {w : World} {spare : Nat → Bool} {held : Bool}
/-- A slice of bools. -/
theorem slv_bools {t e : TypeId} {fuel : Nat} {v : Value} {x : DataW H × List MemPlace} (ht : P.underlying t = some (.slice e)) (he : P.underlying e = some .bool) (hC : P.cellsOf e = 1)
    (h : DataW.trod enc P w 0 spare held fuel t [v] = some x) : ∃ A c l, v = .slice A (List.length l) c ∧ l.length ≤ maxLen ∧ SlV w w.heap.size 1 A l.length (devCs l) := by
  rcases open_slice1 ht hC h with ⟨h1, _⟩ | ⟨a, len, cap, m, n, V, D, Pl, hcs, hb, hl, hm, hmm, hx, hi⟩
  · injection h1 with h1 _
    exact ⟨none, 0, [], h1, Nat.zero_le _, SlV.nil _ _ _ _⟩
  · injection hcs with hv _
    have hlm : len ≤ m := by rw [hmm]; split <;> omega
    obtain ⟨F, hF⟩ := choose_lt (α := Bool) (n := len) (p := fun i q => w.cell? (a.add i) = some (.bool q)) (fun i hin => by
      obtain ⟨h1, h2⟩ := hi i (by omega)
      obtain ⟨b, hb, _⟩ := DataW.trod_bool he h2
      injection hb with hb _
      exact ⟨b, by rw [h1, hb]⟩)
    have hlen : ((List.range len).map F).length = len := by simp
    refine ⟨some a, cap, (List.range len).map F, by rw [hlen]; exact hv, by rw [hlen]; exact Nat.le_trans hl hm, ⟨devCs_len _, fun hn => ?_⟩⟩
    rw [hlen] at hn ⊢
    have hsp : a.spot = none := by
      have := hF 0 hn
      simpa [Addr.add] using World.cell?_spot this
    obtain ⟨b, off, sp⟩ := a
    subst hsp
    have h0 := hF 0 hn
    rw [add_plain] at h0
    refine ⟨b, off, rfl, block_lt_of_cell h0, fun j hj => ?_⟩
    have := hF j (by omega)
    rw [add_plain] at this
    rw [this]
    simp [devCs, show j < len by omega]
/-- A slice of structs of a bool and an int64. -/
theorem slv_mnts {t e : TypeId} {fs : Array Field} {fuel : Nat} {v : Value} {x : DataW H × List MemPlace} (ht : P.underlying t = some (.slice e)) (he : P.underlying e = some (.struct fs))
    (hone : oneCellFields P fs = true) (hC : P.cellsOf e = 2) {f0 f1 : Field} (hf0 : fs[0]? = some f0) (hf1 : fs[1]? = some f1) (t0 : P.underlying f0.type = some .bool) (t1 : P.underlying f1.type = some (.int .i64))
    (h : DataW.trod enc P w 0 spare held fuel t [v] = some x) : ∃ A c l, v = .slice A (List.length l) c ∧ l.length ≤ maxLen ∧ SlV w w.heap.size 2 A l.length (mntCs l) := by
  rcases open_slice ht h with ⟨h1, _⟩ | ⟨a, len, cap, m, n, D, Pl, hcs, hb, hl, hm, hmm, hx, hi⟩
  · injection h1 with h1 _
    exact ⟨none, 0, [], h1, Nat.zero_le _, SlV.nil _ _ _ _⟩
  · injection hcs with hv _
    have hlm : len ≤ m := by rw [hmm]; split <;> omega
    obtain ⟨F, hF⟩ := choose_lt (α := Bool × Int) (n := len) (p := fun i q => w.cell? ((a.add (i * 2)).add 0) = some (.bool q.1) ∧ w.cell? ((a.add (i * 2)).add 1) = some (.int .i64 q.2)) (fun i hin => by
      obtain ⟨cs', hc, ht'⟩ := hi i (by omega)
      rw [hC] at hc
      obtain ⟨ys, n', _, hy, hlen, hyl, hf⟩ := DataW.trod_struct he ht'
      obtain ⟨_, hcl, hat⟩ := World.cells?_some hc
      have hone' : ∀ j, (hj : j < 2) → (cs'.drop j).take 1 = [cs'[j]'(by omega)] := fun j hj => by
        rw [List.drop_eq_getElem_cons (by omega)]
        rfl
      obtain ⟨o0, k0⟩ := hone_of hone 0 f0 hf0
      obtain ⟨o1, k1⟩ := hone_of hone 1 f1 hf1
      have h0 := hf 0 f0 hf0
      have h1 := hf 1 f1 hf1
      have ys2 : ys.length = fs.size := hyl
      have hs2 : 1 < fs.size := (Array.getElem?_eq_some_iff.1 hf1).1
      rw [o0, k0, hone' 0 (by omega), List.getElem?_eq_getElem (by omega)] at h0
      rw [o1, k1, hone' 1 (by omega), List.getElem?_eq_getElem (by omega)] at h1
      obtain ⟨b, hb, _⟩ := DataW.trod_bool t0 h0
      obtain ⟨z, hz, _, _⟩ := DataW.trod_int t1 h1
      injection hb with hb _
      injection hz with hz _
      exact ⟨(b, z), by rw [hat 0 (by omega), List.getElem?_eq_getElem (by omega), hb], by rw [hat 1 (by omega), List.getElem?_eq_getElem (by omega), hz]⟩)
    have hlen : ((List.range len).map F).length = len := by simp
    refine ⟨some a, cap, (List.range len).map F, by rw [hlen]; exact hv, by rw [hlen]; exact Nat.le_trans hl hm, ⟨mntCs_len _, fun hn => ?_⟩⟩
    rw [hlen] at hn ⊢
    have hsp : a.spot = none := by
      have := (hF 0 hn).1
      simpa [Addr.add] using World.cell?_spot this
    obtain ⟨b, off, sp⟩ := a
    subst hsp
    have h0 := (hF 0 hn).1
    rw [add_plain, add_plain] at h0
    refine ⟨b, off, rfl, block_lt_of_cell h0, fun j hj => ?_⟩
    have hjl : j / 2 < ((List.range len).map F).length := by rw [hlen]; omega
    obtain ⟨p0, p1⟩ := mntCs_at _ hjl
    have e : mntA ((List.range len).map F) (j / 2) = F (j / 2) := by simp [mntA, List.getD, show j / 2 < len by omega]
    rw [e] at p0 p1
    have hh := hF (j / 2) (by omega)
    rw [add_plain, add_plain, add_plain] at hh
    rcases (by omega : j = j / 2 * 2 ∨ j = j / 2 * 2 + 1) with h | h
    · rw [← h] at p0 hh
      rw [p0]
      have := hh.1
      rwa [Nat.add_zero] at this
    · rw [← h] at p1
      rw [p1]
      have := hh.2
      rwa [Nat.add_assoc, ← h] at this
end

theorem fields_state : ∃ fs, Try.prog.underlying 32 = some (.struct fs) ∧ oneCellFields Try.prog fs = true ∧ Try.prog.cellsOf 32 = fs.size ∧ fs.size = 12 ∧
    fs.map (·.type) = #[2, 4, 2, 2, 2, 2, 28, 29, 30, 23, 2, 2] :=
  ⟨_, Try.underlying32, by kernel_rfl, by kernel_rfl, by kernel_rfl, by kernel_rfl⟩
theorem fs_podAt : ∃ fs, Try.prog.underlying 127 = some (.struct fs) ∧ oneCellFields Try.prog fs = true ∧ intFields Try.prog fs = true ∧ fs.size = 2 := ⟨_, Try.underlying127, by kernel_rfl, by kernel_rfl, by kernel_rfl⟩
theorem fs_mntAt : ∃ fs, Try.prog.underlying 129 = some (.struct fs) ∧ oneCellFields Try.prog fs = true ∧ fs.map (·.type) = #[4, 2] := ⟨_, Try.underlying129, by kernel_rfl, by kernel_rfl⟩

set_option maxRecDepth 100000 in
theorem open_state {H : Type} {enc : TypeId × Value → H} {W : World} {spare : Nat → Bool} {held : Bool} {r : Reach} {b0 : Nat} {v : Value} {d : DataW H} {p : List MemPlace}
    (hv : Value.okWide Try.prog W r b0 32 v) (h : DataW.Trod enc Try.prog W 0 spare held 32 v d p) : ∃ s : StD, IsSt W W.heap.size v s := by
  obtain ⟨fs, hu, hone, hC, h12, hts⟩ := fields_state
  obtain ⟨cs, rfl, hsz, n, hf⟩ := agg_of_trod hu hone hC hv h
  rw [h12] at hsz
  obtain ⟨f0, j0, t0⟩ := at_of_map hts (j := 0) rfl
  obtain ⟨y0, h0⟩ := hf 0 f0 j0
  rw [t0] at h0
  obtain ⟨f1, j1, t1⟩ := at_of_map hts (j := 1) rfl
  obtain ⟨y1, h1⟩ := hf 1 f1 j1
  rw [t1] at h1
  obtain ⟨f2, j2, t2⟩ := at_of_map hts (j := 2) rfl
  obtain ⟨y2, h2⟩ := hf 2 f2 j2
  rw [t2] at h2
  obtain ⟨f3, j3, t3⟩ := at_of_map hts (j := 3) rfl
  obtain ⟨y3, h3⟩ := hf 3 f3 j3
  rw [t3] at h3
  obtain ⟨f4, j4, t4⟩ := at_of_map hts (j := 4) rfl
  obtain ⟨y4, h4⟩ := hf 4 f4 j4
  rw [t4] at h4
  obtain ⟨f5, j5, t5⟩ := at_of_map hts (j := 5) rfl
  obtain ⟨y5, h5⟩ := hf 5 f5 j5
  rw [t5] at h5
  obtain ⟨f6, j6, t6⟩ := at_of_map hts (j := 6) rfl
  obtain ⟨y6, h6⟩ := hf 6 f6 j6
  rw [t6] at h6
  obtain ⟨f7, j7, t7⟩ := at_of_map hts (j := 7) rfl
  obtain ⟨y7, h7⟩ := hf 7 f7 j7
  rw [t7] at h7
  obtain ⟨f8, j8, t8⟩ := at_of_map hts (j := 8) rfl
  obtain ⟨y8, h8⟩ := hf 8 f8 j8
  rw [t8] at h8
  obtain ⟨f9, j9, t9⟩ := at_of_map hts (j := 9) rfl
  obtain ⟨y9, h9⟩ := hf 9 f9 j9
  rw [t9] at h9
  obtain ⟨f10, j10, t10⟩ := at_of_map hts (j := 10) rfl
  obtain ⟨y10, h10⟩ := hf 10 f10 j10
  rw [t10] at h10
  obtain ⟨f11, j11, t11⟩ := at_of_map hts (j := 11) rfl
  obtain ⟨y11, h11⟩ := hf 11 f11 j11
  rw [t11] at h11
  obtain ⟨z0, e0, _, _⟩ := DataW.trod_int Try.underlying2 h0
  injection e0 with e0 _
  obtain ⟨z1, e1, _⟩ := DataW.trod_bool Try.underlying4 h1
  injection e1 with e1 _
  obtain ⟨z2, e2, _, _⟩ := DataW.trod_int Try.underlying2 h2
  injection e2 with e2 _
  obtain ⟨z3, e3, _, _⟩ := DataW.trod_int Try.underlying2 h3
  injection e3 with e3 _
  obtain ⟨z4, e4, _, _⟩ := DataW.trod_int Try.underlying2 h4
  injection e4 with e4 _
  obtain ⟨z5, e5, _, _⟩ := DataW.trod_int Try.underlying2 h5
  injection e5 with e5 _
  obtain ⟨z10, e10, _, _⟩ := DataW.trod_int Try.underlying2 h10
  injection e10 with e10 _
  obtain ⟨z11, e11, _, _⟩ := DataW.trod_int Try.underlying2 h11
  injection e11 with e11 _
  obtain ⟨ps, ps1, ps2, ps3, ps4⟩ := fs_podAt
  obtain ⟨ms, ms1, ms2, ms3⟩ := fs_mntAt
  obtain ⟨q0, i0, u0⟩ := at_of_map ms3 (j := 0) rfl
  obtain ⟨q1, i1, u1⟩ := at_of_map ms3 (j := 1) rfl
  obtain ⟨A6, n6, c6, X6, e6, b6, s6⟩ := sl_structs Try.underlying28 ps1 ps2 ps3 (by kernel_rfl) ps4 (by omega) h6
  obtain ⟨A7, c7, l7, e7, b7, s7⟩ := slv_mnts Try.underlying29 ms1 ms2 (by kernel_rfl) i0 i1 (by rw [u0]; exact Try.underlying4) (by rw [u1]; exact Try.underlying2) h7
  obtain ⟨A8, c8, l8, e8, b8, s8⟩ := slv_bools Try.underlying30 Try.underlying4 (by kernel_rfl) h8
  obtain ⟨A9, n9, c9, X9, e9, b9, s9⟩ := sl_ints Try.underlying23 Try.underlying2 (by kernel_rfl) h9
  have k6 : ((List.range n6).map fun i => (X6 (i * 2), X6 (i * 2 + 1))).length = n6 := by simp
  have k9 : ((List.range n9).map X9).length = n9 := by simp
  refine ⟨⟨z0, z1, z2, z3, z4, z5, (List.range n6).map fun i => (X6 (i * 2), X6 (i * 2 + 1)), l7, l8, (List.range n9).map X9, z10, z11⟩, ⟨A6, A7, A8, A9, c6, c7, c8, c9, ?_, by rw [k6]; exact slv_pods s6, s7, s8, by rw [k9]; exact slv_ints s9⟩, by rw [k6]; exact b6, b7, b8, by rw [k9]; exact b9⟩
  dsimp only
  rw [k6, k9]
  congr 1
  apply Array.ext (by simp [hsz])
  intro i hi _
  match i, hi with
  | 0, _ => exact e0
  | 1, _ => exact e1
  | 2, _ => exact e2
  | 3, _ => exact e3
  | 4, _ => exact e4
  | 5, _ => exact e5
  | 6, _ => exact e6
  | 7, _ => exact e7
  | 8, _ => exact e8
  | 9, _ => exact e9
  | 10, _ => exact e10
  | 11, _ => exact e11
  | k + 12, hi => omega
end Go.Proofs.Ytdphpjnecjofeaa
