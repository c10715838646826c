/-
  RecBytes of the model.
-/
import Derived.Test.YtkefbmbjkijilaaGreatDoorMZ4
import Derived.Deep.RegionHeld3
import Derived.Test.YtkefbmbjkijilaaGreatDoorMZ0
import Derived.Test.YtkefbmbjkijilaaGreatDoorMZ3
import Derived.Test.YtkefbmbjkijilaaGreatDoorMZ2
import Derived.Deep.AppendLies
/- Ui -/
set_option linter.unusedVariables false
namespace Go.Proofs.YtkefbmbjkijilaaGreatDoor
open Go.RowKit

set_option maxHeartbeats 8000000 in
theorem specStateOk_any (pv sv : Value) (d : PlanD) (s : StD) (w : World) (hp : IsPlan w w.heap.size pv d) (h : IsSt w w.heap.size sv s) :
    Calls Tryz.prog 111 #[pv, sv] w fun e w' => e = .returned (.bool (stOkB d s)) ∧ Below w.heap.size w w' := by
  have HP := Lib.hid hp
  have HS := Lib.hid h
  obtain ⟨⟨P0, P1, P2, P3, k0, k1, k2, k3, rfl, -, -, -, -⟩, -, -, -, -⟩ := hp
  obtain ⟨⟨A0, A1, A2, A3, c0, c1, c2, c3, rfl, -, -, -, -⟩, -, -, -, -⟩ := h
  have hans := stOkB_parts d s
  have hprt := fun (W : World) (hb : Below w.heap.size w W) => l5Parts_any _ _ d s W ((HP.out.below hb (Nat.le_refl _)).more hb.size) ((HS.out.below hb (Nat.le_refl _)).more hb.size)
  obtain ⟨ph, co, ck, bo, ba, lb, l0, l1, l2, l3, gd, pr⟩ := s
  dsimp only at hans hprt ⊢
  have T0 := Two.start w (planC P0 P1 P2 P3 d.n0 k0 d.n1 k1 d.n2 k2 d.n3 k3 d.l d.p d.t) (stC A0 A1 A2 A3 l0.length c0 l1.length c1 l2.length c2 l3.length c3 ph co ck bo ba lb gd pr) 42 46
  clear HS
  generalize stOkB d ⟨ph, co, ck, bo, ba, lb, l0, l1, l2, l3, gd, pr⟩ = ans at *
  generalize partsB d ⟨ph, co, ck, bo, ba, lb, l0, l1, l2, l3, gd, pr⟩ = okq at *
  have HANS := Lib.hid hans
  have HPRT := Lib.hid hprt
  clear hans hprt
  go_enter Tryz.func111, Tryz.ntmps111
  go_wp2_with fail
  refine (spec_planOk_any _ d _ ((HP.out.below T0.A.K (Nat.le_refl _)).more T0.A.K.size)).mono ?_
  rintro e w1 ⟨rfl, hb1⟩
  have X := T0.step hb1
  have hC := X.A.C
  have hD := X.O.C
  clear T0 hb1
  cases h0 : planOkB d
  · have H0 := Lib.hid h0
    clear h0
    go_wp2_with fail
    go_ret
    exact ⟨ret_bool (by rw [HANS.out, H0.out]; simp), X.A.K⟩
  · have H0 := Lib.hid h0
    clear h0
    cases h1 : inB ph 0 8
    · have H1 := Lib.hid h1
      clear h1
      go_wp2_with (first
          | (go_at_call 63; refine (in_any _ _ _ _).mono ?_; rintro e w' ⟨rfl, rfl⟩; first | rw [H1.out]))
      go_ret
      exact ⟨ret_bool (by rw [HANS.out, H0.out, H1.out]; simp), X.A.K⟩
    · have H1 := Lib.hid h1
      clear h1
      by_cases hph : ph = 0
      · subst hph
        cases co
        · have hup : True := trivial
          cases h3 : inB ck 0 1000000
          · have H3 := Lib.hid h3
            clear h3
            go_wp2_with (first
                | (go_at_call 63; refine (in_any _ _ _ _).mono ?_; rintro e w' ⟨rfl, rfl⟩; first | rw [H1.out])
                | (go_at_call 142; refine (field_any_ _ _).mono ?_; rintro e w' ⟨rfl, rfl⟩; first | rw [H3.out]))
            go_ret
            exact ⟨ret_bool (by rw [HANS.out, H0.out, H1.out, H3.out]; simp), X.A.K⟩
          · have H3 := Lib.hid h3
            clear h3
            cases h4 : inB bo 0 1000000
            · have H4 := Lib.hid h4
              clear h4
              go_wp2_with (first
                  | (go_at_call 63; refine (in_any _ _ _ _).mono ?_; rintro e w' ⟨rfl, rfl⟩; first | rw [H1.out])
                  | (go_at_call 142; refine (field_any_ _ _).mono ?_; rintro e w' ⟨rfl, rfl⟩; first | rw [H3.out] | rw [H4.out]))
              go_ret
              exact ⟨ret_bool (by rw [HANS.out, H0.out, H1.out, H3.out, H4.out]; simp), X.A.K⟩
            · have H4 := Lib.hid h4
              clear h4
              cases h5 : inB ba 0 6
              · have H5 := Lib.hid h5
                clear h5
                go_wp2_with (first
                    | (go_at_call 63; refine (in_any _ _ _ _).mono ?_; rintro e w' ⟨rfl, rfl⟩; first | rw [H1.out] | rw [H5.out])
                    | (go_at_call 142; refine (field_any_ _ _).mono ?_; rintro e w' ⟨rfl, rfl⟩; first | rw [H3.out] | rw [H4.out]))
                go_ret
                exact ⟨ret_bool (by rw [HANS.out, H0.out, H1.out, H3.out, H4.out, H5.out]; simp), X.A.K⟩
              · have H5 := Lib.hid h5
                clear h5
                cases h6 : inB lb 0 1000000
                · have H6 := Lib.hid h6
                  clear h6
                  go_wp2_with (first
                      | (go_at_call 63; refine (in_any _ _ _ _).mono ?_; rintro e w' ⟨rfl, rfl⟩; first | rw [H1.out] | rw [H5.out])
                      | (go_at_call 142; refine (field_any_ _ _).mono ?_; rintro e w' ⟨rfl, rfl⟩; first | rw [H3.out] | rw [H4.out] | rw [H6.out]))
                  go_ret
                  exact ⟨ret_bool (by rw [HANS.out, H0.out, H1.out, H3.out, H4.out, H5.out, H6.out]; simp), X.A.K⟩
                · have H6 := Lib.hid h6
                  clear h6
                  cases h7 : inB gd 0 pr
                  · have H7 := Lib.hid h7
                    clear h7
                    go_wp2_with (first
                        | (go_at_call 63; refine (in_any _ _ _ _).mono ?_; rintro e w' ⟨rfl, rfl⟩; first | rw [H1.out] | rw [H5.out] | rw [H7.out])
                        | (go_at_call 142; refine (field_any_ _ _).mono ?_; rintro e w' ⟨rfl, rfl⟩; first | rw [H3.out] | rw [H4.out] | rw [H6.out]))
                    go_ret
                    exact ⟨ret_bool (by rw [HANS.out, H0.out, H1.out, H3.out, H4.out, H5.out, H6.out, H7.out]; simp), X.A.K⟩
                  · have H7 := Lib.hid h7
                    clear h7
                    by_cases ht : pr ≤ d.t
                    · have hup : True := trivial
                      go_wp2_with (first
                          | (go_at_call 63; refine (in_any _ _ _ _).mono ?_; rintro e w' ⟨rfl, rfl⟩; first | rw [H1.out] | rw [H5.out] | rw [H7.out])
                          | (go_at_call 142; refine (field_any_ _ _).mono ?_; rintro e w' ⟨rfl, rfl⟩; first | rw [H3.out] | rw [H4.out] | rw [H6.out])
                          | (go_at_call 145; refine (HPRT.out _ X.A.K).mono ?_; rintro e w9 ⟨rfl, hb9⟩))
                      go_ret
                      exact ⟨ret_bool (by rw [HANS.out, H0.out, H1.out, H3.out, H4.out, H5.out, H6.out, H7.out]; simp [ht]), (X.step hb9).A.K⟩
                    · have ht' : d.t < pr := by omega
                      go_wp2_with (first
                          | (go_at_call 63; refine (in_any _ _ _ _).mono ?_; rintro e w' ⟨rfl, rfl⟩; first | rw [H1.out] | rw [H5.out] | rw [H7.out])
                          | (go_at_call 142; refine (field_any_ _ _).mono ?_; rintro e w' ⟨rfl, rfl⟩; first | rw [H3.out] | rw [H4.out] | rw [H6.out]))
                      go_ret
                      exact ⟨ret_bool (by rw [HANS.out, H0.out, H1.out, H3.out, H4.out, H5.out, H6.out, H7.out]; simp []; intro h; omega), X.A.K⟩
        · have hup : True := trivial
          go_wp2_with (first
              | (go_at_call 63; refine (in_any _ _ _ _).mono ?_; rintro e w' ⟨rfl, rfl⟩; first | rw [H1.out]))
          go_ret
          exact ⟨ret_bool (by rw [HANS.out, H0.out, H1.out]; simp), X.A.K⟩
      · have hphb : (ph != 0) = true := by simp [hph]
        cases co
        · have hup : True := trivial
          go_wp2_with (first
              | (go_at_call 63; refine (in_any _ _ _ _).mono ?_; rintro e w' ⟨rfl, rfl⟩; first | rw [H1.out]))
          go_ret
          exact ⟨ret_bool (by rw [HANS.out, H0.out, H1.out]; simp [hph]), X.A.K⟩
        · have hup : True := trivial
          cases h3 : inB ck 0 1000000
          · have H3 := Lib.hid h3
            clear h3
            go_wp2_with (first
                | (go_at_call 63; refine (in_any _ _ _ _).mono ?_; rintro e w' ⟨rfl, rfl⟩; first | rw [H1.out])
                | (go_at_call 142; refine (field_any_ _ _).mono ?_; rintro e w' ⟨rfl, rfl⟩; first | rw [H3.out]))
            go_ret
            exact ⟨ret_bool (by rw [HANS.out, H0.out, H1.out, H3.out]; simp), X.A.K⟩
          · have H3 := Lib.hid h3
            clear h3
            cases h4 : inB bo 0 1000000
            · have H4 := Lib.hid h4
              clear h4
              go_wp2_with (first
                  | (go_at_call 63; refine (in_any _ _ _ _).mono ?_; rintro e w' ⟨rfl, rfl⟩; first | rw [H1.out])
                  | (go_at_call 142; refine (field_any_ _ _).mono ?_; rintro e w' ⟨rfl, rfl⟩; first | rw [H3.out] | rw [H4.out]))
              go_ret
              exact ⟨ret_bool (by rw [HANS.out, H0.out, H1.out, H3.out, H4.out]; simp), X.A.K⟩
            · have H4 := Lib.hid h4
              clear h4
              cases h5 : inB ba 0 6
              · have H5 := Lib.hid h5
                clear h5
                go_wp2_with (first
                    | (go_at_call 63; refine (in_any _ _ _ _).mono ?_; rintro e w' ⟨rfl, rfl⟩; first | rw [H1.out] | rw [H5.out])
                    | (go_at_call 142; refine (field_any_ _ _).mono ?_; rintro e w' ⟨rfl, rfl⟩; first | rw [H3.out] | rw [H4.out]))
                go_ret
                exact ⟨ret_bool (by rw [HANS.out, H0.out, H1.out, H3.out, H4.out, H5.out]; simp), X.A.K⟩
              · have H5 := Lib.hid h5
                clear h5
                cases h6 : inB lb 0 1000000
                · have H6 := Lib.hid h6
                  clear h6
                  go_wp2_with (first
                      | (go_at_call 63; refine (in_any _ _ _ _).mono ?_; rintro e w' ⟨rfl, rfl⟩; first | rw [H1.out] | rw [H5.out])
                      | (go_at_call 142; refine (field_any_ _ _).mono ?_; rintro e w' ⟨rfl, rfl⟩; first | rw [H3.out] | rw [H4.out] | rw [H6.out]))
                  go_ret
                  exact ⟨ret_bool (by rw [HANS.out, H0.out, H1.out, H3.out, H4.out, H5.out, H6.out]; simp), X.A.K⟩
                · have H6 := Lib.hid h6
                  clear h6
                  cases h7 : inB gd 0 pr
                  · have H7 := Lib.hid h7
                    clear h7
                    go_wp2_with (first
                        | (go_at_call 63; refine (in_any _ _ _ _).mono ?_; rintro e w' ⟨rfl, rfl⟩; first | rw [H1.out] | rw [H5.out] | rw [H7.out])
                        | (go_at_call 142; refine (field_any_ _ _).mono ?_; rintro e w' ⟨rfl, rfl⟩; first | rw [H3.out] | rw [H4.out] | rw [H6.out]))
                    go_ret
                    exact ⟨ret_bool (by rw [HANS.out, H0.out, H1.out, H3.out, H4.out, H5.out, H6.out, H7.out]; simp), X.A.K⟩
                  · have H7 := Lib.hid h7
                    clear h7
                    by_cases ht : pr ≤ d.t
                    · have hup : True := trivial
                      go_wp2_with (first
                          | (go_at_call 63; refine (in_any _ _ _ _).mono ?_; rintro e w' ⟨rfl, rfl⟩; first | rw [H1.out] | rw [H5.out] | rw [H7.out])
                          | (go_at_call 142; refine (field_any_ _ _).mono ?_; rintro e w' ⟨rfl, rfl⟩; first | rw [H3.out] | rw [H4.out] | rw [H6.out])
                          | (go_at_call 145; refine (HPRT.out _ X.A.K).mono ?_; rintro e w9 ⟨rfl, hb9⟩))
                      go_ret
                      exact ⟨ret_bool (by rw [HANS.out, H0.out, H1.out, H3.out, H4.out, H5.out, H6.out, H7.out]; simp [hph, ht]), (X.step hb9).A.K⟩
                    · have ht' : d.t < pr := by omega
                      go_wp2_with (first
                          | (go_at_call 63; refine (in_any _ _ _ _).mono ?_; rintro e w' ⟨rfl, rfl⟩; first | rw [H1.out] | rw [H5.out] | rw [H7.out])
                          | (go_at_call 142; refine (field_any_ _ _).mono ?_; rintro e w' ⟨rfl, rfl⟩; first | rw [H3.out] | rw [H4.out] | rw [H6.out]))
                      go_ret
                      exact ⟨ret_bool (by rw [HANS.out, H0.out, H1.out, H3.out, H4.out, H5.out, H6.out, H7.out]; simp [hph]; intro h; omega), X.A.K⟩
end Go.Proofs.YtkefbmbjkijilaaGreatDoor
/- Ul -/
set_option linter.unusedVariables false
namespace Go.Proofs.YtkefbmbjkijilaaGreatDoor
open Go.RowKit

theorem IsPlan.go {w w' : World} {v : Value} {d : PlanD} (h : IsPlan w w.heap.size v d) (hb : Below w.heap.size w w') : IsPlan w' w'.heap.size v d := (h.below hb (Nat.le_refl _)).more hb.size

end Go.Proofs.YtkefbmbjkijilaaGreatDoor
/- Ug -/
set_option linter.unusedVariables false
namespace Go.Proofs.YtkefbmbjkijilaaGreatDoor
open Go.ChangeShapes Go.WideShapes Go.ChangeAt Go.RowKit Go.Deep

theorem podCs_map (X : Nat → Int) (n : Nat) {j : Nat} (hj : j < n * 2) : (podCs ((List.range n).map fun i => (X (i * 2), X (i * 2 + 1))))[j]? = some (.int .i64 (X j)) := by
  have hi : j / 2 < ((List.range n).map fun i => (X (i * 2), X (i * 2 + 1))).length := by simp; omega
  obtain ⟨p0, p1⟩ := podCs_at _ hi
  have e : podA ((List.range n).map fun i => (X (i * 2), X (i * 2 + 1))) (j / 2) = (X (j / 2 * 2), X (j / 2 * 2 + 1)) := by simp [podA, List.getD, show j / 2 < n by omega]
  rw [e] at p0 p1
  dsimp only at p0 p1
  rcases (by omega : j = j / 2 * 2 ∨ j = j / 2 * 2 + 1) with h | h
  · rw [← h] at p0; exact p0
  · rw [← h] at p1; exact p1
theorem slv_pods {w : World} {B n : Nat} {A : Option Addr} {X : Nat → Int} (h : Sl w B 2 A n X) : SlV w B 2 A n (podCs ((List.range n).map fun i => (X (i * 2), X (i * 2 + 1)))) := by
  refine ⟨by rw [podCs_len]; simp, fun hn => ?_⟩
  obtain ⟨b, off, rfl, hb, hc⟩ := h hn
  exact ⟨b, off, rfl, hb, fun j hj => by rw [hc j hj, podCs_map X n hj]⟩
theorem slv_ints {w : World} {B n : Nat} {A : Option Addr} {X : Nat → Int} (h : Sl w B 1 A n X) : SlV w B 1 A n (lkCs ((List.range n).map X)) := by
  refine ⟨by rw [lkCs_len]; simp, fun hn => ?_⟩
  obtain ⟨b, off, rfl, hb, hc⟩ := h hn
  exact ⟨b, off, rfl, hb, fun j hj => by rw [hc j hj]; simp [lkCs, show j < n by omega]⟩

section
variable {H : Type} {enc : TypeId × Value → H} {P : Program} {w : World} {spare : Nat → Bool} {held : Bool}
/-- A slice of bools. -/
theorem slv_bools {t e : TypeId} {fuel : Nat} {v : Value} {x : DataW H × List MemPlace} (ht : P.underlying t = some (.slice e)) (he : P.underlying e = some .bool) (hC : P.cellsOf e = 1)
    (h : DataW.trod enc P w 0 spare held fuel t [v] = some x) : ∃ A c l, v = .slice A (List.length l) c ∧ l.length ≤ maxLen ∧ SlV w w.heap.size 1 A l.length (devCs l) := by
  rcases open_slice1 ht hC h with ⟨h1, _⟩ | ⟨a, len, cap, m, n, V, D, Pl, hcs, hb, hl, hm, hmm, hx, hi⟩
  · injection h1 with h1 _
    exact ⟨none, 0, [], h1, Nat.zero_le _, SlV.nil _ _ _ _⟩
  · injection hcs with hv _
    have hlm : len ≤ m := by rw [hmm]; split <;> omega
    obtain ⟨F, hF⟩ := choose_lt (α := Bool) (n := len) (p := fun i q => w.cell? (a.add i) = some (.bool q)) (fun i hin => by
      obtain ⟨h1, h2⟩ := hi i (by omega)
      obtain ⟨b, hb, _⟩ := DataW.trod_bool he h2
      injection hb with hb _
      exact ⟨b, by rw [h1, hb]⟩)
    have hlen : ((List.range len).map F).length = len := by simp
    refine ⟨some a, cap, (List.range len).map F, by rw [hlen]; exact hv, by rw [hlen]; exact Nat.le_trans hl hm, ⟨devCs_len _, fun hn => ?_⟩⟩
    rw [hlen] at hn ⊢
    have hsp : a.spot = none := by
      have := hF 0 hn
      simpa [Addr.add] using World.cell?_spot this
    obtain ⟨b, off, sp⟩ := a
    subst hsp
    have h0 := hF 0 hn
    rw [add_plain] at h0
    refine ⟨b, off, rfl, block_lt_of_cell h0, fun j hj => ?_⟩
    have := hF j (by omega)
    rw [add_plain] at this
    rw [this]
    simp [devCs, show j < len by omega]
/-- A slice of structs of a bool and an int64. -/
theorem slv_mnts {t e : TypeId} {fs : Array Field} {fuel : Nat} {v : Value} {x : DataW H × List MemPlace} (ht : P.underlying t = some (.slice e)) (he : P.underlying e = some (.struct fs))
    (hone : oneCellFields P fs = true) (hC : P.cellsOf e = 2) {f0 f1 : Field} (hf0 : fs[0]? = some f0) (hf1 : fs[1]? = some f1) (t0 : P.underlying f0.type = some .bool) (t1 : P.underlying f1.type = some (.int .i64))
    (h : DataW.trod enc P w 0 spare held fuel t [v] = some x) : ∃ A c l, v = .slice A (List.length l) c ∧ l.length ≤ maxLen ∧ SlV w w.heap.size 2 A l.length (mntCs l) := by
  rcases open_slice ht h with ⟨h1, _⟩ | ⟨a, len, cap, m, n, D, Pl, hcs, hb, hl, hm, hmm, hx, hi⟩
  · injection h1 with h1 _
    exact ⟨none, 0, [], h1, Nat.zero_le _, SlV.nil _ _ _ _⟩
  · injection hcs with hv _
    have hlm : len ≤ m := by rw [hmm]; split <;> omega
    obtain ⟨F, hF⟩ := choose_lt (α := Bool × Int) (n := len) (p := fun i q => w.cell? ((a.add (i * 2)).add 0) = some (.bool q.1) ∧ w.cell? ((a.add (i * 2)).add 1) = some (.int .i64 q.2)) (fun i hin => by
      obtain ⟨cs', hc, ht'⟩ := hi i (by omega)
      rw [hC] at hc
      obtain ⟨ys, n', _, hy, hlen, hyl, hf⟩ := DataW.trod_struct he ht'
      obtain ⟨_, hcl, hat⟩ := World.cells?_some hc
      have hone' : ∀ j, (hj : j < 2) → (cs'.drop j).take 1 = [cs'[j]'(by omega)] := fun j hj => by
        rw [List.drop_eq_getElem_cons (by omega)]
        rfl
      obtain ⟨o0, k0⟩ := hone_of hone 0 f0 hf0
      obtain ⟨o1, k1⟩ := hone_of hone 1 f1 hf1
      have h0 := hf 0 f0 hf0
      have h1 := hf 1 f1 hf1
      have ys2 : ys.length = fs.size := hyl
      have hs2 : 1 < fs.size := (Array.getElem?_eq_some_iff.1 hf1).1
      rw [o0, k0, hone' 0 (by omega), List.getElem?_eq_getElem (by omega)] at h0
      rw [o1, k1, hone' 1 (by omega), List.getElem?_eq_getElem (by omega)] at h1
      obtain ⟨b, hb, _⟩ := DataW.trod_bool t0 h0
      obtain ⟨z, hz, _, _⟩ := DataW.trod_int t1 h1
      injection hb with hb _
      injection hz with hz _
      exact ⟨(b, z), by rw [hat 0 (by omega), List.getElem?_eq_getElem (by omega), hb], by rw [hat 1 (by omega), List.getElem?_eq_getElem (by omega), hz]⟩)
    have hlen : ((List.range len).map F).length = len := by simp
    refine ⟨some a, cap, (List.range len).map F, by rw [hlen]; exact hv, by rw [hlen]; exact Nat.le_trans hl hm, ⟨mntCs_len _, fun hn => ?_⟩⟩
    rw [hlen] at hn ⊢
    have hsp : a.spot = none := by
      have := (hF 0 hn).1
      simpa [Addr.add] using World.cell?_spot this
    obtain ⟨b, off, sp⟩ := a
    subst hsp
    have h0 := (hF 0 hn).1
    rw [add_plain, add_plain] at h0
    refine ⟨b, off, rfl, block_lt_of_cell h0, fun j hj => ?_⟩
    have hjl : j / 2 < ((List.range len).map F).length := by rw [hlen]; omega
    obtain ⟨p0, p1⟩ := mntCs_at _ hjl
    have e : mntA ((List.range len).map F) (j / 2) = F (j / 2) := by simp [mntA, List.getD, show j / 2 < len by omega]
    rw [e] at p0 p1
    have hh := hF (j / 2) (by omega)
    rw [add_plain, add_plain, add_plain] at hh
    rcases (by omega : j = j / 2 * 2 ∨ j = j / 2 * 2 + 1) with h | h
    · rw [← h] at p0 hh
      rw [p0]
      have := hh.1
      rwa [Nat.add_zero] at this
    · rw [← h] at p1
      rw [p1]
      have := hh.2
      rwa [Nat.add_assoc, ← h] at this
end

theorem fields_state : ∃ fs, Tryz.prog.underlying 32 = some (.struct fs) ∧ oneCellFields Tryz.prog fs = true ∧ Tryz.prog.cellsOf 32 = fs.size ∧ fs.size = 12 ∧
    fs.map (·.type) = #[2, 4, 2, 2, 2, 2, 28, 29, 30, 23, 2, 2] :=
  ⟨_, Tryz.underlying32, by kernel_rfl, by kernel_rfl, by kernel_rfl, by kernel_rfl⟩
theorem fs_podAt : ∃ fs, Tryz.prog.underlying 152 = some (.struct fs) ∧ oneCellFields Tryz.prog fs = true ∧ intFields Tryz.prog fs = true ∧ fs.size = 2 := ⟨_, Tryz.underlying152, by kernel_rfl, by kernel_rfl, by kernel_rfl⟩
theorem fs_mntAt : ∃ fs, Tryz.prog.underlying 154 = some (.struct fs) ∧ oneCellFields Tryz.prog fs = true ∧ fs.map (·.type) = #[4, 2] := ⟨_, Tryz.underlying154, by kernel_rfl, by kernel_rfl⟩

set_option maxRecDepth 100000 in
theorem open_state {H : Type} {enc : TypeId × Value → H} {W : World} {spare : Nat → Bool} {held : Bool} {r : Reach} {b0 : Nat} {v : Value} {d : DataW H} {p : List MemPlace}
    (hv : Value.okWide Tryz.prog W r b0 32 v) (h : DataW.Trod enc Tryz.prog W 0 spare held 32 v d p) : ∃ s : StD, IsSt W W.heap.size v s := by
  obtain ⟨fs, hu, hone, hC, h12, hts⟩ := fields_state
  obtain ⟨cs, rfl, hsz, n, hf⟩ := agg_of_trod hu hone hC hv h
  rw [h12] at hsz
  obtain ⟨f0, j0, t0⟩ := at_of_map hts (j := 0) rfl
  obtain ⟨y0, h0⟩ := hf 0 f0 j0
  rw [t0] at h0
  obtain ⟨f1, j1, t1⟩ := at_of_map hts (j := 1) rfl
  obtain ⟨y1, h1⟩ := hf 1 f1 j1
  rw [t1] at h1
  obtain ⟨f2, j2, t2⟩ := at_of_map hts (j := 2) rfl
  obtain ⟨y2, h2⟩ := hf 2 f2 j2
  rw [t2] at h2
  obtain ⟨f3, j3, t3⟩ := at_of_map hts (j := 3) rfl
  obtain ⟨y3, h3⟩ := hf 3 f3 j3
  rw [t3] at h3
  obtain ⟨f4, j4, t4⟩ := at_of_map hts (j := 4) rfl
  obtain ⟨y4, h4⟩ := hf 4 f4 j4
  rw [t4] at h4
  obtain ⟨f5, j5, t5⟩ := at_of_map hts (j := 5) rfl
  obtain ⟨y5, h5⟩ := hf 5 f5 j5
  rw [t5] at h5
  obtain ⟨f6, j6, t6⟩ := at_of_map hts (j := 6) rfl
  obtain ⟨y6, h6⟩ := hf 6 f6 j6
  rw [t6] at h6
  obtain ⟨f7, j7, t7⟩ := at_of_map hts (j := 7) rfl
  obtain ⟨y7, h7⟩ := hf 7 f7 j7
  rw [t7] at h7
  obtain ⟨f8, j8, t8⟩ := at_of_map hts (j := 8) rfl
  obtain ⟨y8, h8⟩ := hf 8 f8 j8
  rw [t8] at h8
  obtain ⟨f9, j9, t9⟩ := at_of_map hts (j := 9) rfl
  obtain ⟨y9, h9⟩ := hf 9 f9 j9
  rw [t9] at h9
  obtain ⟨f10, j10, t10⟩ := at_of_map hts (j := 10) rfl
  obtain ⟨y10, h10⟩ := hf 10 f10 j10
  rw [t10] at h10
  obtain ⟨f11, j11, t11⟩ := at_of_map hts (j := 11) rfl
  obtain ⟨y11, h11⟩ := hf 11 f11 j11
  rw [t11] at h11
  obtain ⟨z0, e0, _, _⟩ := DataW.trod_int Tryz.underlying2 h0
  injection e0 with e0 _
  obtain ⟨z1, e1, _⟩ := DataW.trod_bool Tryz.underlying4 h1
  injection e1 with e1 _
  obtain ⟨z2, e2, _, _⟩ := DataW.trod_int Tryz.underlying2 h2
  injection e2 with e2 _
  obtain ⟨z3, e3, _, _⟩ := DataW.trod_int Tryz.underlying2 h3
  injection e3 with e3 _
  obtain ⟨z4, e4, _, _⟩ := DataW.trod_int Tryz.underlying2 h4
  injection e4 with e4 _
  obtain ⟨z5, e5, _, _⟩ := DataW.trod_int Tryz.underlying2 h5
  injection e5 with e5 _
  obtain ⟨z10, e10, _, _⟩ := DataW.trod_int Tryz.underlying2 h10
  injection e10 with e10 _
  obtain ⟨z11, e11, _, _⟩ := DataW.trod_int Tryz.underlying2 h11
  injection e11 with e11 _
  obtain ⟨ps, ps1, ps2, ps3, ps4⟩ := fs_podAt
  obtain ⟨ms, ms1, ms2, ms3⟩ := fs_mntAt
  obtain ⟨q0, i0, u0⟩ := at_of_map ms3 (j := 0) rfl
  obtain ⟨q1, i1, u1⟩ := at_of_map ms3 (j := 1) rfl
  obtain ⟨A6, n6, c6, X6, e6, b6, s6⟩ := sl_structs Tryz.underlying28 ps1 ps2 ps3 (by kernel_rfl) ps4 (by omega) h6
  obtain ⟨A7, c7, l7, e7, b7, s7⟩ := slv_mnts Tryz.underlying29 ms1 ms2 (by kernel_rfl) i0 i1 (by rw [u0]; exact Tryz.underlying4) (by rw [u1]; exact Tryz.underlying2) h7
  obtain ⟨A8, c8, l8, e8, b8, s8⟩ := slv_bools Tryz.underlying30 Tryz.underlying4 (by kernel_rfl) h8
  obtain ⟨A9, n9, c9, X9, e9, b9, s9⟩ := sl_ints Tryz.underlying23 Tryz.underlying2 (by kernel_rfl) h9
  have k6 : ((List.range n6).map fun i => (X6 (i * 2), X6 (i * 2 + 1))).length = n6 := by simp
  have k9 : ((List.range n9).map X9).length = n9 := by simp
  refine ⟨⟨z0, z1, z2, z3, z4, z5, (List.range n6).map fun i => (X6 (i * 2), X6 (i * 2 + 1)), l7, l8, (List.range n9).map X9, z10, z11⟩, ⟨A6, A7, A8, A9, c6, c7, c8, c9, ?_, by rw [k6]; exact slv_pods s6, s7, s8, by rw [k9]; exact slv_ints s9⟩, by rw [k6]; exact b6, b7, b8, by rw [k9]; exact b9⟩
  dsimp only
  rw [k6, k9]
  congr 1
  apply Array.ext (by simp [hsz])
  intro i hi _
  match i, hi with
  | 0, _ => exact e0
  | 1, _ => exact e1
  | 2, _ => exact e2
  | 3, _ => exact e3
  | 4, _ => exact e4
  | 5, _ => exact e5
  | 6, _ => exact e6
  | 7, _ => exact e7
  | 8, _ => exact e8
  | 9, _ => exact e9
  | 10, _ => exact e10
  | 11, _ => exact e11
  | k + 12, hi => omega
end Go.Proofs.YtkefbmbjkijilaaGreatDoor
/- Ba -/
set_option linter.unusedVariables false
namespace Go.Proofs.YtkefbmbjkijilaaGreatDoor
open Go.RowKit

theorem info_u8 : (Tryz.prog.info? 5).map (fun i => (i.zero, i.size, i.bytes)) = some (some (.int .u8 0), 1, 1) := by kernel_rfl
theorem info_rec : (Tryz.prog.info? 96).map (fun i => (i.zero, i.size, i.bytes)) = some (some (.agg #[.int .i64 0, .int .i64 0, .int .i64 0]), 3, 24) := by kernel_rfl

/-! Bytes. -/
def byteV (b : Nat) : Value := .int .u8 (b : Int)
def SmallB (L : List Nat) : Prop := ∀ x ∈ L, x < 256
theorem SmallB.getD {L : List Nat} (h : SmallB L) (k : Nat) : L.getD k 0 < 256 := by
  by_cases hk : k < L.length
  · rw [List.getD_eq_getElem?_getD, List.getElem?_eq_getElem hk]; exact h _ (List.getElem_mem _)
  · rw [List.getD_eq_getElem?_getD, List.getElem?_eq_none (by omega)]; simp
theorem SmallB.drop {L : List Nat} (h : SmallB L) (k : Nat) : SmallB (L.drop k) := fun x hx => h x (List.mem_of_mem_drop hx)
theorem SmallB.take {L : List Nat} (h : SmallB L) (k : Nat) : SmallB (L.take k) := fun x hx => h x (List.mem_of_mem_take hx)
theorem SmallB.append {L M : List Nat} (h : SmallB L) (h' : SmallB M) : SmallB (L ++ M) := fun x hx => (List.mem_append.1 hx).elim (h x) (h' x)

/-- A slice of the bytes L, lying below block B. -/
structure Bt (w : World) (B : Nat) (v : Value) (L : List Nat) : Prop where
  it : ∃ A c, v = .slice A L.length c ∧ L.length ≤ c ∧ (0 < L.length → ∃ b off, A = some ⟨b, off, none⟩ ∧ b < B ∧ ∀ j, j < L.length → w.cell? ⟨b, off + j, none⟩ = some (.int .u8 (L.getD j 0 : Nat)))
  len : L.length ≤ maxLen
  small : SmallB L
theorem Bt.below {w w' : World} {B B' : Nat} {v : Value} {L : List Nat} (h : Bt w B v L) (hb : Below B' w w') (hB : B ≤ B') : Bt w' B v L := by
  obtain ⟨⟨A, c, rfl, hcap, hc⟩, hl, hs⟩ := h
  refine ⟨⟨A, c, rfl, hcap, fun hn => ?_⟩, hl, hs⟩
  obtain ⟨b, off, rfl, hlt, hc⟩ := hc hn
  exact ⟨b, off, rfl, hlt, fun j hj => (hb.cell (p := ⟨b, off + j, none⟩) (by show b < B'; omega)).trans (hc j hj)⟩
theorem Bt.more {w : World} {B B' : Nat} {v : Value} {L : List Nat} (h : Bt w B v L) (hB : B ≤ B') : Bt w B' v L := by
  obtain ⟨⟨A, c, rfl, hcap, hc⟩, hl, hs⟩ := h
  refine ⟨⟨A, c, rfl, hcap, fun hn => ?_⟩, hl, hs⟩
  obtain ⟨b, off, rfl, hlt, hc⟩ := hc hn
  exact ⟨b, off, rfl, by omega, hc⟩
theorem Bt.go {w w' : World} {v : Value} {L : List Nat} (h : Bt w w.heap.size v L) (hb : Below w.heap.size w w') : Bt w' w'.heap.size v L := (h.below hb (Nat.le_refl _)).more hb.size
theorem Bt.cell {w : World} {B : Nat} {A : Option Addr} {n c : Nat} {L : List Nat} (h : Bt w B (.slice A n c) L) {k : Nat} (hk : k < L.length) :
    ∃ b off, A = some ⟨b, off, none⟩ ∧ b < B ∧ w.cell? ⟨b, off + k, none⟩ = some (.int .u8 (L.getD k 0 : Nat)) := by
  obtain ⟨⟨A', c', hv, hcap, hc⟩, hl, hs⟩ := h
  injection hv with h1 _ _
  subst h1
  obtain ⟨b, off, e, hlt, hc⟩ := hc (by omega)
  exact ⟨b, off, e, hlt, hc k hk⟩
theorem getD_drop (L : List Nat) (k j : Nat) : (L.drop k).getD j 0 = L.getD (k + j) 0 := by simp [List.getD]
theorem Bt.drop {w : World} {B : Nat} {A : Option Addr} {n c : Nat} {L : List Nat} (h : Bt w B (.slice A n c) L) {k : Nat} (hk : k ≤ L.length) :
    Bt w B (.slice (if c = k then A else A.map (·.add k)) (n - k) (c - k)) (L.drop k) := by
  obtain ⟨⟨A', c1, hv, hcap, hc⟩, hl, hs⟩ := h
  injection hv with h1 h2 h3
  subst h1 h2 h3
  refine ⟨⟨_, c - k, by rw [List.length_drop], by rw [List.length_drop]; omega, fun hn => ?_⟩, by rw [List.length_drop]; omega, hs.drop k⟩
  rw [List.length_drop] at hn
  obtain ⟨b, off, rfl, hlt, hc⟩ := hc (by omega)
  rw [if_neg (by omega)]
  have ha : (⟨b, off, none⟩ : Addr).add k = ⟨b, off + k, none⟩ := by unfold Addr.add; split <;> simp_all
  refine ⟨b, off + k, by simp [ha], hlt, fun j hj => ?_⟩
  rw [List.length_drop] at hj
  rw [getD_drop, Nat.add_assoc]
  exact hc (k + j) (by omega)
theorem Bt.nil (w : World) (B : Nat) (A : Option Addr) (c : Nat) : Bt w B (.slice A 0 c) [] := ⟨⟨A, c, rfl, Nat.zero_le _, fun h => absurd h (Nat.lt_irrefl _)⟩, Nat.zero_le _, fun x hx => by cases hx⟩
theorem Bt.drop_at {w : World} {B : Nat} {b off n c k : Nat} {A : Option Addr} {L : List Nat} (h : Bt w B (.slice (some ⟨b, off, none⟩) n c) L) (hk : k ≤ n) (hA : c ≠ k → A = some ⟨b, off + k, none⟩) :
    Bt w B (.slice A (n - k) (c - k)) (L.drop k) := by
  have hn : n = L.length ∧ n ≤ c := by
    obtain ⟨⟨A', c1, hv, hcap, hc⟩, hl, hs⟩ := h
    injection hv with h1 h2 h3
    subst h2 h3
    exact ⟨rfl, hcap⟩
  have := h.drop (k := k) (by omega)
  by_cases e : c = k
  · have e0 : L.drop k = [] := List.drop_eq_nil_of_le (by omega)
    rw [e0]
    have : n - k = 0 := by omega
    rw [this]
    exact Bt.nil _ _ _ _
  · rw [hA e]
    rw [if_neg e] at this
    have ha : (⟨b, off, none⟩ : Addr).add k = ⟨b, off + k, none⟩ := by unfold Addr.add; split <;> simp_all
    simpa [ha] using this
theorem Bt.take {w : World} {B : Nat} {A : Option Addr} {n c : Nat} {L : List Nat} (h : Bt w B (.slice A n c) L) {k : Nat} (hk : k ≤ L.length) {c' : Nat} (hc' : k ≤ c') :
    Bt w B (.slice A k c') (L.take k) := by
  obtain ⟨⟨A', c1, hv, hcap, hc⟩, hl, hs⟩ := h
  injection hv with h1 h2 h3
  subst h1
  refine ⟨⟨A, c', by rw [List.length_take, Nat.min_eq_left hk], by rw [List.length_take]; omega, fun hn => ?_⟩, by rw [List.length_take]; omega, hs.take k⟩
  rw [List.length_take] at hn
  obtain ⟨b, off, rfl, hlt, hc⟩ := hc (by omega)
  refine ⟨b, off, rfl, hlt, fun j hj => ?_⟩
  rw [List.length_take] at hj
  have : (L.take k).getD j 0 = L.getD j 0 := by simp [List.getD, show j < k by omega]
  rw [this]
  exact hc j (by omega)

/-- A row of bytes of the call's own. -/
structure OB (w : World) (B : Nat) (v : Value) (L : List Nat) : Prop where
  own : w.ownsRow B 5 1 v L.length (L.map byteV)
  small : SmallB L
theorem OB.below {w w' : World} {B : Nat} {v : Value} {L : List Nat} (h : OB w B v L) (hb : Below w.heap.size w w') : OB w' B v L := ⟨ownsRow_below h.own hb, h.small⟩
theorem OB.base {w : World} {B B' : Nat} {v : Value} {L : List Nat} (h : OB w B v L) (hb : B' ≤ B) : OB w B' v L := ⟨ownsRow_base h.own hb, h.small⟩
theorem OB.lt {w : World} {B : Nat} {v : Value} {L : List Nat} (h : OB w B v L) {r : Nat} (hr : v.ownBlock = some r) : B ≤ r ∧ r < w.heap.size := World.ownsRow.lt h.own r hr
theorem OB.nil_ (w : World) (B : Nat) : OB w B (.slice none 0 0) [] := ⟨World.ownsRow_nil _ _ _ _, fun x hx => by cases hx⟩
theorem OB.len {w : World} {B : Nat} {v : Value} {L : List Nat} (h : OB w B v L) : L.length ≤ maxLen := by
  rcases h.own.2 with ⟨_, h0⟩ | ⟨g, cap, cur, _, _, _, hnc, hcm, _⟩
  · rw [h0]; exact Nat.zero_le _
  · exact Nat.le_trans hnc hcm
theorem OB.empty {w : World} {B : Nat} (hB : B ≤ w.heap.size) : OB (w.alloc (.cells #[] 5)) B (.slice (some ⟨w.heap.size, 0, none⟩) 0 0) [] := by
  have := World.ownsRow_made (base := w.heap.size) (e := 5) (size := 1) w #[] 0 (by simp) (Nat.zero_le _) rfl
  exact ⟨ownsRow_base (by simpa using this) hB, fun x hx => by cases hx⟩
theorem byteV_get {L : List Nat} {j : Nat} (hj : j < L.length) : (L.map byteV)[j]? = some (.int .u8 (L.getD j 0 : Nat)) := by simp [byteV, List.getD, hj]
theorem OB.open_ {w : World} {B : Nat} {v : Value} {L : List Nat} (h : OB w B v L) :
    ∃ A c g, v = .slice A L.length c ∧ L.length ≤ c ∧ (0 < L.length → A = some ⟨g, 0, none⟩) ∧ B ≤ g ∧ (0 < L.length → g < w.heap.size) ∧ (∀ j, j < L.length → w.cell? ⟨g, j, none⟩ = some (.int .u8 (L.getD j 0 : Nat)) ∧ w.frozen? ⟨g, j, none⟩ = false) := by
  rcases h.own.2 with ⟨rfl, h0⟩ | ⟨g, cap, cur, rfl, hb, hh, hnc, _⟩
  · exact ⟨none, 0, B, by rw [h0], by omega, fun h => by omega, Nat.le_refl _, fun h => by omega, fun j hj => by omega⟩
  · refine ⟨_, cap, g, rfl, hnc, fun _ => rfl, hb, fun _ => (Array.getElem?_eq_some_iff.1 hh).1, fun j hj => ⟨?_, frozen_of_row _ _ _ _ _ hh⟩⟩
    have := h.own.cells (g := g) rfl j _ (byteV_get hj)
    rwa [add_zero_block] at this
theorem OB.bt {w : World} {B : Nat} {v : Value} {L : List Nat} (h : OB w B v L) : Bt w w.heap.size v L := by
  have hl := h.len
  have hs := h.small
  obtain ⟨A, c, g, rfl, hcap, hA, hB, hg, hc⟩ := h.open_
  exact ⟨⟨A, c, rfl, hcap, fun hn => ⟨g, 0, hA hn, hg hn, fun j hj => by rw [Nat.zero_add]; exact (hc j hj).1⟩⟩, hl, hs⟩

/-! Records. -/
def flat (l : List RecD) : List Int := l.flatMap fun r => [r.k, r.a, r.b]
theorem flat_cons (r : RecD) (l : List RecD) : flat (r :: l) = r.k :: r.a :: r.b :: flat l := rfl
theorem flat_append (l m : List RecD) : flat (l ++ m) = flat l ++ flat m := List.flatMap_append
theorem flat_length (l : List RecD) : (flat l).length = l.length * 3 := by
  induction l with
  | nil => rfl
  | cons r l ih => rw [flat_cons]; simp [ih]; omega
def recAt (l : List RecD) (i : Nat) : RecD := l.getD i ⟨0, 0, 0⟩
def cellR (l : List RecD) (j : Nat) : Int := (flat l).getD j 0
theorem cellR_at (l : List RecD) (i : Nat) : cellR l (i * 3) = (recAt l i).k ∧ cellR l (i * 3 + 1) = (recAt l i).a ∧ cellR l (i * 3 + 2) = (recAt l i).b := by
  unfold cellR recAt
  induction l generalizing i with
  | nil => simp [flat]
  | cons r l ih =>
    cases i with
    | zero => exact ⟨rfl, rfl, rfl⟩
    | succ i =>
      have := ih i
      rw [flat_cons, show (i + 1) * 3 = i * 3 + 1 + 1 + 1 by omega, show i * 3 + 1 + 1 + 1 + 1 = (i * 3 + 1) + 1 + 1 + 1 by omega, show i * 3 + 1 + 1 + 1 + 2 = (i * 3 + 2) + 1 + 1 + 1 by omega]
      simpa only [List.getD_cons_succ] using this
def recV (r : RecD) : Value := .agg #[.int .i64 r.k, .int .i64 r.a, .int .i64 r.b]
def recVs (l : List RecD) : List Value := (flat l).map (Value.int .i64)
theorem recVs_get {l : List RecD} {j : Nat} (hj : j < l.length * 3) : (recVs l)[j]? = some (.int .i64 (cellR l j)) := by
  have : j < (flat l).length := by rw [flat_length]; exact hj
  simp [recVs, cellR, List.getD, this]
/-- A slice of the records l, lying below block B. -/
structure Rt (w : World) (B : Nat) (v : Value) (l : List RecD) : Prop where
  it : ∃ A c, v = .slice A l.length c ∧ Sl w B 3 A l.length (cellR l)
  len : l.length ≤ maxLen
theorem Rt.below {w w' : World} {B B' : Nat} {v : Value} {l : List RecD} (h : Rt w B v l) (hb : Below B' w w') (hB : B ≤ B') : Rt w' B v l := by
  obtain ⟨⟨A, c, rfl, hc⟩, hl⟩ := h
  exact ⟨⟨A, c, rfl, hc.below hb hB⟩, hl⟩
theorem Rt.more {w : World} {B B' : Nat} {v : Value} {l : List RecD} (h : Rt w B v l) (hB : B ≤ B') : Rt w B' v l := by
  obtain ⟨⟨A, c, rfl, hc⟩, hl⟩ := h
  exact ⟨⟨A, c, rfl, hc.more hB⟩, hl⟩
theorem Rt.go {w w' : World} {v : Value} {l : List RecD} (h : Rt w w.heap.size v l) (hb : Below w.heap.size w w') : Rt w' w'.heap.size v l := (h.below hb (Nat.le_refl _)).more hb.size
theorem Sl.cell3 {w : World} {B n : Nat} {A : Option Addr} {x : Nat → Int} (h : Sl w B 3 A n x) {i : Nat} (hi : i < n) : ∃ b off, A = some ⟨b, off, none⟩ ∧ b < B ∧
    w.cell? ⟨b, off + i * 3, none⟩ = some (.int .i64 (x (i * 3))) ∧ w.cell? ⟨b, off + i * 3 + 1, none⟩ = some (.int .i64 (x (i * 3 + 1))) ∧ w.cell? ⟨b, off + i * 3 + 2, none⟩ = some (.int .i64 (x (i * 3 + 2))) := by
  obtain ⟨b, off, rfl, hb, hc⟩ := h (by omega)
  exact ⟨b, off, rfl, hb, hc _ (by omega), by rw [Nat.add_assoc]; exact hc _ (by omega), by rw [Nat.add_assoc]; exact hc _ (by omega)⟩
theorem Rt.cell {w : World} {B : Nat} {A : Option Addr} {n c : Nat} {l : List RecD} (h : Rt w B (.slice A n c) l) {i : Nat} (hi : i < l.length) : ∃ b off, A = some ⟨b, off, none⟩ ∧ b < B ∧
    w.cell? ⟨b, off + i * 3, none⟩ = some (.int .i64 (recAt l i).k) ∧ w.cell? ⟨b, off + i * 3 + 1, none⟩ = some (.int .i64 (recAt l i).a) ∧ w.cell? ⟨b, off + i * 3 + 2, none⟩ = some (.int .i64 (recAt l i).b) := by
  obtain ⟨⟨A', c', hv, hc⟩, hl⟩ := h
  injection hv with h1 _ _
  subst h1
  obtain ⟨e1, e2, e3⟩ := cellR_at l i
  have := hc.cell3 hi
  rwa [e1, e2, e3] at this
/-- A row of records of the call's own. -/
def OR (w : World) (B : Nat) (v : Value) (l : List RecD) : Prop := w.ownsRow B 96 3 v l.length (recVs l)
theorem OR.below {w w' : World} {B : Nat} {v : Value} {l : List RecD} (h : OR w B v l) (hb : Below w.heap.size w w') : OR w' B v l := ownsRow_below h hb
theorem OR.base {w : World} {B B' : Nat} {v : Value} {l : List RecD} (h : OR w B v l) (hb : B' ≤ B) : OR w B' v l := ownsRow_base h hb
theorem OR.lt {w : World} {B : Nat} {v : Value} {l : List RecD} (h : OR w B v l) {r : Nat} (hr : v.ownBlock = some r) : B ≤ r ∧ r < w.heap.size := World.ownsRow.lt h r hr
theorem OR.nil_ (w : World) (B : Nat) : OR w B (.slice none 0 0) [] := World.ownsRow_nil _ _ _ _
theorem OR.len {w : World} {B : Nat} {v : Value} {l : List RecD} (h : OR w B v l) : l.length ≤ maxLen := by
  rcases h.2 with ⟨_, h0⟩ | ⟨g, cap, cur, _, _, _, hnc, hcm, _⟩
  · rw [h0]; exact Nat.zero_le _
  · exact Nat.le_trans hnc hcm
theorem OR.empty {w : World} {B : Nat} (hB : B ≤ w.heap.size) : OR (w.alloc (.cells #[] 96)) B (.slice (some ⟨w.heap.size, 0, none⟩) 0 0) [] := by
  have := World.ownsRow_made (base := w.heap.size) (e := 96) (size := 3) w #[] 0 (by simp) (Nat.zero_le _) rfl
  exact ownsRow_base (by simpa [recVs, flat] using this) hB
theorem OR.open_ {w : World} {B : Nat} {v : Value} {l : List RecD} (h : OR w B v l) :
    ∃ A c g, v = .slice A l.length c ∧ (0 < l.length → A = some ⟨g, 0, none⟩) ∧ B ≤ g ∧ (0 < l.length → g < w.heap.size) ∧ RowF w g (l.length * 3) (cellR l) := by
  rcases h.2 with ⟨rfl, h0⟩ | ⟨g, cap, cur, rfl, hb, hh, _⟩
  · exact ⟨none, 0, B, by rw [h0], fun h => by omega, Nat.le_refl _, fun h => by omega, fun j hj => by omega⟩
  · refine ⟨_, cap, g, rfl, fun _ => rfl, hb, fun _ => (Array.getElem?_eq_some_iff.1 hh).1, fun j hj => ⟨?_, frozen_of_row _ _ _ _ _ hh⟩⟩
    have := World.ownsRow.cells h (g := g) rfl j _ (recVs_get hj)
    rwa [add_zero_block] at this
theorem OR.rt {w : World} {B : Nat} {v : Value} {l : List RecD} (h : OR w B v l) : Rt w w.heap.size v l := by
  have hl := h.len
  obtain ⟨A, c, g, rfl, hA, hB, hg, hc⟩ := h.open_
  exact ⟨⟨A, c, rfl, fun hn => ⟨g, 0, hA hn, hg hn, fun j hj => by rw [Nat.zero_add]; exact (hc j hj).1⟩⟩, hl⟩
/-- Records out of places. -/
def recsFrom (n : Nat) (x : Nat → Int) : List RecD := (List.range n).map fun i => ⟨x (i * 3), x (i * 3 + 1), x (i * 3 + 2)⟩
theorem recsFrom_length (n : Nat) (x : Nat → Int) : (recsFrom n x).length = n := by simp [recsFrom]
theorem cellR_from {n : Nat} {x : Nat → Int} {j : Nat} (hj : j < n * 3) : cellR (recsFrom n x) j = x j := by
  have hi : j / 3 < n := by omega
  have hr : recAt (recsFrom n x) (j / 3) = ⟨x (j / 3 * 3), x (j / 3 * 3 + 1), x (j / 3 * 3 + 2)⟩ := by simp [recAt, recsFrom, List.getD, hi]
  obtain ⟨e1, e2, e3⟩ := cellR_at (recsFrom n x) (j / 3)
  rw [hr] at e1 e2 e3
  dsimp only at e1 e2 e3
  rcases (by omega : j = j / 3 * 3 ∨ j = j / 3 * 3 + 1 ∨ j = j / 3 * 3 + 2) with e | e | e
  · rw [← e] at e1; exact e1
  · rw [← e] at e2; exact e2
  · rw [← e] at e3; exact e3
end Go.Proofs.YtkefbmbjkijilaaGreatDoor
/- Bb -/
set_option linter.unusedVariables false
namespace Go.Proofs.YtkefbmbjkijilaaGreatDoor
open Go.RowKit

/-- The names of the kinds. -/
def nameOf (i : Nat) : ByteArray := ⟨#[[], [112, 104, 97, 115, 101], [112, 111, 100], [98, 117, 115, 121], [102, 114, 101, 101], [103, 105, 118, 101], [108, 111, 99, 107], [117, 110, 108, 111, 99, 107], [99, 108, 111, 99, 107], [98, 97, 110, 100], [98, 111, 111, 116], [108, 111, 99, 107, 98, 121], [112, 114, 111, 98, 101]].getD i [] |>.toArray⟩
/-- The table of them lies in block 0. -/
structure Names (w : World) : Prop where
  lt : 0 < w.heap.size
  it : ∀ i, i < 13 → w.cell? ⟨0, i, none⟩ = some (.string (nameOf i))
theorem Names.go {w w' : World} (h : Names w) (hb : Below w.heap.size w w') : Names w' :=
  ⟨Nat.lt_of_lt_of_le h.lt hb.size, fun i hi => (hb.cell (p := ⟨0, i, none⟩) h.lt).trans (h.it i hi)⟩
theorem Names.keeps {S : Nat → Prop} {w w' : World} (h : Names w) (hk : Keeps S w w') (hS : ¬ S 0) : Names w' :=
  ⟨Nat.lt_of_lt_of_le h.lt hk.size, fun i hi => (hk.cell (p := ⟨0, i, none⟩) h.lt hS).trans (h.it i hi)⟩

/-- Has it a name? -/
def kindB (k : Int) : Bool := inB k 1 12
def nameStr (k : Int) : ByteArray := if inB k 0 12 then nameOf k.toNat else ⟨#[]⟩
set_option maxHeartbeats 400000 in
theorem kindString_any (k : Int) (w : World) (h : Names w) :
    Calls Tryz.prog 132 #[.int .i64 k] w fun e w' => e = .returned (.string (nameStr k)) ∧ w = w' := by
  have H := Lib.hid h
  clear h
  cases hk : inB k 0 12
  · have HE := Lib.hid (show nameStr k = ⟨#[]⟩ by unfold nameStr; rw [hk]; rfl)
    go_enter Tryz.func132, Tryz.ntmps132
    go_wp2_with (go_at_call 134; refine (isIndex_any _ _ _).mono ?_; rintro e w' ⟨rfl, rfl⟩)
    go_ret
    exact ⟨by rw [HE.out]; rfl, rfl⟩
  · have HE := Lib.hid (show nameStr k = nameOf k.toNat by unfold nameStr; rw [hk]; rfl)
    obtain ⟨h0, h1⟩ := inB_true.1 hk
    obtain ⟨i, rfl⟩ := Int.eq_ofNat_of_zero_le h0
    have hc := H.out.it i (by omega)
    have hlt : i < 13 := by omega
    clear h0 h1
    go_enter Tryz.func132, Tryz.ntmps132
    go_wp2_with (go_at_call 134; refine (isIndex_any _ _ _).mono ?_; rintro e w' ⟨rfl, rfl⟩)
    go_ret
    exact ⟨by rw [HE.out]; simp, rfl⟩
theorem nameStr_empty (k : Int) : (nameStr k).toList.isEmpty = !kindB k := by
  unfold nameStr kindB
  cases hk : inB k 0 12
  · have : inB k 1 12 = false := by
      cases h : inB k 1 12
      · rfl
      · rw [inB_true] at h
        rw [← Bool.not_eq_true, inB_true] at hk
        omega
    rw [this]
    show (⟨#[]⟩ : ByteArray).toList.isEmpty = true
    kernel_rfl
  · obtain ⟨h0, h1⟩ := inB_true.1 hk
    have : k = 0 ∨ k = 1 ∨ k = 2 ∨ k = 3 ∨ k = 4 ∨ k = 5 ∨ k = 6 ∨ k = 7 ∨ k = 8 ∨ k = 9 ∨ k = 10 ∨ k = 11 ∨ k = 12 := by omega
    rcases this with rfl | rfl | rfl | rfl | rfl | rfl | rfl | rfl | rfl | rfl | rfl | rfl | rfl <;> decide +kernel

set_option maxHeartbeats 400000 in
theorem recOk_any (r : RecD) (w : World) (h : Names w) :
    Calls Tryz.prog 102 #[recV r] w fun e w' => e = .returned (.bool (recOkB r)) ∧ Below w.heap.size w w' := by
  obtain ⟨k, a, b⟩ := r
  unfold recV
  dsimp only
  have H := Lib.hid h
  clear h
  have N1 : Hid (Names (w.alloc (.cells #[.int .i64 k, .int .i64 a, .int .i64 b] 96))) := Lib.hid (H.out.go ((Below.refl _ _).alloc (Nat.le_refl _) _))
  have HS := nameStr_empty k
  generalize hs : nameStr k = s at HS
  have HSK := Lib.hid hs
  clear hs
  cases h1 : kindB k
  · have HE := Lib.hid (show recOkB ⟨k, a, b⟩ = false by have h1 : inB k 1 12 = false := h1; simp [recOkB, h1])
    rw [h1] at HS
    clear h1
    have HL : s.toList = [] := by simpa using HS
    clear HS
    go_enter Tryz.func102, Tryz.ntmps102
    go_wp2_with (go_at_call 132; refine (kindString_any _ _ N1.out).mono ?_; rintro e w' ⟨rfl, rfl⟩; rw [HSK.out])
    go_ret
    exact ⟨by rw [HE.out]; rfl, (Below.refl _ _).alloc (Nat.le_refl _) _⟩
  · rw [h1] at HS
    have HL : ¬ s.toList = [] := by simpa using HS
    have HT : (!s.toList.isEmpty) = true := by rw [HS]; rfl
    clear HS
    cases h2 : inB a 0 1000000
    · have HE := Lib.hid (show recOkB ⟨k, a, b⟩ = false by have h1 : inB k 1 12 = true := h1; simp [recOkB, h1, h2])
      clear h1
      go_enter Tryz.func102, Tryz.ntmps102
      go_wp2_with (first | (go_at_call 132; refine (kindString_any _ _ N1.out).mono ?_; rintro e w' ⟨rfl, rfl⟩; rw [HSK.out]) | (go_at_call 133; refine (within_any _ _ _ _).mono ?_; rintro e w' ⟨rfl, rfl⟩))
      go_ret
      exact ⟨by rw [HE.out]; rfl, (Below.refl _ _).alloc (Nat.le_refl _) _⟩
    · have HE := Lib.hid (show recOkB ⟨k, a, b⟩ = inB b 0 1000000 by have h1 : inB k 1 12 = true := h1; simp [recOkB, h1, h2])
      clear h1
      go_enter Tryz.func102, Tryz.ntmps102
      go_wp2_with (first | (go_at_call 132; refine (kindString_any _ _ N1.out).mono ?_; rintro e w' ⟨rfl, rfl⟩; rw [HSK.out]) | (go_at_call 133; refine (within_any _ _ _ _).mono ?_; rintro e w' ⟨rfl, rfl⟩))
      go_ret
      exact ⟨by rw [HE.out]; rfl, (Below.refl _ _).alloc (Nat.le_refl _) _⟩

set_option maxHeartbeats 400000 in
theorem field_any (x : Int) (w : World) :
    Calls Tryz.prog 142 #[.int .i64 x] w fun e w' => e = .returned (.bool (inB x 0 1000000)) ∧ w = w' := by
  go_enter Tryz.func142, Tryz.ntmps142
  go_wp2_with (go_at_call 63; refine (in_any _ _ _ _).mono ?_; rintro e w' ⟨rfl, rfl⟩)
  go_ret
  exact ⟨rfl, rfl⟩
set_option maxHeartbeats 400000 in
theorem specRecOk_any (r : RecD) (w : World) :
    Calls Tryz.prog 107 #[recV r] w fun e w' => e = .returned (.bool (recOkB r)) ∧ Below w.heap.size w w' := by
  obtain ⟨k, a, b⟩ := r
  unfold recV
  dsimp only
  cases h1 : inB k 1 12
  · have HE := Lib.hid (show recOkB ⟨k, a, b⟩ = false by simp [recOkB, h1])
    go_enter Tryz.func107, Tryz.ntmps107
    go_wp2_with (go_at_call 63; refine (in_any _ _ _ _).mono ?_; rintro e w' ⟨rfl, rfl⟩)
    go_ret
    exact ⟨by rw [HE.out]; rfl, (Below.refl _ _).alloc (Nat.le_refl _) _⟩
  · cases h2 : inB a 0 1000000
    · have HE := Lib.hid (show recOkB ⟨k, a, b⟩ = false by simp [recOkB, h1, h2])
      go_enter Tryz.func107, Tryz.ntmps107
      go_wp2_with (first | (go_at_call 63; refine (in_any _ _ _ _).mono ?_; rintro e w' ⟨rfl, rfl⟩) | (go_at_call 142; refine (field_any _ _).mono ?_; rintro e w' ⟨rfl, rfl⟩))
      go_ret
      exact ⟨by rw [HE.out]; rfl, (Below.refl _ _).alloc (Nat.le_refl _) _⟩
    · have HE := Lib.hid (show recOkB ⟨k, a, b⟩ = inB b 0 1000000 by simp [recOkB, h1, h2])
      go_enter Tryz.func107, Tryz.ntmps107
      go_wp2_with (first | (go_at_call 63; refine (in_any _ _ _ _).mono ?_; rintro e w' ⟨rfl, rfl⟩) | (go_at_call 142; refine (field_any _ _).mono ?_; rintro e w' ⟨rfl, rfl⟩))
      go_ret
      exact ⟨by rw [HE.out]; rfl, (Below.refl _ _).alloc (Nat.le_refl _) _⟩
end Go.Proofs.YtkefbmbjkijilaaGreatDoor
/- Bd -/
set_option linter.unusedVariables false
namespace Go.Proofs.YtkefbmbjkijilaaGreatDoor
open Go.RowKit

theorem putN_len3 {n : Nat} (h : n < 2097152) : (putN n).length ≤ 3 := (putN_length 3 n (by omega)).2 h
theorem OB.push {w w' : World} {B : Nat} {v v' : Value} {L : List Nat} (b : Nat) (h : OB w B v L) (hb : b < 256) (h' : w'.ownsRow B 5 1 v' (L.length + 1) (L.map byteV ++ [.int .u8 (b : Int)])) : OB w' B v' (L ++ [b]) :=
  ⟨by rw [List.length_append, List.map_append]; exact h', h.small.append (fun x hx => by rw [List.mem_singleton.1 hx]; exact hb)⟩

/-- From w to wr only the row of v has turned; s is that row grown, or of new memory. -/
structure MovedB (w wr : World) (v s : Value) : Prop where
  keep : Keeps (fun r => v.ownBlock = some r) w wr
  own : ∀ r, s.ownBlock = some r → v.ownBlock = some r ∨ w.heap.size ≤ r
theorem MovedB.refl (w : World) (v : Value) : MovedB w w v v := ⟨Keeps.refl _ _, fun r hr => .inl hr⟩
theorem MovedB.alloc {w wr : World} {v s : Value} (h : MovedB w wr v s) (o : Obj) : MovedB w (wr.alloc o) v s :=
  ⟨h.keep.trans ((Keeps.of_below ((Below.refl _ _).alloc (Nat.le_refl _) o))), h.own⟩
theorem MovedB.grown {w wr w' : World} {v s : Value} {g n c : Nat} (h : MovedB w wr v s) (hg : wr.grownBy w' s.ownBlock) (hl : s.ownBlock = some g ∨ g = wr.heap.size) : MovedB w w' v (.slice (some ⟨g, 0, none⟩) n c) := by
  have hs := h.keep.size
  refine ⟨⟨hg.os.trans h.keep.os, hg.tape.trans h.keep.tape, hg.output.trans h.keep.output, Nat.le_trans hs hg.size, fun b hb hn => ?_⟩, fun r hr => ?_⟩
  · refine (hg.block b (Nat.lt_of_lt_of_le hb hs) fun e => ?_).trans (h.keep.block b hb hn)
    rcases h.own b e.symm with h1 | h1
    · exact hn h1
    · omega
  · have hr : g = r := by injection hr
    subst hr
    rcases hl with hl | hl
    · exact h.own _ hl
    · exact .inr (by omega)
theorem MovedB.cell {w wr : World} {v s : Value} (h : MovedB w wr v s) {p : Addr} (hp : p.block < w.heap.size) (hn : v.ownBlock ≠ some p.block) : wr.cell? p = w.cell? p := h.keep.cell hp hn
end Go.Proofs.YtkefbmbjkijilaaGreatDoor
/- Be -/
set_option linter.unusedVariables false
namespace Go.Proofs.YtkefbmbjkijilaaGreatDoor
open Go.RowKit

/-- There are not too many, and all are right. -/
def writeB (l : List RecD) : Bool := decide (l.length ≤ 80) && allOk l
/-- What is written of records, as bytes; none where they can't be. -/
def wroteN (l : List RecD) : List Nat := if writeB l then putN l.length ++ recsN l else []
theorem wroteN_yes {l : List RecD} (h : writeB l = true) : wroteN l = putN l.length ++ recsN l := if_pos h
theorem wroteN_no {l : List RecD} (h : writeB l = false) : wroteN l = [] := if_neg (by rw [h]; decide)
theorem recN_len {r : RecD} (h : recOkB r = true) : (recN r).length ≤ 9 := by
  have := recOkB_true.1 h
  have h1 := putN_len3 (n := r.k.toNat) (by omega)
  have h2 := putN_len3 (n := r.a.toNat) (by omega)
  have h3 := putN_len3 (n := r.b.toNat) (by omega)
  simp only [recN, List.length_append]
  omega
theorem recsN_len {l : List RecD} (h : allOk l = true) : (recsN l).length ≤ 9 * l.length := by
  induction l with
  | nil => simp [recsN]
  | cons r l ih =>
    simp only [allOk, List.all_cons, Bool.and_eq_true] at h
    have h1 := recN_len h.1
    have h2 := ih h.2
    simp only [recsN, List.length_append, List.length_cons]
    omega
theorem writeB_true {l : List RecD} (h : writeB l = true) : l.length ≤ 80 ∧ allOk l = true := by simpa [writeB] using h
theorem wroteN_len (l : List RecD) : (wroteN l).length ≤ 723 := by
  cases h : writeB l
  · rw [wroteN_no h]; simp
  · obtain ⟨h1, h2⟩ := writeB_true h
    rw [wroteN_yes h, List.length_append]
    have := recsN_len h2
    have := putN_len3 (n := l.length) (by omega)
    omega
end Go.Proofs.YtkefbmbjkijilaaGreatDoor
/- BeS -/
set_option linter.unusedVariables false
namespace Go.Proofs.YtkefbmbjkijilaaGreatDoor
open Go.RowKit

end Go.Proofs.YtkefbmbjkijilaaGreatDoor
