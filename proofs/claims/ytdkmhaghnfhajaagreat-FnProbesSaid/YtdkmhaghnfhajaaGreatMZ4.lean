/-
  The model's l6Apply.
-/
import Derived.Test.YtdkmhaghnfhajaaGreatMZ3
import Derived.Test.YtdkmhaghnfhajaaGreatMZ1
import Derived.StillTailTactics
/- Uh -/
set_option linter.unusedVariables false
namespace Go.Proofs.YtdkmhaghnfhajaaGreat
open Go.RowKit

theorem field_any_ (x : Int) (w : World) :
    Calls Tryz.prog 49 #[.int .i64 x] w fun e w' => e = .returned (.bool (inB x 0 1000000)) ∧ w = w' := by
  go_enter Tryz.func49, Tryz.ntmps49
  go_wp2_with (go_at_call 48; refine (in_any _ _ _ _).mono ?_; rintro e w' ⟨rfl, rfl⟩)
  go_ret
  exact ⟨rfl, rfl⟩
def podOkB (q : Int × Int) : Bool := inB q.1 0 6 && inB q.2 0 1000000
def mntOkB (q : Bool × Int) : Bool := inB q.2 0 5 && (q.1 || q.2 == 0)
def lkOkB (l : List Int) (i : Nat) : Bool := inB (lkA l i) 0 7 && (decide (i = 0) || decide (lkA l (i - 1) < lkA l i))
def partsB (d : PlanD) (s : StD) : Bool :=
  decide (s.pods.length = d.n0) && decide (s.mnts.length = d.n2) && decide (s.devs.length = d.n3) &&
  allB s.pods.length (fun i => podOkB (podA s.pods i)) && allB s.mnts.length (fun i => mntOkB (mntA s.mnts i)) && allB s.lks.length (lkOkB s.lks)
theorem all_getD {α : Type} (d : α) {l : List α} {f : α → Bool} : allB l.length (fun i => f (l.getD i d)) = l.all f := by
  rw [Bool.eq_iff_iff, allB_true, List.all_eq_true]
  constructor
  · intro h x hx
    obtain ⟨i, hi, rfl⟩ := List.mem_iff_getElem.1 hx
    have := h i hi
    simpa [List.getD, hi] using this
  · intro h i hi
    have : l.getD i d = l[i] := by simp [List.getD, hi]
    rw [this]
    exact h _ (List.getElem_mem hi)
theorem rise_iff {l : List Int} : (∀ i, i < l.length → i = 0 ∨ lkA l (i - 1) < lkA l i) ↔ l.Pairwise (· < ·) := by
  rw [List.pairwise_iff_getElem]
  constructor
  · intro h i j hi hj hij
    have : ∀ m, (hm : i + m + 1 < l.length) → l[i]'(by omega) < l[i + m + 1] := fun m => by
      induction m with
      | zero =>
        intro hm
        have := (h (i + 1) (by omega)).resolve_left (by omega)
        rw [Nat.add_sub_cancel] at this
        simpa [lkA, List.getD, show i < l.length by omega, show i + 1 < l.length by omega] using this
      | succ m ih =>
        intro hm
        have h1 := ih (by omega)
        have := (h (i + m + 1 + 1) (by omega)).resolve_left (by omega)
        rw [Nat.add_sub_cancel] at this
        have h2 : l[i + m + 1]'(by omega) < l[i + m + 1 + 1]'(by omega) := by
          simpa [lkA, List.getD, show i + m + 1 < l.length by omega, show i + m + 1 + 1 < l.length by omega] using this
        exact Int.lt_trans h1 h2
    have hm := this (j - i - 1) (by omega)
    have e : i + (j - i - 1) + 1 = j := by omega
    simpa [e] using hm
  · intro h i hi
    by_cases h0 : i = 0
    · exact .inl h0
    · refine .inr ?_
      have := h (i - 1) i (by omega) hi (by omega)
      simpa [lkA, List.getD, hi, show i - 1 < l.length by omega] using this
theorem stOkB_parts (d : PlanD) (s : StD) : stOkB d s = (planOkB d && inB s.ph 0 8 && (s.co == decide (s.ph ≠ 0)) && inB s.ck 0 1000000 && inB s.bo 0 1000000 && inB s.ba 0 6 && inB s.lb 0 1000000 && inB s.gd 0 s.pr && decide (s.pr ≤ d.t) && partsB d s) := by
  have e1 : s.pods.all (fun q => inB q.1 0 6 && inB q.2 0 1000000) = allB s.pods.length (fun i => podOkB (podA s.pods i)) := (all_getD (0, 0) (f := podOkB)).symm
  have e2 : s.mnts.all (fun q => inB q.2 0 5 && (q.1 || q.2 == 0)) = allB s.mnts.length (fun i => mntOkB (mntA s.mnts i)) := (all_getD (false, 0) (f := mntOkB)).symm
  have e3 : (s.lks.all (fun x => inB x 0 7) && decide (s.lks.Pairwise (· < ·))) = allB s.lks.length (lkOkB s.lks) := by
    rw [Bool.eq_iff_iff, Bool.and_eq_true, decide_eq_true_eq, ← all_getD 0, allB_true, allB_true, ← rise_iff]
    simp only [lkOkB, lkA, Bool.and_eq_true, Bool.or_eq_true, decide_eq_true_eq]
    constructor
    · exact fun h i hi => ⟨h.1 i hi, (h.2 i hi).imp id (fun hh => decide_eq_true hh)⟩
    · exact fun h => ⟨fun i hi => (h i hi).1, fun i hi => ((h i hi).2).imp id (fun hh => of_decide_eq_true hh)⟩
  unfold stOkB partsB
  rw [e1, e2, ← e3]
  simp only [Bool.and_assoc]

set_option maxHeartbeats 4000000 in
theorem l5Parts_any (pv sv : Value) (d : PlanD) (s : StD) (w : World) (hp : IsPlan w w.heap.size pv d) (h : IsSt w w.heap.size sv s) :
    Calls Tryz.prog 50 #[pv, sv] w fun e w' => e = .returned (.bool (partsB d s)) ∧ Below w.heap.size w w' := by
  obtain ⟨⟨P0, P1, P2, P3, k0, k1, k2, k3, rfl, -, -, -, -⟩, hb0, hb1, hb2, hb3⟩ := hp
  obtain ⟨⟨A0, A1, A2, A3, c0, c1, c2, c3, rfl, s0, s1, s2, s3⟩, b0, b1, b2, b3⟩ := h
  obtain ⟨n0, n1, n2, n3, x0, x1, x2, x3, l, p, t⟩ := d
  obtain ⟨ph, co, ck, bo, ba, lb, l0, l1, l2, l3, gd, pr⟩ := s
  dsimp only at *
  unfold maxLen at hb0 hb1 hb2 hb3 b0 b1 b2 b3
  have S0 := Lib.hid s0
  have S1 := Lib.hid s1
  have S3 := Lib.hid s3
  clear s0 s1 s2 s3
  have hpt : partsB ⟨n0, n1, n2, n3, x0, x1, x2, x3, l, p, t⟩ ⟨ph, co, ck, bo, ba, lb, l0, l1, l2, l3, gd, pr⟩ = (decide (l0.length = n0) && decide (l1.length = n2) && decide (l2.length = n3) &&
    allB l0.length (fun i => podOkB (podA l0 i)) && allB l1.length (fun i => mntOkB (mntA l1 i)) && allB l3.length (lkOkB l3)) := rfl
  generalize partsB ⟨n0, n1, n2, n3, x0, x1, x2, x3, l, p, t⟩ ⟨ph, co, ck, bo, ba, lb, l0, l1, l2, l3, gd, pr⟩ = ans at *
  have HANS := Lib.hid hpt
  clear hpt
  generalize hq0 : l0.length = m0 at *
  generalize hq1 : l1.length = m1 at *
  generalize hq2 : l2.length = m2 at *
  generalize hq3 : l3.length = m3 at *
  have HQ0 := Lib.hid hq0
  have HQ1 := Lib.hid hq1
  have HQ3 := Lib.hid hq3
  clear hq0 hq1 hq2 hq3
  have T0 := Two.start w (planC P0 P1 P2 P3 n0 k0 n1 k1 n2 k2 n3 k3 l p t) (stC A0 A1 A2 A3 m0 c0 m1 c1 m2 c2 m3 c3 ph co ck bo ba lb gd pr) 29 38
  go_enter Tryz.func50, Tryz.ntmps50
  by_cases e0 : m0 = n0
  · by_cases e1 : m1 = n2
    · by_cases e2 : m2 = n3
      · subst e0 e1 e2
        go_wp2_with fail
        go_loopw [5] (fun i wr => ∃ k : Nat, k ≤ m0 ∧ i = .int .i64 k ∧ Hid (∀ j, j < k → podOkB (podA l0 j) = true) ∧ Two w wr (planC P0 P1 P2 P3 m0 k0 n1 k1 m1 k2 m2 k3 l p t) (stC A0 A1 A2 A3 m0 c0 m1 c1 m2 c2 m3 c3 ph co ck bo ba lb gd pr)) (fun i _ => m0 - (intOf i).toNat)
        case atStart => exact ⟨0, Nat.zero_le _, rfl, Lib.hid (fun j hj => absurd hj (by omega)), T0⟩
        case round =>
          clear T0
          obtain ⟨k, hk, rfl, HA, X⟩ := hrel
          have hC := X.A.C
          have hD := X.O.C
          by_cases hlt : k < m0
          · obtain ⟨b, off, rfl, hb, hc⟩ := ((S0.out.below X.A.K (Nat.le_refl _)).more X.A.K.size).cell hlt
            have hp := podCs_at l0 (i := k) (by rw [HQ0.out]; exact hlt)
            have q0 := (hc 0 (by decide)).trans hp.1
            have q1 := (hc 1 (by decide)).trans hp.2
            rw [Nat.add_zero] at q0
            have HOK : Hid (podOkB (podA l0 k) = (inB (podA l0 k).1 0 6 && inB (podA l0 k).2 0 1000000)) := Lib.hid rfl
            clear hc hp
            generalize hr : podA l0 k = r at *
            have HRR := Lib.hid hr
            clear hr
            obtain ⟨x, y⟩ := r
            dsimp only at q0 q1 HOK
            cases h1 : inB x 0 6
            · have H1 := Lib.hid h1
              clear h1
              go_wp2_with (go_at_call 48; refine (in_any _ _ _ _).mono ?_; rintro e w' ⟨rfl, rfl⟩; rw [H1.out])
              go_ret
              exact ⟨ret_bool (by rw [HANS.out, allB_false hlt (by rw [HRR.out, HOK.out, H1.out]; rfl)]; simp), X.A.K⟩
            · have H1 := Lib.hid h1
              clear h1
              cases h2 : inB y 0 1000000
              · have H2 := Lib.hid h2
                clear h2
                go_wp2_with (first
                  | (go_at_call 48; refine (in_any _ _ _ _).mono ?_; rintro e w' ⟨rfl, rfl⟩; rw [H1.out])
                  | (go_at_call 49; refine (field_any_ _ _).mono ?_; rintro e w' ⟨rfl, rfl⟩; rw [H2.out]))
                go_ret
                exact ⟨ret_bool (by rw [HANS.out, allB_false hlt (by rw [HRR.out, HOK.out, H1.out, H2.out]; rfl)]; simp), X.A.K⟩
              · have H2 := Lib.hid h2
                clear h2
                go_wp2_with (first
                  | (go_at_call 48; refine (in_any _ _ _ _).mono ?_; rintro e w' ⟨rfl, rfl⟩; rw [H1.out])
                  | (go_at_call 49; refine (field_any_ _ _).mono ?_; rintro e w' ⟨rfl, rfl⟩; rw [H2.out]))
                exact ⟨⟨k + 1, by omega, by go_num, Lib.hid (step_all HA.out (by rw [HRR.out, HOK.out, H1.out, H2.out]; rfl)), X⟩, by simp [intOf]; omega⟩
          · obtain rfl : k = m0 := by omega
            have HB0 := Lib.hid (allB_true.2 HA.out)
            clear HA hlt hk
            go_wp2_with fail
            go_loopw [6] (fun i wr => ∃ k' : Nat, k' ≤ m1 ∧ i = .int .i64 k' ∧ Hid (∀ j, j < k' → mntOkB (mntA l1 j) = true) ∧ Two w wr (planC P0 P1 P2 P3 k k0 n1 k1 m1 k2 m2 k3 l p t) (stC A0 A1 A2 A3 k c0 m1 c1 m2 c2 m3 c3 ph co ck bo ba lb gd pr)) (fun i _ => m1 - (intOf i).toNat)
            case atStart => exact ⟨0, Nat.zero_le _, rfl, Lib.hid (fun j hj => absurd hj (by omega)), X⟩
            case round =>
              clear X hC hD
              obtain ⟨k', hk', rfl, HA, X⟩ := hrel
              have hC := X.A.C
              have hD := X.O.C
              by_cases hlt : k' < m1
              · obtain ⟨b, off, rfl, hb, hc⟩ := ((S1.out.below X.A.K (Nat.le_refl _)).more X.A.K.size).cell hlt
                have hp := mntCs_at l1 (i := k') (by rw [HQ1.out]; exact hlt)
                have q0 := (hc 0 (by decide)).trans hp.1
                have q1 := (hc 1 (by decide)).trans hp.2
                rw [Nat.add_zero] at q0
                have HOK : Hid (mntOkB (mntA l1 k') = (inB (mntA l1 k').2 0 5 && ((mntA l1 k').1 || (mntA l1 k').2 == 0))) := Lib.hid rfl
                clear hc hp
                generalize hr : mntA l1 k' = r at *
                have HRR := Lib.hid hr
                clear hr
                obtain ⟨x, y⟩ := r
                dsimp only at q0 q1 HOK
                cases h1 : inB y 0 5
                · have H1 := Lib.hid h1
                  clear h1
                  go_wp2_with (go_at_call 48; refine (in_any _ _ _ _).mono ?_; rintro e w' ⟨rfl, rfl⟩; rw [H1.out])
                  go_ret
                  exact ⟨ret_bool (by rw [HANS.out, allB_false (f := fun i => mntOkB (mntA l1 i)) hlt (by rw [HRR.out, HOK.out, H1.out]; rfl)]; simp), X.A.K⟩
                · have H1 := Lib.hid h1
                  clear h1
                  cases x
                  · by_cases hy : y = 0
                    · subst hy
                      go_wp2_with (go_at_call 48; refine (in_any _ _ _ _).mono ?_; rintro e w' ⟨rfl, rfl⟩; rw [H1.out])
                      exact ⟨⟨k' + 1, by omega, by go_num, Lib.hid (step_all (f := fun i => mntOkB (mntA l1 i)) HA.out (by rw [HRR.out, HOK.out, H1.out]; rfl)), X⟩, by simp [intOf]; omega⟩
                    · have hy' : ¬ y = 0 := hy
                      go_wp2_with (go_at_call 48; refine (in_any _ _ _ _).mono ?_; rintro e w' ⟨rfl, rfl⟩; rw [H1.out])
                      go_ret
                      exact ⟨ret_bool (by rw [HANS.out, allB_false (f := fun i => mntOkB (mntA l1 i)) hlt (by rw [HRR.out, HOK.out, H1.out]; simp [hy])]; simp), X.A.K⟩
                  · go_wp2_with (go_at_call 48; refine (in_any _ _ _ _).mono ?_; rintro e w' ⟨rfl, rfl⟩; rw [H1.out])
                    exact ⟨⟨k' + 1, by omega, by go_num, Lib.hid (step_all (f := fun i => mntOkB (mntA l1 i)) HA.out (by rw [HRR.out, HOK.out, H1.out]; rfl)), X⟩, by simp [intOf]; omega⟩
              · obtain rfl : k' = m1 := by omega
                have HB1 := Lib.hid (allB_true.2 HA.out)
                clear HA hlt hk'
                go_wp2_with fail
                go_loopw [7] (fun i wr => ∃ i' : Nat, i' ≤ m3 ∧ i = .int .i64 i' ∧ Hid (∀ j, j < i' → lkOkB l3 j = true) ∧ Two w wr (planC P0 P1 P2 P3 k k0 n1 k1 k' k2 m2 k3 l p t) (stC A0 A1 A2 A3 k c0 k' c1 m2 c2 m3 c3 ph co ck bo ba lb gd pr)) (fun i _ => m3 - (intOf i).toNat)
                case atStart => exact ⟨0, Nat.zero_le _, rfl, Lib.hid (fun j hj => absurd hj (by omega)), X⟩
                case round =>
                  clear X hC hD
                  obtain ⟨i', hi', rfl, HA, X⟩ := hrel
                  have hC := X.A.C
                  have hD := X.O.C
                  by_cases hlt : i' < m3
                  · obtain ⟨b, off, rfl, hb, hc⟩ := ((S3.out.below X.A.K (Nat.le_refl _)).more X.A.K.size).cell hlt
                    have q0 := hc 0 (by decide)
                    rw [Nat.add_zero, Nat.mul_one, Nat.add_zero, lkCs_at l3 (i := i') (by rw [HQ3.out]; exact hlt)] at q0
                    have q1 : wr.cell? ⟨b, off + (i' - 1), none⟩ = some (.int .i64 (lkA l3 (i' - 1))) := by
                      obtain ⟨b', off', e, -, hc'⟩ := ((S3.out.below X.A.K (Nat.le_refl _)).more X.A.K.size).cell (i := i' - 1) (by omega)
                      injection e with e
                      injection e with e1 e2 _
                      subst e1 e2
                      have := hc' 0 (by decide)
                      rwa [Nat.add_zero, Nat.mul_one, Nat.add_zero, lkCs_at l3 (i := i' - 1) (by rw [HQ3.out]; omega)] at this
                    have HOK : Hid (lkOkB l3 i' = (inB (lkA l3 i') 0 7 && (decide (i' = 0) || decide (lkA l3 (i' - 1) < lkA l3 i')))) := Lib.hid rfl
                    clear hc
                    generalize hx : lkA l3 i' = x at *
                    generalize hy : lkA l3 (i' - 1) = y at *
                    clear hx hy
                    cases h1 : inB x 0 7
                    · have H1 := Lib.hid h1
                      clear h1
                      go_wp2_with fail
                      go_quiet ((go_at_call 48; exact Calls.quiet_of_same ((in_any _ _ _ _).mono fun e w' h => ⟨h.1.trans (by rw [H1.out]), h.2.symm⟩)))
                      go_wp2
                      go_ret
                      exact ⟨ret_bool (by rw [HANS.out, allB_false (f := lkOkB l3) hlt (by rw [HOK.out, H1.out]; rfl)]; simp), below_drewN X.A.K _⟩
                    · have H1 := Lib.hid h1
                      clear h1
                      by_cases hi0 : i' = 0
                      · subst hi0
                        rw [Nat.add_zero] at q0
                        go_wp2_with fail
                        go_quiet ((go_at_call 48; exact Calls.quiet_of_same ((in_any _ _ _ _).mono fun e w' h => ⟨h.1.trans (by rw [H1.out]), h.2.symm⟩)))
                        go_wp2
                        exact ⟨⟨1, by omega, by go_num, Lib.hid (step_all (f := lkOkB l3) HA.out (by rw [HOK.out, H1.out]; rfl)), ⟨X.A.drewN _, X.O.drewN _⟩⟩, by simp [intOf]; omega⟩
                      · have hpos : (0 : Int) < (i' : Int) := by omega
                        have hposN : 0 < i' := by omega
                        have hposD : decide ((0 : Int) < (i' : Int)) = true := by simp; omega
                        have hposE : decide (0 < i') = true := by simp; omega
                        by_cases hxy : y < x
                        · go_wp2_with fail
                          go_quiet ((go_at_call 48; exact Calls.quiet_of_same ((in_any _ _ _ _).mono fun e w' h => ⟨h.1.trans (by rw [H1.out]), h.2.symm⟩)))
                          have hle : ¬ x ≤ y := by omega
                          go_wp2
                          exact ⟨⟨i' + 1, by omega, by go_num, Lib.hid (step_all (f := lkOkB l3) HA.out (by rw [HOK.out, H1.out]; simp [hxy])), ⟨X.A.drewN _, X.O.drewN _⟩⟩, by simp [intOf]; omega⟩
                        · have hle : x ≤ y := by omega
                          go_wp2_with fail
                          go_quiet ((go_at_call 48; exact Calls.quiet_of_same ((in_any _ _ _ _).mono fun e w' h => ⟨h.1.trans (by rw [H1.out]), h.2.symm⟩)))
                          go_wp2
                          go_ret
                          exact ⟨ret_bool (by rw [HANS.out, allB_false (f := lkOkB l3) hlt (by rw [HOK.out, H1.out]; simp [hi0]; omega)]; simp), below_drewN X.A.K _⟩
                  · obtain rfl : i' = m3 := by omega
                    have HB3 := Lib.hid (allB_true.2 HA.out)
                    clear HA hlt hi'
                    go_wp2_with fail
                    go_ret
                    exact ⟨ret_bool (by rw [HANS.out, HB0.out, HB1.out, HB3.out]; simp), X.A.K⟩
      · go_wp2_with fail
        go_ret
        exact ⟨ret_bool (by rw [HANS.out]; simp [e2]), ((Below.refl _ _).alloc (Nat.le_refl _) _).alloc (by simp) _⟩
    · go_wp2_with fail
      go_ret
      exact ⟨ret_bool (by rw [HANS.out]; simp [e1]), ((Below.refl _ _).alloc (Nat.le_refl _) _).alloc (by simp) _⟩
  · go_wp2_with fail
    go_ret
    exact ⟨ret_bool (by rw [HANS.out]; simp [e0]), T0.A.K⟩

end Go.Proofs.YtdkmhaghnfhajaaGreat
/- Ur -/
set_option linter.unusedVariables false
namespace Go.Proofs.YtdkmhaghnfhajaaGreat
open Go.RowKit

abbrev recC (r : RecD) : Value := .agg #[.int .i64 r.k, .int .i64 r.a, .int .i64 r.b]
set_option maxHeartbeats 2000000 in
theorem l6There_any (v : Value) (s : StD) (r : RecD) (w : World) (h : IsSt w w.heap.size v s) :
    Calls Tryz.prog 57 #[v, recC r] w fun e w' => e = .returned (.bool (thereB s r)) ∧ Below w.heap.size w w' := by
  obtain ⟨⟨A0, A1, A2, A3, c0, c1, c2, c3, rfl, -, -, -, -⟩, b0, b1, b2, b3⟩ := h
  obtain ⟨ph, co, ck, bo, ba, lb, l0, l1, l2, l3, gd, pr⟩ := s
  obtain ⟨k, a, b⟩ := r
  dsimp only at *
  unfold maxLen at b0 b1 b2 b3
  have h2 : k = 2 → thereB ⟨ph, co, ck, bo, ba, lb, l0, l1, l2, l3, gd, pr⟩ ⟨k, a, b⟩ = decide (a < l0.length) := fun h => by subst h; rfl
  have h3 : k = 3 ∨ k = 4 → thereB ⟨ph, co, ck, bo, ba, lb, l0, l1, l2, l3, gd, pr⟩ ⟨k, a, b⟩ = decide (a < l1.length) := fun h => by rcases h with rfl | rfl <;> rfl
  have h5 : k = 5 → thereB ⟨ph, co, ck, bo, ba, lb, l0, l1, l2, l3, gd, pr⟩ ⟨k, a, b⟩ = decide (a < l2.length) := fun h => by subst h; rfl
  have hn : k ≠ 2 → k ≠ 3 → k ≠ 4 → k ≠ 5 → thereB ⟨ph, co, ck, bo, ba, lb, l0, l1, l2, l3, gd, pr⟩ ⟨k, a, b⟩ = true := fun a1 a2 a3 a4 => by simp [thereB, a1, a2, a3, a4]
  generalize thereB ⟨ph, co, ck, bo, ba, lb, l0, l1, l2, l3, gd, pr⟩ ⟨k, a, b⟩ = ans at *
  generalize l0.length = n0 at *
  generalize l1.length = n1 at *
  generalize l2.length = n2 at *
  generalize l3.length = n3 at *
  have H2 := Lib.hid h2
  have H3 := Lib.hid h3
  have H5 := Lib.hid h5
  have HN := Lib.hid hn
  clear h2 h3 h5 hn
  unfold recC
  dsimp only
  have K0 := ((Below.refl w.heap.size w).alloc (Nat.le_refl _) (.cells (stC A0 A1 A2 A3 n0 c0 n1 c1 n2 c2 n3 c3 ph co ck bo ba lb gd pr) 38))
  have K1 := K0.alloc K0.size (.cells #[.int .i64 k, .int .i64 a, .int .i64 b] 60)
  have HK := Lib.hid K1
  clear K0 K1
  by_cases e2 : k = 2
  · have HA := Lib.hid (H2.out e2)
    subst e2
    go_enter Tryz.func57, Tryz.ntmps57
    go_wp2
    go_ret
    exact ⟨ret_bool HA.out.symm, HK.out⟩
  · by_cases e3 : k = 3
    · have HA := Lib.hid (H3.out (.inl e3))
      subst e3
      go_enter Tryz.func57, Tryz.ntmps57
      go_wp2
      go_ret
      exact ⟨ret_bool HA.out.symm, HK.out⟩
    · by_cases e4 : k = 4
      · have HA := Lib.hid (H3.out (.inr e4))
        subst e4
        go_enter Tryz.func57, Tryz.ntmps57
        go_wp2
        go_ret
        exact ⟨ret_bool HA.out.symm, HK.out⟩
      · by_cases e5 : k = 5
        · have HA := Lib.hid (H5.out e5)
          subst e5
          go_enter Tryz.func57, Tryz.ntmps57
          go_wp2
          go_ret
          exact ⟨ret_bool HA.out.symm, HK.out⟩
        · have HA := Lib.hid (HN.out e2 e3 e4 e5)
          have x2 : (k == 2) = false := by simp [e2]
          have x3 : (k == 3) = false := by simp [e3]
          have x4 : (k == 4) = false := by simp [e4]
          have x5 : (k == 5) = false := by simp [e5]
          go_enter Tryz.func57, Tryz.ntmps57
          go_wp2
          go_ret
          exact ⟨ret_bool HA.out.symm, HK.out⟩
end Go.Proofs.YtdkmhaghnfhajaaGreat
/- Us -/
set_option linter.unusedVariables false
namespace Go.Proofs.YtdkmhaghnfhajaaGreat
open Go.RowKit

theorem three (w : World) (o o' o'' : Obj) : Below w.heap.size w (((w.alloc o).alloc o').alloc o'') := (((Below.refl _ _).alloc (Nat.le_refl _) _).alloc (by simp) _).alloc (by simp; omega) _
/-- The blocks of a state's lists. -/
def rowsOf (v : Value) (g : Nat) : Prop := ∃ (cs : Array Value) (i : Nat) (u : Value), v = .agg cs ∧ cs[i]? = some u ∧ u.ownBlock = some g
theorem OwnSt.blocks {w : World} {B : Nat} {v : Value} {s : StD} (h : OwnSt w B v s) {g : Nat} (hg : rowsOf v g) : B ≤ g ∧ g < w.heap.size := by
  obtain ⟨v0, v1, v2, v3, rfl, h0, h1, h2, h3⟩ := h.it
  obtain ⟨cs, i, u, hv, hc, hu⟩ := hg
  injection hv with hv
  subst hv
  match i, hc with
  | 0, hc => cases hc; cases hu
  | 1, hc => cases hc; cases hu
  | 2, hc => cases hc; cases hu
  | 3, hc => cases hc; cases hu
  | 4, hc => cases hc; cases hu
  | 5, hc => cases hc; cases hu
  | 6, hc => cases hc; exact h0.lt g hu
  | 7, hc => cases hc; exact h1.lt g hu
  | 8, hc => cases hc; exact h2.lt g hu
  | 9, hc => cases hc; exact h3.lt g hu
  | 10, hc => cases hc; cases hu
  | 11, hc => cases hc; cases hu
  | k + 12, hc => simp at hc
/-- What applying a record answers: it writes into the state's own lists alone. -/
def Appl (w : World) (B : Nat) (v : Value) (t : StD) (e : Ending) (w' : World) : Prop := ∃ v', e = .returned v' ∧ OwnSt w' B v' t ∧ Keeps (rowsOf v) w w'

set_option maxRecDepth 4000 in
set_option maxHeartbeats 4000000 in
theorem apply_clock (v : Value) (s : StD) (a b : Int) (w : World) (B : Nat) (hB : B ≤ w.heap.size) (h : OwnSt w B v s) :
    Calls Tryz.prog 59 #[v, recC ⟨8, a, b⟩] w (Appl w B v (applyR s ⟨8, a, b⟩)) := by
  obtain ⟨v0, v1, v2, v3, rfl, h0, h1, h2, h3⟩ := h.it
  have H0 := Lib.hid h0
  have H1 := Lib.hid h1
  have H2 := Lib.hid h2
  have H3 := Lib.hid h3
  obtain ⟨A0, c0, rfl, r0, s0⟩ := open_rowR h0
  obtain ⟨A1, c1, rfl, r1, s1⟩ := open_rowR h1
  obtain ⟨A2, c2, rfl, r2, s2⟩ := open_rowR h2
  obtain ⟨A3, c3, rfl, r3, s3⟩ := open_rowR h3
  have S3 := Lib.hid s3
  obtain ⟨ph, co, ck, bo, ba, lb, l0, l1, l2, l3, gd, pr⟩ := s
  clear h h0 h1 h2 h3 r0 r1 r2 r3 s0 s1 s2 s3
  have HB := Lib.hid hB
  clear hB
  dsimp only at *
  unfold recC
  dsimp only
  have HE : Hid (applyR ⟨ph, co, ck, bo, ba, lb, l0, l1, l2, l3, gd, pr⟩ ⟨8, a, b⟩ = ⟨ph, co, a, bo, ba, lb, l0, l1, l2, l3, gd, pr⟩) := Lib.hid (rfl)
  go_enter Tryz.func59, Tryz.ntmps59
  go_wp2
  refine bodyPost_ret (v := .agg (stC A0 A1 A2 A3 l0.length c0 l1.length c1 l2.length c2 l3.length c3 ph co a bo ba lb gd pr)) ?_ rfl ⟨_, rfl, ?_, Keeps.of_below (three _ _ _ _)⟩
  · simp [results, Tryz.results59, go_sem]
  · rw [HE.out]
    exact ⟨_, _, _, _, rfl, ownsRow_below H0.out (three _ _ _ _), ownsRow_below H1.out (three _ _ _ _), ownsRow_below H2.out (three _ _ _ _), ownsRow_below H3.out (three _ _ _ _)⟩

set_option maxRecDepth 4000 in
set_option maxHeartbeats 4000000 in
theorem apply_band (v : Value) (s : StD) (a b : Int) (w : World) (B : Nat) (hB : B ≤ w.heap.size) (h : OwnSt w B v s) :
    Calls Tryz.prog 59 #[v, recC ⟨9, a, b⟩] w (Appl w B v (applyR s ⟨9, a, b⟩)) := by
  obtain ⟨v0, v1, v2, v3, rfl, h0, h1, h2, h3⟩ := h.it
  have H0 := Lib.hid h0
  have H1 := Lib.hid h1
  have H2 := Lib.hid h2
  have H3 := Lib.hid h3
  obtain ⟨A0, c0, rfl, r0, s0⟩ := open_rowR h0
  obtain ⟨A1, c1, rfl, r1, s1⟩ := open_rowR h1
  obtain ⟨A2, c2, rfl, r2, s2⟩ := open_rowR h2
  obtain ⟨A3, c3, rfl, r3, s3⟩ := open_rowR h3
  have S3 := Lib.hid s3
  obtain ⟨ph, co, ck, bo, ba, lb, l0, l1, l2, l3, gd, pr⟩ := s
  clear h h0 h1 h2 h3 r0 r1 r2 r3 s0 s1 s2 s3
  have HB := Lib.hid hB
  clear hB
  dsimp only at *
  unfold recC
  dsimp only
  have HE : Hid (applyR ⟨ph, co, ck, bo, ba, lb, l0, l1, l2, l3, gd, pr⟩ ⟨9, a, b⟩ = ⟨ph, co, ck, bo, a, lb, l0, l1, l2, l3, gd, pr⟩) := Lib.hid (rfl)
  go_enter Tryz.func59, Tryz.ntmps59
  go_wp2
  refine bodyPost_ret (v := .agg (stC A0 A1 A2 A3 l0.length c0 l1.length c1 l2.length c2 l3.length c3 ph co ck bo a lb gd pr)) ?_ rfl ⟨_, rfl, ?_, Keeps.of_below (three _ _ _ _)⟩
  · simp [results, Tryz.results59, go_sem]
  · rw [HE.out]
    exact ⟨_, _, _, _, rfl, ownsRow_below H0.out (three _ _ _ _), ownsRow_below H1.out (three _ _ _ _), ownsRow_below H2.out (three _ _ _ _), ownsRow_below H3.out (three _ _ _ _)⟩

set_option maxRecDepth 4000 in
set_option maxHeartbeats 4000000 in
theorem apply_boot (v : Value) (s : StD) (a b : Int) (w : World) (B : Nat) (hB : B ≤ w.heap.size) (h : OwnSt w B v s) :
    Calls Tryz.prog 59 #[v, recC ⟨10, a, b⟩] w (Appl w B v (applyR s ⟨10, a, b⟩)) := by
  obtain ⟨v0, v1, v2, v3, rfl, h0, h1, h2, h3⟩ := h.it
  have H0 := Lib.hid h0
  have H1 := Lib.hid h1
  have H2 := Lib.hid h2
  have H3 := Lib.hid h3
  obtain ⟨A0, c0, rfl, r0, s0⟩ := open_rowR h0
  obtain ⟨A1, c1, rfl, r1, s1⟩ := open_rowR h1
  obtain ⟨A2, c2, rfl, r2, s2⟩ := open_rowR h2
  obtain ⟨A3, c3, rfl, r3, s3⟩ := open_rowR h3
  have S3 := Lib.hid s3
  obtain ⟨ph, co, ck, bo, ba, lb, l0, l1, l2, l3, gd, pr⟩ := s
  clear h h0 h1 h2 h3 r0 r1 r2 r3 s0 s1 s2 s3
  have HB := Lib.hid hB
  clear hB
  dsimp only at *
  unfold recC
  dsimp only
  have HE : Hid (applyR ⟨ph, co, ck, bo, ba, lb, l0, l1, l2, l3, gd, pr⟩ ⟨10, a, b⟩ = ⟨ph, co, ck, a, ba, lb, l0, l1, l2, l3, gd, pr⟩) := Lib.hid (rfl)
  go_enter Tryz.func59, Tryz.ntmps59
  go_wp2
  refine bodyPost_ret (v := .agg (stC A0 A1 A2 A3 l0.length c0 l1.length c1 l2.length c2 l3.length c3 ph co ck a ba lb gd pr)) ?_ rfl ⟨_, rfl, ?_, Keeps.of_below (three _ _ _ _)⟩
  · simp [results, Tryz.results59, go_sem]
  · rw [HE.out]
    exact ⟨_, _, _, _, rfl, ownsRow_below H0.out (three _ _ _ _), ownsRow_below H1.out (three _ _ _ _), ownsRow_below H2.out (three _ _ _ _), ownsRow_below H3.out (three _ _ _ _)⟩

set_option maxRecDepth 4000 in
set_option maxHeartbeats 4000000 in
theorem apply_lockBy (v : Value) (s : StD) (a b : Int) (w : World) (B : Nat) (hB : B ≤ w.heap.size) (h : OwnSt w B v s) :
    Calls Tryz.prog 59 #[v, recC ⟨11, a, b⟩] w (Appl w B v (applyR s ⟨11, a, b⟩)) := by
  obtain ⟨v0, v1, v2, v3, rfl, h0, h1, h2, h3⟩ := h.it
  have H0 := Lib.hid h0
  have H1 := Lib.hid h1
  have H2 := Lib.hid h2
  have H3 := Lib.hid h3
  obtain ⟨A0, c0, rfl, r0, s0⟩ := open_rowR h0
  obtain ⟨A1, c1, rfl, r1, s1⟩ := open_rowR h1
  obtain ⟨A2, c2, rfl, r2, s2⟩ := open_rowR h2
  obtain ⟨A3, c3, rfl, r3, s3⟩ := open_rowR h3
  have S3 := Lib.hid s3
  obtain ⟨ph, co, ck, bo, ba, lb, l0, l1, l2, l3, gd, pr⟩ := s
  clear h h0 h1 h2 h3 r0 r1 r2 r3 s0 s1 s2 s3
  have HB := Lib.hid hB
  clear hB
  dsimp only at *
  unfold recC
  dsimp only
  have HE : Hid (applyR ⟨ph, co, ck, bo, ba, lb, l0, l1, l2, l3, gd, pr⟩ ⟨11, a, b⟩ = ⟨ph, co, ck, bo, ba, a, l0, l1, l2, l3, gd, pr⟩) := Lib.hid (rfl)
  go_enter Tryz.func59, Tryz.ntmps59
  go_wp2
  refine bodyPost_ret (v := .agg (stC A0 A1 A2 A3 l0.length c0 l1.length c1 l2.length c2 l3.length c3 ph co ck bo ba a gd pr)) ?_ rfl ⟨_, rfl, ?_, Keeps.of_below (three _ _ _ _)⟩
  · simp [results, Tryz.results59, go_sem]
  · rw [HE.out]
    exact ⟨_, _, _, _, rfl, ownsRow_below H0.out (three _ _ _ _), ownsRow_below H1.out (three _ _ _ _), ownsRow_below H2.out (three _ _ _ _), ownsRow_below H3.out (three _ _ _ _)⟩

set_option maxRecDepth 4000 in
set_option maxHeartbeats 4000000 in
theorem apply_probe (v : Value) (s : StD) (a b : Int) (w : World) (B : Nat) (hB : B ≤ w.heap.size) (h : OwnSt w B v s) :
    Calls Tryz.prog 59 #[v, recC ⟨12, a, b⟩] w (Appl w B v (applyR s ⟨12, a, b⟩)) := by
  obtain ⟨v0, v1, v2, v3, rfl, h0, h1, h2, h3⟩ := h.it
  have H0 := Lib.hid h0
  have H1 := Lib.hid h1
  have H2 := Lib.hid h2
  have H3 := Lib.hid h3
  obtain ⟨A0, c0, rfl, r0, s0⟩ := open_rowR h0
  obtain ⟨A1, c1, rfl, r1, s1⟩ := open_rowR h1
  obtain ⟨A2, c2, rfl, r2, s2⟩ := open_rowR h2
  obtain ⟨A3, c3, rfl, r3, s3⟩ := open_rowR h3
  have S3 := Lib.hid s3
  obtain ⟨ph, co, ck, bo, ba, lb, l0, l1, l2, l3, gd, pr⟩ := s
  clear h h0 h1 h2 h3 r0 r1 r2 r3 s0 s1 s2 s3
  have HB := Lib.hid hB
  clear hB
  dsimp only at *
  unfold recC
  dsimp only
  have HE : Hid (applyR ⟨ph, co, ck, bo, ba, lb, l0, l1, l2, l3, gd, pr⟩ ⟨12, a, b⟩ = ⟨ph, co, ck, bo, ba, lb, l0, l1, l2, l3, a, b⟩) := Lib.hid (rfl)
  go_enter Tryz.func59, Tryz.ntmps59
  go_wp2
  refine bodyPost_ret (v := .agg (stC A0 A1 A2 A3 l0.length c0 l1.length c1 l2.length c2 l3.length c3 ph co ck bo ba lb a b)) ?_ rfl ⟨_, rfl, ?_, Keeps.of_below (three _ _ _ _)⟩
  · simp [results, Tryz.results59, go_sem]
  · rw [HE.out]
    exact ⟨_, _, _, _, rfl, ownsRow_below H0.out (three _ _ _ _), ownsRow_below H1.out (three _ _ _ _), ownsRow_below H2.out (three _ _ _ _), ownsRow_below H3.out (three _ _ _ _)⟩

set_option maxRecDepth 4000 in
set_option maxHeartbeats 4000000 in
theorem apply_phase (v : Value) (s : StD) (a b : Int) (w : World) (B : Nat) (hB : B ≤ w.heap.size) (h : OwnSt w B v s) (ha : a ≠ 0) :
    Calls Tryz.prog 59 #[v, recC ⟨1, a, b⟩] w (Appl w B v (applyR s ⟨1, a, b⟩)) := by
  obtain ⟨v0, v1, v2, v3, rfl, h0, h1, h2, h3⟩ := h.it
  have H0 := Lib.hid h0
  have H1 := Lib.hid h1
  have H2 := Lib.hid h2
  have H3 := Lib.hid h3
  obtain ⟨A0, c0, rfl, r0, s0⟩ := open_rowR h0
  obtain ⟨A1, c1, rfl, r1, s1⟩ := open_rowR h1
  obtain ⟨A2, c2, rfl, r2, s2⟩ := open_rowR h2
  obtain ⟨A3, c3, rfl, r3, s3⟩ := open_rowR h3
  have S3 := Lib.hid s3
  obtain ⟨ph, co, ck, bo, ba, lb, l0, l1, l2, l3, gd, pr⟩ := s
  clear h h0 h1 h2 h3 r0 r1 r2 r3 s0 s1 s2 s3
  have HB := Lib.hid hB
  clear hB
  dsimp only at *
  unfold recC
  dsimp only
  have HE : Hid (applyR ⟨ph, co, ck, bo, ba, lb, l0, l1, l2, l3, gd, pr⟩ ⟨1, a, b⟩ = ⟨a, true, ck, bo, ba, lb, l0, l1, l2, l3, gd, pr⟩) := Lib.hid (by simp [applyR, ha])
  have hab : (a != 0) = true := by simp [ha]
  have hac : (a == 0) = false := by simp [ha]
  go_enter Tryz.func59, Tryz.ntmps59
  go_wp2
  refine bodyPost_ret (v := .agg (stC A0 A1 A2 A3 l0.length c0 l1.length c1 l2.length c2 l3.length c3 a true ck bo ba lb gd pr)) ?_ rfl ⟨_, rfl, ?_, Keeps.of_below (three _ _ _ _)⟩
  · simp [results, Tryz.results59, go_sem]
  · rw [HE.out]
    exact ⟨_, _, _, _, rfl, ownsRow_below H0.out (three _ _ _ _), ownsRow_below H1.out (three _ _ _ _), ownsRow_below H2.out (three _ _ _ _), ownsRow_below H3.out (three _ _ _ _)⟩

set_option maxRecDepth 4000 in
set_option maxHeartbeats 4000000 in
theorem apply_idle (v : Value) (s : StD) (a b : Int) (w : World) (B : Nat) (hB : B ≤ w.heap.size) (h : OwnSt w B v s) (ha : a = 0) :
    Calls Tryz.prog 59 #[v, recC ⟨1, a, b⟩] w (Appl w B v (applyR s ⟨1, a, b⟩)) := by
  obtain ⟨v0, v1, v2, v3, rfl, h0, h1, h2, h3⟩ := h.it
  have H0 := Lib.hid h0
  have H1 := Lib.hid h1
  have H2 := Lib.hid h2
  have H3 := Lib.hid h3
  obtain ⟨A0, c0, rfl, r0, s0⟩ := open_rowR h0
  obtain ⟨A1, c1, rfl, r1, s1⟩ := open_rowR h1
  obtain ⟨A2, c2, rfl, r2, s2⟩ := open_rowR h2
  obtain ⟨A3, c3, rfl, r3, s3⟩ := open_rowR h3
  have S3 := Lib.hid s3
  obtain ⟨ph, co, ck, bo, ba, lb, l0, l1, l2, l3, gd, pr⟩ := s
  clear h h0 h1 h2 h3 r0 r1 r2 r3 s0 s1 s2 s3
  have HB := Lib.hid hB
  clear hB
  dsimp only at *
  unfold recC
  dsimp only
  subst ha
  have HE : Hid (applyR ⟨ph, co, ck, bo, ba, lb, l0, l1, l2, l3, gd, pr⟩ ⟨1, 0, b⟩ = ⟨0, false, ck, bo, ba, lb, l0, l1, l2, [], 0, 0⟩) := Lib.hid (rfl)
  go_enter Tryz.func59, Tryz.ntmps59
  go_wp2
  refine bodyPost_ret (v := .agg (stC A0 A1 A2 (some ⟨w.heap.size + 1 + 1 + 1, 0, none⟩) l0.length c0 l1.length c1 l2.length c2 0 0 0 false ck bo ba lb 0 0)) ?_ rfl ⟨_, rfl, ?_, Keeps.of_below ((three _ _ _ _).alloc (by simp; omega) _)⟩
  · simp [results, Tryz.results59, go_sem]
  · rw [HE.out]
    exact ⟨_, _, _, _, rfl, ownsRow_below H0.out ((three _ _ _ _).alloc (by simp; omega) _), ownsRow_below H1.out ((three _ _ _ _).alloc (by simp; omega) _), ownsRow_below H2.out ((three _ _ _ _).alloc (by simp; omega) _), made_at _ _ _ _ _ (by simp) (by have := HB.out; simp; omega)⟩

set_option maxRecDepth 4000 in
set_option maxHeartbeats 4000000 in
theorem apply_lock (v : Value) (s : StD) (a b : Int) (w : World) (B : Nat) (hB : B ≤ w.heap.size) (h : OwnSt w B v s) (hf : s.lks.length ≤ 1048576) (hr : s.lks.Pairwise (· < ·)) :
    Calls Tryz.prog 59 #[v, recC ⟨6, a, b⟩] w (Appl w B v (applyR s ⟨6, a, b⟩)) := by
  obtain ⟨v0, v1, v2, v3, rfl, h0, h1, h2, h3⟩ := h.it
  have H0 := Lib.hid h0
  have H1 := Lib.hid h1
  have H2 := Lib.hid h2
  have H3 := Lib.hid h3
  obtain ⟨A0, c0, rfl, r0, s0⟩ := open_rowR h0
  obtain ⟨A1, c1, rfl, r1, s1⟩ := open_rowR h1
  obtain ⟨A2, c2, rfl, r2, s2⟩ := open_rowR h2
  obtain ⟨A3, c3, rfl, r3, s3⟩ := open_rowR h3
  have S3 := Lib.hid s3
  obtain ⟨ph, co, ck, bo, ba, lb, l0, l1, l2, l3, gd, pr⟩ := s
  clear h h0 h1 h2 h3 r0 r1 r2 r3 s0 s1 s2 s3
  have HB := Lib.hid hB
  clear hB
  dsimp only at *
  unfold recC
  dsimp only
  have HE : Hid (applyR ⟨ph, co, ck, bo, ba, lb, l0, l1, l2, l3, gd, pr⟩ ⟨6, a, b⟩ = ⟨ph, co, ck, bo, ba, lb, l0, l1, l2, withN a l3, gd, pr⟩) := Lib.hid (rfl)
  have HR := Lib.hid hr
  clear hr
  have HF := Lib.hid hf
  clear hf
  go_enter Tryz.func59, Tryz.ntmps59
  go_wp2_with fail
  have X1 := Own.box w (stC A0 A1 A2 A3 l0.length c0 l1.length c1 l2.length c2 l3.length c3 ph co ck bo ba lb gd pr) 38
  have X2 := X1.alloc (.cells #[.int .i64 6, .int .i64 a, .int .i64 b] 60)
  have X3 := X2.alloc (.cells (stC none none none none 0 0 0 0 0 0 0 0 0 false 0 0 0 0 0 0) 38)
  have O3 := Own.box2 X2.K (stC none none none none 0 0 0 0 0 0 0 0 0 false 0 0 0 0 0 0) 38
  refine (l6With_any _ _ _ l3 a _ ((S3.out.below X3.K (Nat.le_refl _)).more X3.K.size) rfl HF.out HR.out).mono ?_
  rintro e w2 ⟨v3, rfl, hown, hb⟩
  obtain ⟨B3, d3, rfl, -⟩ := open_rowR hown
  have X := X3.step hb
  have O := O3.step hb
  have HO := Lib.hid (ownsRow_base (base' := w.heap.size + 3) hown (by simp))
  simp only [heap_size_alloc_] at O
  have hC := X.C
  have hF := X.F
  have hD := O.C
  have hG := O.F
  clear X1 X2 X3 O3 hb hown
  go_wp2
  refine bodyPost_ret (v := .agg (stC A0 A1 A2 B3 l0.length c0 l1.length c1 l2.length c2 (withN a l3).length d3 ph co ck bo ba lb gd pr)) ?_ rfl ⟨_, rfl, ?_, Keeps.of_below ?_⟩
  · simp [results, Tryz.results59, go_sem, hD]
  · rw [HE.out]
    refine ⟨_, _, _, _, rfl, ownsRow_below H0.out ?_, ownsRow_below H1.out ?_, ownsRow_below H2.out ?_, ownsRow_base (base := w.heap.size + 3) ?_ (by have := HB.out; omega)⟩
    iterate 3
      · iterate 13 (refine Below.setCell ?_ (by simp <;> omega) _)
        exact X.K
    · iterate 13 (refine ownsRow_setCell_below ?_ (by simp <;> omega) _)
      exact HO.out
  · iterate 13 (refine Below.setCell ?_ (by simp <;> omega) _)
    exact X.K

set_option maxRecDepth 4000 in
set_option maxHeartbeats 4000000 in
theorem apply_unlock (v : Value) (s : StD) (a b : Int) (w : World) (B : Nat) (hB : B ≤ w.heap.size) (h : OwnSt w B v s) (hf : s.lks.length ≤ 1048576) :
    Calls Tryz.prog 59 #[v, recC ⟨7, a, b⟩] w (Appl w B v (applyR s ⟨7, a, b⟩)) := by
  obtain ⟨v0, v1, v2, v3, rfl, h0, h1, h2, h3⟩ := h.it
  have H0 := Lib.hid h0
  have H1 := Lib.hid h1
  have H2 := Lib.hid h2
  have H3 := Lib.hid h3
  obtain ⟨A0, c0, rfl, r0, s0⟩ := open_rowR h0
  obtain ⟨A1, c1, rfl, r1, s1⟩ := open_rowR h1
  obtain ⟨A2, c2, rfl, r2, s2⟩ := open_rowR h2
  obtain ⟨A3, c3, rfl, r3, s3⟩ := open_rowR h3
  have S3 := Lib.hid s3
  obtain ⟨ph, co, ck, bo, ba, lb, l0, l1, l2, l3, gd, pr⟩ := s
  clear h h0 h1 h2 h3 r0 r1 r2 r3 s0 s1 s2 s3
  have HB := Lib.hid hB
  clear hB
  dsimp only at *
  unfold recC
  dsimp only
  have HE : Hid (applyR ⟨ph, co, ck, bo, ba, lb, l0, l1, l2, l3, gd, pr⟩ ⟨7, a, b⟩ = ⟨ph, co, ck, bo, ba, lb, l0, l1, l2, withoutN l3 a, gd, pr⟩) := Lib.hid (rfl)
  have HF := Lib.hid hf
  clear hf
  go_enter Tryz.func59, Tryz.ntmps59
  go_wp2_with fail
  have X1 := Own.box w (stC A0 A1 A2 A3 l0.length c0 l1.length c1 l2.length c2 l3.length c3 ph co ck bo ba lb gd pr) 38
  have X2 := X1.alloc (.cells #[.int .i64 7, .int .i64 a, .int .i64 b] 60)
  have X3 := X2.alloc (.cells (stC none none none none 0 0 0 0 0 0 0 0 0 false 0 0 0 0 0 0) 38)
  have O3 := Own.box2 X2.K (stC none none none none 0 0 0 0 0 0 0 0 0 false 0 0 0 0 0 0) 38
  refine (l6Without_any _ _ _ l3 a _ ((S3.out.below X3.K (Nat.le_refl _)).more X3.K.size) rfl HF.out).mono ?_
  rintro e w2 ⟨v3, rfl, hown, hb⟩
  obtain ⟨B3, d3, rfl, -⟩ := open_rowR hown
  have X := X3.step hb
  have O := O3.step hb
  have HO := Lib.hid (ownsRow_base (base' := w.heap.size + 3) hown (by simp))
  simp only [heap_size_alloc_] at O
  have hC := X.C
  have hF := X.F
  have hD := O.C
  have hG := O.F
  clear X1 X2 X3 O3 hb hown
  go_wp2
  refine bodyPost_ret (v := .agg (stC A0 A1 A2 B3 l0.length c0 l1.length c1 l2.length c2 (withoutN l3 a).length d3 ph co ck bo ba lb gd pr)) ?_ rfl ⟨_, rfl, ?_, Keeps.of_below ?_⟩
  · simp [results, Tryz.results59, go_sem, hD]
  · rw [HE.out]
    refine ⟨_, _, _, _, rfl, ownsRow_below H0.out ?_, ownsRow_below H1.out ?_, ownsRow_below H2.out ?_, ownsRow_base (base := w.heap.size + 3) ?_ (by have := HB.out; omega)⟩
    iterate 3
      · iterate 13 (refine Below.setCell ?_ (by simp <;> omega) _)
        exact X.K
    · iterate 13 (refine ownsRow_setCell_below ?_ (by simp <;> omega) _)
      exact HO.out
  · iterate 13 (refine Below.setCell ?_ (by simp <;> omega) _)
    exact X.K
end Go.Proofs.YtdkmhaghnfhajaaGreat
