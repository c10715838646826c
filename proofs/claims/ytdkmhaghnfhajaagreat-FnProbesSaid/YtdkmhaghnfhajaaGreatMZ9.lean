/-
  Records appended; the model's l11Held and l11Releasing.
-/
import Derived.Test.YtdkmhaghnfhajaaGreatMZ8
import Derived.Test.YtdkmhaghnfhajaaGreatMZ0
import Derived.Test.YtdkmhaghnfhajaaGreatMZ3
/- Wi -/
set_option linter.unusedVariables false
namespace Go.Proofs.YtdkmhaghnfhajaaGreat
open Go.RowKit

theorem size_ok {d : PlanD} (h : planOkB d = true) : d.n0 ≤ 12 ∧ d.n1 ≤ 4 ∧ d.n2 ≤ 12 ∧ d.n3 ≤ 12 := by
  simp only [planOkB, sizesB, Bool.and_eq_true, decide_eq_true_eq] at h
  omega
theorem times_ok {d : PlanD} (h : planOkB d = true) : (0 ≤ d.l ∧ d.l ≤ 500) ∧ (1 ≤ d.p ∧ d.p ≤ 9) ∧ (d.p ≤ d.t ∧ d.t ≤ 30) := by
  simp only [planOkB, timesB, Bool.and_eq_true, inB_true] at h
  omega
set_option maxRecDepth 4000 in
set_option maxHeartbeats 4000000 in
theorem l10Shut_any (pv sv : Value) (d : PlanD) (s : StD) (w : World) (hp : IsPlan w w.heap.size pv d) (hs : IsSt w w.heap.size sv s) (hok : StOk d s) :
    Calls Tryz.prog 125 #[pv, sv] w (RecsA w (shutD d s)) := by
  have HP := Lib.hid hp
  have HS := Lib.hid hs
  obtain ⟨⟨P0, P1, P2, P3, k0, k1, k2, k3, rfl, s0, s1, s2, s3⟩, b0, b1, b2, b3⟩ := hp
  obtain ⟨⟨A0, A1, A2, A3, c0, c1, c2, c3, rfl, t0, t1, t2, t3⟩, f0, f1, f2, f3⟩ := hs
  have S0 := Lib.hid s0
  have S1 := Lib.hid s1
  have S2 := Lib.hid s2
  have S3 := Lib.hid s3
  have R0 := Lib.hid t0
  have R1 := Lib.hid t1
  have R2 := Lib.hid t2
  have R3 := Lib.hid t3
  unfold maxLen at b0 b1 b2 b3 f0 f1 f2 f3
  clear s0 s1 s2 s3 t0 t1 t2 t3
  have T0 := Two.start w (planC P0 P1 P2 P3 d.n0 k0 d.n1 k1 d.n2 k2 d.n3 k3 d.l d.p d.t) (stC A0 A1 A2 A3 s.pods.length c0 s.mnts.length c1 s.devs.length c2 s.lks.length c3 s.ph s.co s.ck s.bo s.ba s.lb s.gd s.pr) 29 38
  have OK := Lib.hid hok
  clear hok
  obtain ⟨ans, hans⟩ : ∃ ans, shutD d s = ans := ⟨_, rfl⟩
  rw [hans]
  have HANS := Lib.hid hans
  clear hans
  have hC := T0.A.C
  have hD := T0.O.C
  cases h1 : (s.ph != 1)
  all_goals cases h2 : (s.ph != 2)
  case true.true =>
    have H1 : Hid (¬ (s.ph = 1 ∨ s.ph = 2)) := Lib.hid (by simp at h1 h2; omega)
    go_enter Tryz.func125, Tryz.ntmps125
    go_wp2_with fail
    refine (l10No_any 3 _).mono ?_
    rintro e w9 hR
    obtain ⟨v9, rfl, O9, K9⟩ := hR.back T0.A.K
    go_wp2
    all_goals (go_ret2; rw [← HANS.out, shutD, if_neg H1.out]; exact ⟨v9, rfl, O9, K9⟩)
  all_goals
    have H1 : Hid (s.ph = 1 ∨ s.ph = 2) := Lib.hid (by simp at h1 h2; omega)
    go_enter Tryz.func125, Tryz.ntmps125
    go_wp2_with fail
    refine (specNext_any _ d _ _ ((HP.out.below T0.A.K (Nat.le_refl _)).more T0.A.K.size) (by have := size_ok OK.out.plan; omega)).mono ?_
    rintro e w1 ⟨rfl, hb⟩
    have T1 := T0.step hb
    clear hb hC hD
    have hC := T1.A.C
    have hD := T1.O.C
    have HB : Hid (nextB d (-1) = if nextL d (-1) < 0 then 6 else nextL d (-1)) := Lib.hid rfl
    have hck := OK.out.ck
    have htm := (times_ok OK.out.plan).1
    generalize nextL d (-1) = nb at HB ⊢
    by_cases hnb : nb < 0
    · have HN := Lib.hid hnb
      go_wp2_with fail
      refine (l1Min_any _ _ _).mono ?_
      rintro e w2 ⟨rfl, rfl⟩
      have HM : Hid ((if s.ck + d.l < 1000000 then s.ck + d.l else 1000000) = min (s.ck + d.l) 1000000) := Lib.hid (by split <;> omega)
      rw [HM.out]
      go_wp2
      all_goals (go_ret2; rw [← HANS.out, shutD, if_pos H1.out, HB.out, if_pos (by have := HN.out; omega)]; exact ⟨_, rfl, own_of_heap (heap_alloc_new w1 _) rfl rfl T1.A.K.size (by unfold maxLen; decide), T1.A.K.alloc T1.A.K.size _⟩)
    · have HN := Lib.hid hnb
      go_wp2_with fail
      refine (l1Min_any _ _ _).mono ?_
      rintro e w2 ⟨rfl, rfl⟩
      have HM : Hid ((if s.ck + d.l < 1000000 then s.ck + d.l else 1000000) = min (s.ck + d.l) 1000000) := Lib.hid (by split <;> omega)
      rw [HM.out]
      go_wp2
      all_goals (go_ret2; rw [← HANS.out, shutD, if_pos H1.out, HB.out, if_neg (by have := HN.out; omega)]; exact ⟨_, rfl, own_of_heap (heap_alloc_new w1 _) rfl rfl T1.A.K.size (by unfold maxLen; decide), T1.A.K.alloc T1.A.K.size _⟩)

set_option maxRecDepth 4000 in
set_option maxHeartbeats 8000000 in
theorem commanded_any (pv sv : Value) (d : PlanD) (s : StD) (k a b : Int) (w : World) (hp : IsPlan w w.heap.size pv d) (hs : IsSt w w.heap.size sv s) :
    Calls Tryz.prog 119 #[pv, sv, .int .i64 k, .int .i64 a, .int .i64 b] w (RecsA w (if stOkB d s then commandD d s k a b else noR 1)) := by
  have HP := Lib.hid hp
  have HS := Lib.hid hs
  obtain ⟨⟨P0, P1, P2, P3, k0, k1, k2, k3, rfl, s0, s1, s2, s3⟩, b0, b1, b2, b3⟩ := hp
  obtain ⟨⟨A0, A1, A2, A3, c0, c1, c2, c3, rfl, t0, t1, t2, t3⟩, f0, f1, f2, f3⟩ := hs
  have S0 := Lib.hid s0
  have S1 := Lib.hid s1
  have S2 := Lib.hid s2
  have S3 := Lib.hid s3
  have R0 := Lib.hid t0
  have R1 := Lib.hid t1
  have R2 := Lib.hid t2
  have R3 := Lib.hid t3
  unfold maxLen at b0 b1 b2 b3 f0 f1 f2 f3
  clear s0 s1 s2 s3 t0 t1 t2 t3
  have T0 := Two.start w (planC P0 P1 P2 P3 d.n0 k0 d.n1 k1 d.n2 k2 d.n3 k3 d.l d.p d.t) (stC A0 A1 A2 A3 s.pods.length c0 s.mnts.length c1 s.devs.length c2 s.lks.length c3 s.ph s.co s.ck s.bo s.ba s.lb s.gd s.pr) 29 38
  obtain ⟨ans, hans⟩ : ∃ ans, (if stOkB d s then commandD d s k a b else noR 1) = ans := ⟨_, rfl⟩
  rw [hans]
  have HANS := Lib.hid hans
  clear hans
  go_enter Tryz.func119, Tryz.ntmps119
  go_wp2_with fail
  refine (specStateOk_any _ _ d s _ ((HP.out.below T0.A.K (Nat.le_refl _)).more T0.A.K.size) ((HS.out.below T0.A.K (Nat.le_refl _)).more T0.A.K.size)).mono ?_
  rintro e w1 ⟨rfl, hb⟩
  have T1 := T0.step hb
  have hC := T1.A.C
  have hD := T1.O.C
  clear hb T0
  cases hok : stOkB d s
  · have OKB : Hid (¬ stOkB d s = true) := Lib.hid (by rw [hok]; decide)
    clear hok
    go_wp2_with fail
    refine (l10No_any 1 _).mono ?_
    rintro e w9 hR
    obtain ⟨v9, rfl, O9, K9⟩ := hR.back T1.A.K
    go_wp2
    all_goals (go_ret2; rw [← HANS.out, if_neg OKB.out]; exact ⟨v9, rfl, O9, K9⟩)
  · have OK := Lib.hid (stOkB_iff.1 hok)
    have HANS2 : Hid (ans = commandD d s k a b) := Lib.hid (by rw [← HANS.out, if_pos hok])
    clear hok HANS
    by_cases e1 : k = 1
    · subst e1
      have HX : Hid (commandD d s 1 a b = phaseD s 0 1) := Lib.hid (by simp [commandD])
      go_wp2_with fail
      refine (l10Phase_any _ s 0 1 _ ((HS.out.below T1.A.K (Nat.le_refl _)).more T1.A.K.size)).mono ?_
      rintro e w9 hR
      obtain ⟨v9, rfl, O9, K9⟩ := hR.back T1.A.K
      go_wp2
      all_goals (go_ret2; rw [HANS2.out, HX.out]; exact ⟨v9, rfl, O9, K9⟩)
    · have E1 := Lib.hid e1
      by_cases e2 : k = 2
      · subst e2
        have HX : Hid (commandD d s 2 a b = phaseD s 1 2) := Lib.hid (by simp [commandD])
        go_wp2_with fail
        refine (l10Phase_any _ s 1 2 _ ((HS.out.below T1.A.K (Nat.le_refl _)).more T1.A.K.size)).mono ?_
        rintro e w9 hR
        obtain ⟨v9, rfl, O9, K9⟩ := hR.back T1.A.K
        go_wp2
        all_goals (go_ret2; rw [HANS2.out, HX.out]; exact ⟨v9, rfl, O9, K9⟩)
      · have E2 := Lib.hid e2
        by_cases e3 : k = 3
        · subst e3
          have HX : Hid (commandD d s 3 a b = evictD d s a) := Lib.hid (by simp [commandD])
          go_wp2_with fail
          refine (l10Evict_any _ _ d s a _ ((HP.out.below T1.A.K (Nat.le_refl _)).more T1.A.K.size) ((HS.out.below T1.A.K (Nat.le_refl _)).more T1.A.K.size) OK.out).mono ?_
          rintro e w9 hR
          obtain ⟨v9, rfl, O9, K9⟩ := hR.back T1.A.K
          go_wp2
          all_goals (go_ret2; rw [HANS2.out, HX.out]; exact ⟨v9, rfl, O9, K9⟩)
        · have E3 := Lib.hid e3
          by_cases e4 : k = 4
          · subst e4
            have HX : Hid (commandD d s 4 a b = shutD d s) := Lib.hid (by simp [commandD])
            go_wp2_with fail
            refine (l10Shut_any _ _ d s _ ((HP.out.below T1.A.K (Nat.le_refl _)).more T1.A.K.size) ((HS.out.below T1.A.K (Nat.le_refl _)).more T1.A.K.size) OK.out).mono ?_
            rintro e w9 hR
            obtain ⟨v9, rfl, O9, K9⟩ := hR.back T1.A.K
            go_wp2
            all_goals (go_ret2; rw [HANS2.out, HX.out]; exact ⟨v9, rfl, O9, K9⟩)
          · have E4 := Lib.hid e4
            by_cases e5 : k = 5
            · subst e5
              cases h5 : (s.ph == 2)
              · have H5 : Hid (¬ s.ph = 2) := Lib.hid (by simpa using h5)
                have HX : Hid (commandD d s 5 a b = phaseD s 1 0) := Lib.hid (by simp [commandD, cancelD, H5.out])
                go_wp2_with fail
                refine (l10Phase_any _ s 1 0 _ ((HS.out.below T1.A.K (Nat.le_refl _)).more T1.A.K.size)).mono ?_
                rintro e w9 hR
                obtain ⟨v9, rfl, O9, K9⟩ := hR.back T1.A.K
                go_wp2
                all_goals (go_ret2; rw [HANS2.out, HX.out]; exact ⟨v9, rfl, O9, K9⟩)
              · have H5 : Hid (s.ph = 2) := Lib.hid (by simpa using h5)
                have HX : Hid (commandD d s 5 a b = oneR 1 0 0) := Lib.hid (by simp [commandD, cancelD, H5.out])
                go_wp2_with fail
                refine (l10One_any 1 0 0 _).mono ?_
                rintro e w9 hR
                obtain ⟨v9, rfl, O9, K9⟩ := hR.back T1.A.K
                go_wp2
                all_goals (go_ret2; rw [HANS2.out, HX.out]; exact ⟨v9, rfl, O9, K9⟩)
            · have E5 := Lib.hid e5
              by_cases e6 : k = 6
              · subst e6
                have HX : Hid (commandD d s 6 a b = lockD s a) := Lib.hid (by simp [commandD])
                go_wp2_with fail
                refine (l10Lock_any _ s a _ ((HS.out.below T1.A.K (Nat.le_refl _)).more T1.A.K.size)).mono ?_
                rintro e w9 hR
                obtain ⟨v9, rfl, O9, K9⟩ := hR.back T1.A.K
                go_wp2
                all_goals (go_ret2; rw [HANS2.out, HX.out]; exact ⟨v9, rfl, O9, K9⟩)
              · have E6 := Lib.hid e6
                by_cases e7 : k = 7
                · subst e7
                  have HX : Hid (commandD d s 7 a b = unlockD s a) := Lib.hid (by simp [commandD])
                  go_wp2_with fail
                  refine (l10Unlock_any _ s a _ ((HS.out.below T1.A.K (Nat.le_refl _)).more T1.A.K.size)).mono ?_
                  rintro e w9 hR
                  obtain ⟨v9, rfl, O9, K9⟩ := hR.back T1.A.K
                  go_wp2
                  all_goals (go_ret2; rw [HANS2.out, HX.out]; exact ⟨v9, rfl, O9, K9⟩)
                · have E7 := Lib.hid e7
                  by_cases e8 : k = 8
                  · subst e8
                    have HX : Hid (commandD d s 8 a b = toldD d s afterHook a) := Lib.hid (by simp [commandD])
                    go_wp2_with fail
                    refine (l10Hook_any _ _ d s a _ ((HP.out.below T1.A.K (Nat.le_refl _)).more T1.A.K.size) ((HS.out.below T1.A.K (Nat.le_refl _)).more T1.A.K.size) OK.out).mono ?_
                    rintro e w9 hR
                    obtain ⟨v9, rfl, O9, K9⟩ := hR.back T1.A.K
                    go_wp2
                    all_goals (go_ret2; rw [HANS2.out, HX.out]; exact ⟨v9, rfl, O9, K9⟩)
                  · have E8 := Lib.hid e8
                    by_cases e9 : k = 9
                    · subst e9
                      have HX : Hid (commandD d s 9 a b = toldD d s afterExit a) := Lib.hid (by simp [commandD])
                      go_wp2_with fail
                      refine (l10Exit_any _ _ d s a _ ((HP.out.below T1.A.K (Nat.le_refl _)).more T1.A.K.size) ((HS.out.below T1.A.K (Nat.le_refl _)).more T1.A.K.size) OK.out).mono ?_
                      rintro e w9 hR
                      obtain ⟨v9, rfl, O9, K9⟩ := hR.back T1.A.K
                      go_wp2
                      all_goals (go_ret2; rw [HANS2.out, HX.out]; exact ⟨v9, rfl, O9, K9⟩)
                    · have E9 := Lib.hid e9
                      by_cases e10 : k = 10
                      · subst e10
                        have HX : Hid (commandD d s 10 a b = busyD d s a b) := Lib.hid (by simp [commandD])
                        go_wp2_with fail
                        refine (l10Busy_any _ _ d s a b _ ((HP.out.below T1.A.K (Nat.le_refl _)).more T1.A.K.size) ((HS.out.below T1.A.K (Nat.le_refl _)).more T1.A.K.size) OK.out).mono ?_
                        rintro e w9 hR
                        obtain ⟨v9, rfl, O9, K9⟩ := hR.back T1.A.K
                        go_wp2
                        all_goals (go_ret2; rw [HANS2.out, HX.out]; exact ⟨v9, rfl, O9, K9⟩)
                      · have E10 := Lib.hid e10
                        have HX : Hid (commandD d s k a b = noR 1) := Lib.hid (by simp [commandD, E1.out, E2.out, E3.out, E4.out, E5.out, E6.out, E7.out, E8.out, E9.out, E10.out])
                        go_wp2_with fail
                        refine (l10No_any 1 _).mono ?_
                        rintro e w9 hR
                        obtain ⟨v9, rfl, O9, K9⟩ := hR.back T1.A.K
                        go_wp2
                        all_goals (go_ret2; rw [HANS2.out, HX.out]; exact ⟨v9, rfl, O9, K9⟩)

end Go.Proofs.YtdkmhaghnfhajaaGreat
/- Wj -/
set_option linter.unusedVariables false
namespace Go.Proofs.YtdkmhaghnfhajaaGreat
open Go.RowKit

theorem Own.low {w w1 w2 : World} {g B : Nat} {cs : Array Value} (h : Own w w1 g cs) (hb : Below B w1 w2) (h0 : w.heap.size ≤ B) (hg : g < B) : Own w w2 g cs :=
  ⟨h.K.trans (hb.mono h0), Nat.lt_of_lt_of_le h.z hb.size, fun o => (hb.cell (p := ⟨g, o, none⟩) hg).trans (h.C o), fun o => (hb.frozen (p := ⟨g, o, none⟩) hg).trans (h.F o)⟩
theorem Two.low {w w1 w2 : World} {B : Nat} {cs os : Array Value} (h : Two w w1 cs os) (hb : Below B w1 w2) (hB : w.heap.size + 2 ≤ B) : Two w w2 cs os := ⟨h.A.low hb (by omega) (by omega), h.O.low hb (by omega) (by omega)⟩
theorem SlV.one_cell_recs (l : List RecD) : ∀ u ∈ recVs l, u.oneCell' = true := by
  intro u hu
  simp only [recVs, List.mem_map] at hu
  obtain ⟨x, -, rfl⟩ := hu
  rfl
theorem recVs_len (l : List RecD) : (recVs l).length = l.length * 3 := by simp [recVs, flat_length]
theorem recVs_append (l m : List RecD) : recVs (l ++ m) = recVs l ++ recVs m := by simp [recVs, flat_append]
/-- Records appended to a list of one's own. -/
theorem append_recs {w : World} {ops : Array Oper} {rest : List Oper} {o : Oper} {a : Act} {Q : Exit → Act → World → Prop} {B B2 m c : Nat} {v : Value} {l l2 : List RecD} {A : Option Addr} (s x : Operand) (hgd : o.guard = none)
    (ho : o.op = .call { callee := .builtin .append, args := #[s, x], argTypes := #[72, 72] }) (hs : a.eval s = v) (O : OR w B v l) (hx : a.eval x = .slice A m c) (hr : A = none → c = 0) (R : SlV w B2 3 A m (recVs l2)) (hlen : l.length + l2.length ≤ 1000000) (hB : B ≤ w.heap.size)
    (h : ∀ v' w', OR w' B v' (l ++ l2) → Below B w w' → Keeps (fun b => v.ownBlock = some b) w w' → wpList Tryz.prog ops Q rest (a.put o.dst v') w') : wpList Tryz.prog ops Q (o :: rest) a w := by
  obtain ⟨i0, hi, hz0, hz1, hz2⟩ := info_parts info_rec
  have hm : l2.length = m := by have := R.len; rw [recVs_len] at this; omega
  refine wpList_append_slv hgd s x 72 60 i0 (.agg #[.int .i64 0, .int .i64 0, .int .i64 0]) 3 24 ho Tryz.underlying72 hi hz0 hz1 hz2 rfl (by decide) (by decide) B v l.length (recVs l) hs O A m c (recVs l2) hx hr R (SlV.one_cell_recs l2) (by omega) hB ?_
  intro v' w' hown hg
  refine h v' w' ?_ ((Below.refl _ _).grown hg hB fun r hr => (O.lt hr).1) ⟨hg.os, hg.tape, hg.output, hg.size, fun b hb hn => hg.block b hb fun e => hn e.symm⟩
  unfold OR
  rw [List.length_append, recVs_append, hm]
  exact hown
/-- One record, just built, appended. -/
theorem append_rec {w : World} {ops : Array Oper} {rest : List Oper} {o : Oper} {a : Act} {Q : Exit → Act → World → Prop} {B g : Nat} {v : Value} {l : List RecD} (rk ra rb : Int) (s x : Operand) (hgd : o.guard = none)
    (ho : o.op = .call { callee := .builtin .append, args := #[s, x], argTypes := #[72, 72] }) (hs : a.eval s = v) (O : OR w B v l) (hg : w.heap.size = g) (hx : a.eval x = .slice (some ⟨g, 0, none⟩) 1 1) (hlen : l.length + 1 ≤ 1000000) (hB : B ≤ w.heap.size)
    (h : ∀ v' w', OR w' B v' (l ++ [⟨rk, ra, rb⟩]) → Below B w w' → Keeps (fun b => v.ownBlock = some b) w w' → wpList Tryz.prog ops Q rest (a.put o.dst v') w') : wpList Tryz.prog ops Q (o :: rest) a (w.alloc (.cells #[.int .i64 rk, .int .i64 ra, .int .i64 rb] 60)) := by
  subst hg
  have hb : Below B w (w.alloc (.cells #[.int .i64 rk, .int .i64 ra, .int .i64 rb] 60)) := (Below.refl _ _).alloc hB _
  refine append_recs (l2 := [⟨rk, ra, rb⟩]) (B2 := w.heap.size + 1) s x hgd ho hs (O.below ((Below.refl _ _).alloc (Nat.le_refl _) _)) hx (fun e => by cases e) ⟨rfl, fun hn => ⟨w.heap.size, 0, rfl, by omega, fun j hj => ?_⟩⟩ hlen (Nat.le_trans hB hb.size) ?_
  · rw [Nat.zero_add, cell_new]
    match j, hj with
    | 0, _ => rfl
    | 1, _ => rfl
    | 2, _ => rfl
  · intro v' w' O' hb' hk'
    exact h v' w' O' (hb.trans hb') ((Keeps.of_below ((Below.refl _ _).alloc (Nat.le_refl _) _)).trans hk')
theorem OR.slv {w : World} {B : Nat} {v : Value} {l : List RecD} (h : OR w B v l) : ∃ A c, v = .slice A l.length c ∧ (A = none → c = 0) ∧ SlV w w.heap.size 3 A l.length (recVs l) := open_rowR h
theorem recs_start (w : World) (cs os : Array Value) (t t' : TypeId) : Two w (((w.alloc (.cells cs t)).alloc (.cells os t')).alloc (.cells #[] 60)) cs os ∧ OR (((w.alloc (.cells cs t)).alloc (.cells os t')).alloc (.cells #[] 60)) (w.heap.size + 2) (.slice (some ⟨w.heap.size + 1 + 1, 0, none⟩) 0 0) [] := by
  have T0 := Two.start w cs os t t'
  have O1 : OR _ (w.heap.size + 2) _ [] := OR.empty (w := (w.alloc (.cells cs t)).alloc (.cells os t')) T0.O.z
  have e : ((w.alloc (.cells cs t)).alloc (.cells os t')).heap.size = w.heap.size + 1 + 1 := by simp
  rw [e] at O1
  exact ⟨T0.step ((Below.refl _ _).alloc (Nat.le_refl _) _), O1⟩

theorem recsOf_next {α : Type} (n : Nat) (g : Nat → Option α) (r : Nat → α → RecD) : recsOf (n + 1) g r = recsOf n g r ++ (match g n with | some x => [r n x] | none => []) := by
  cases h : g n with
  | none => rw [recsOf_none h]; simp
  | some x => rw [recsOf_some h]

def anyUp {α : Type} (l : List α) (p : α → Bool) (z : α) (k : Nat) : Prop := ∀ j, j < k → p (l.getD j z) = false
theorem any_none {α : Type} {l : List α} {p : α → Bool} {z : α} (h : anyUp l p z l.length) : l.any p = false := by
  rw [List.any_eq_false]
  intro x hx
  obtain ⟨j, hj, rfl⟩ := List.mem_iff_getElem.1 hx
  have := h j hj
  rw [List.getD_eq_getElem?_getD, List.getElem?_eq_getElem hj] at this
  simpa using this
theorem any_some {α : Type} {l : List α} {p : α → Bool} {z : α} {j : Nat} (hj : j < l.length) (h : p (l.getD j z) = true) : l.any p = true := by
  rw [List.getD_eq_getElem?_getD, List.getElem?_eq_getElem hj] at h
  exact List.any_eq_true.2 ⟨_, List.getElem_mem hj, by simpa using h⟩
theorem anyUp_next {α : Type} {l : List α} {p : α → Bool} {z : α} {k : Nat} (h : anyUp l p z k) (hk : p (l.getD k z) = false) : anyUp l p z (k + 1) := fun j hj => by
  by_cases e : j = k
  · rw [e]; exact hk
  · exact h j (by omega)
set_option maxRecDepth 4000 in
set_option maxHeartbeats 4000000 in
theorem l11Held_any (sv : Value) (s : StD) (w : World) (hs : IsSt w w.heap.size sv s) :
    Calls Tryz.prog 139 #[sv] w fun e w' => e = .returned (.bool (heldB s)) ∧ Below w.heap.size w w' := by
  obtain ⟨⟨A0, A1, A2, A3, c0, c1, c2, c3, rfl, -, t1, t2, -⟩, -, f1, f2, -⟩ := hs
  have R1 := Lib.hid t1
  have R2 := Lib.hid t2
  unfold maxLen at f1 f2
  clear t1 t2
  obtain ⟨ans, hans⟩ : ∃ ans, heldB s = ans := ⟨_, rfl⟩
  rw [hans]
  have HANS := Lib.hid hans
  clear hans
  have HB : Hid (ans = (s.mnts.any (fun q => q.1) || s.devs.any (fun x => x))) := Lib.hid (by rw [← HANS.out]; rfl)
  have X0 := Own.box w (stC A0 A1 A2 A3 s.pods.length c0 s.mnts.length c1 s.devs.length c2 s.lks.length c3 s.ph s.co s.ck s.bo s.ba s.lb s.gd s.pr) 38
  go_enter Tryz.func139, Tryz.ntmps139
  go_wp2_with fail
  go_loopw [3] (fun j wr => ∃ k : Nat, k ≤ s.mnts.length ∧ j = .int .i64 k ∧ Hid (anyUp s.mnts (fun q => q.1) (false, 0) k) ∧ Own w wr w.heap.size (stC A0 A1 A2 A3 s.pods.length c0 s.mnts.length c1 s.devs.length c2 s.lks.length c3 s.ph s.co s.ck s.bo s.ba s.lb s.gd s.pr)) (fun j _ => s.mnts.length - (intOf j).toNat)
  case atStart => exact ⟨0, Nat.zero_le _, rfl, Lib.hid fun j hj => absurd hj (by omega), X0⟩
  case round =>
    clear X0
    obtain ⟨k, hk, rfl, HALL, X⟩ := hrel
    have hC := X.C
    by_cases hlt : k < s.mnts.length
    · obtain ⟨b', off', rfl, hb', hc⟩ := (R1.out.below X.K (Nat.le_refl _)).cell hlt
      have p0 := (hc 0 (by decide)).trans (mntCs_at s.mnts (i := k) hlt).1
      rw [Nat.add_zero] at p0
      clear hc
      have HYES : Hid ((mntA s.mnts k).1 = true → ans = true) := Lib.hid fun h => by rw [HB.out, any_some hlt h]; rfl
      have HNO : Hid ((mntA s.mnts k).1 = false → anyUp s.mnts (fun q => q.1) (false, 0) (k + 1)) := Lib.hid fun h => anyUp_next HALL.out h
      generalize (mntA s.mnts k).1 = x at p0 HYES HNO
      cases x
      · go_wp2
        refine ⟨⟨k + 1, by omega, by go_num, Lib.hid (HNO.out (by first | trivial | rfl)), X⟩, by simp [intOf]; omega⟩
      · go_wp2
        all_goals (go_ret; exact ⟨ret_bool (HYES.out (by first | trivial | rfl)).symm, X.K⟩)
    · obtain rfl : k = s.mnts.length := by omega
      have HM := Lib.hid (any_none HALL.out)
      go_wp2_with fail
      go_loopw [4] (fun j wr => ∃ k : Nat, k ≤ s.devs.length ∧ j = .int .i64 k ∧ Hid (anyUp s.devs (fun x => x) false k) ∧ Own w wr w.heap.size (stC A0 A1 A2 A3 s.pods.length c0 s.mnts.length c1 s.devs.length c2 s.lks.length c3 s.ph s.co s.ck s.bo s.ba s.lb s.gd s.pr)) (fun j _ => s.devs.length - (intOf j).toNat)
      case atStart => exact ⟨0, Nat.zero_le _, rfl, Lib.hid fun j hj => absurd hj (by omega), X⟩
      case round =>
        clear X hC HALL
        obtain ⟨k, hk, rfl, HALL, X⟩ := hrel
        have hC := X.C
        by_cases hlt : k < s.devs.length
        · obtain ⟨b', off', rfl, hb', hc⟩ := (R2.out.below X.K (Nat.le_refl _)).cell hlt
          have p0 := (hc 0 (by decide)).trans (devCs_at s.devs (i := k * 1 + 0) (by omega))
          rw [Nat.add_zero, Nat.mul_one] at p0
          clear hc
          have HYES : Hid (devA s.devs k = true → ans = true) := Lib.hid fun h => by rw [HB.out, any_some (l := s.devs) (p := fun x => x) (z := false) hlt h]; simp
          have HNO : Hid (devA s.devs k = false → anyUp s.devs (fun x => x) false (k + 1)) := Lib.hid fun h => anyUp_next HALL.out h
          generalize devA s.devs k = x at p0 HYES HNO
          cases x
          · go_wp2
            refine ⟨⟨k + 1, by omega, by go_num, Lib.hid (HNO.out (by first | trivial | rfl)), X⟩, by simp [intOf]; omega⟩
          · go_wp2
            all_goals (go_ret; exact ⟨ret_bool (HYES.out (by first | trivial | rfl)).symm, X.K⟩)
        · obtain rfl : k = s.devs.length := by omega
          have HD := Lib.hid (any_none HALL.out)
          go_wp2
          all_goals (go_ret; exact ⟨ret_bool (by rw [HB.out, HM.out, HD.out]; rfl), X.K⟩)

set_option maxRecDepth 4000 in
set_option maxHeartbeats 8000000 in
theorem l11Releasing_any (pv sv : Value) (d : PlanD) (s : StD) (w : World) (hp : IsPlan w w.heap.size pv d) (hs : IsSt w w.heap.size sv s) (hok : StOk d s) :
    Calls Tryz.prog 132 #[pv, sv] w fun e w' => ∃ v, e = .returned v ∧ OR w' w.heap.size v (releaseL d s) ∧ Below w.heap.size w w' := by
  have HP := Lib.hid hp
  have HS := Lib.hid hs
  obtain ⟨⟨P0, P1, P2, P3, k0, k1, k2, k3, rfl, s0, s1, s2, s3⟩, b0, b1, b2, b3⟩ := hp
  obtain ⟨⟨A0, A1, A2, A3, c0, c1, c2, c3, rfl, t0, t1, t2, t3⟩, f0, f1, f2, f3⟩ := hs
  have S0 := Lib.hid s0
  have S1 := Lib.hid s1
  have S2 := Lib.hid s2
  have S3 := Lib.hid s3
  have R0 := Lib.hid t0
  have R1 := Lib.hid t1
  have R2 := Lib.hid t2
  have R3 := Lib.hid t3
  unfold maxLen at b0 b1 b2 b3 f0 f1 f2 f3
  clear s0 s1 s2 s3 t0 t1 t2 t3
  have T0 := Two.start w (planC P0 P1 P2 P3 d.n0 k0 d.n1 k1 d.n2 k2 d.n3 k3 d.l d.p d.t) (stC A0 A1 A2 A3 s.pods.length c0 s.mnts.length c1 s.devs.length c2 s.lks.length c3 s.ph s.co s.ck s.bo s.ba s.lb s.gd s.pr) 29 38
  have OK := Lib.hid hok
  have HNM := Lib.hid hok.nm
  have HND := Lib.hid hok.nd
  have HSZ := Lib.hid (size_ok hok.plan)
  clear hok
  obtain ⟨ans, hans⟩ : ∃ ans, releaseL d s = ans := ⟨_, rfl⟩
  rw [hans]
  have HANS := Lib.hid hans
  clear hans
  obtain ⟨T1, O1⟩ := recs_start w (planC P0 P1 P2 P3 d.n0 k0 d.n1 k1 d.n2 k2 d.n3 k3 d.l d.p d.t) (stC A0 A1 A2 A3 s.pods.length c0 s.mnts.length c1 s.devs.length c2 s.lks.length c3 s.ph s.co s.ck s.bo s.ba s.lb s.gd s.pr) 29 38
  go_enter Tryz.func132, Tryz.ntmps132
  go_wp2_with fail
  refine (l11Held_any _ s _ ((HS.out.below T1.A.K (Nat.le_refl _)).more T1.A.K.size)).mono ?_
  rintro e w2 ⟨rfl, hb2⟩
  have T2 := T1.step hb2
  have O2 := O1.below hb2
  clear hb2 T0 T1 O1
  have hC := T2.A.C
  have hD := T2.O.C
  cases hh : heldB s
  · have HH : Hid (¬ heldB s = true) := Lib.hid (by rw [hh]; decide)
    have HO := Lib.hid O2
    have HT := Lib.hid T2
    clear hh O2
    go_wp2_with (at_builtin; refine append_rec 1 5 0 _ _ rfl rfl rfl HO.out rfl rfl (by decide) T2.O.z ?_; rintro v' w' O' hb' -)
    go_ret
    exact ⟨_, rfl, by rw [← HANS.out, releaseL, if_neg HH.out]; exact O'.base (by omega), (HT.out.low hb' (Nat.le_refl _)).A.K⟩
  · have HH := Lib.hid hh
    have HANS2 : Hid (ans = recsOf d.n2 (freeG d s) mntRec ++ recsOf d.n3 (giveG d s) (fun i _ => ⟨5, i, 0⟩)) := Lib.hid (by rw [← HANS.out, releaseL, if_pos hh])
    clear hh HANS
    go_wp2_with fail
    go_loopw [5, 6] (fun v i wr => ∃ k : Nat, k ≤ d.n2 ∧ i = .int .i64 k ∧ Hid (OR wr (w.heap.size + 2) v (recsOf k (freeG d s) mntRec)) ∧ Two w wr (planC P0 P1 P2 P3 d.n0 k0 d.n1 k1 d.n2 k2 d.n3 k3 d.l d.p d.t) (stC A0 A1 A2 A3 s.pods.length c0 s.mnts.length c1 s.devs.length c2 s.lks.length c3 s.ph s.co s.ck s.bo s.ba s.lb s.gd s.pr)) (fun _ i _ => d.n2 - (intOf i).toNat)
    case atStart => exact ⟨0, Nat.zero_le _, rfl, Lib.hid O2, T2⟩
    case round =>
      clear O2 T2 hC hD
      obtain ⟨k, hk, rfl, HO, T⟩ := hrel
      have hC := T.A.C
      have hD := T.O.C
      by_cases hlt : k < d.n2
      · have hlm : k < s.mnts.length := by rw [HNM.out]; exact hlt
        go_wp2_with fail
        refine (l9Free_any _ _ d s k _ ((HP.out.below T.A.K (Nat.le_refl _)).more T.A.K.size) ((HS.out.below T.A.K (Nat.le_refl _)).more T.A.K.size) OK.out hlt).mono ?_
        rintro e w3 ⟨rfl, hb3⟩
        have T3 := T.step hb3
        have HO3 := Lib.hid (HO.out.below hb3)
        clear hb3 T HO hC hD
        have hC := T3.A.C
        have hD := T3.O.C
        have HLE : Hid ((recsOf k (freeG d s) mntRec).length ≤ 12) := Lib.hid (by have := recsOf_le k (freeG d s) mntRec; have := HSZ.out; omega)
        obtain ⟨b', off', rfl, hb', hc⟩ := (R1.out.below T3.A.K (Nat.le_refl _)).cell hlm
        have p0 := (hc 1 (by decide)).trans (mntCs_at s.mnts (i := k) hlm).2
        clear hc
        have HN := Lib.hid (recsOf_next k (freeG d s) mntRec)
        have HG : Hid (freeG d s k = if freeB d s k then some (if 0 < (mntA s.mnts k).2 then (true, (mntA s.mnts k).2 - 1) else (false, 0)) else none) := Lib.hid rfl
        have hbusy := (mntAt_ok OK.out hlt).1
        rw [show mntAt s k = mntA s.mnts k from rfl] at hbusy
        generalize (mntA s.mnts k).2 = y at p0 HG hbusy
        generalize freeG d s k = gk at HN HG
        generalize hR : recsOf k (freeG d s) mntRec = done at HN HLE HO3
        clear hR
        cases hf : freeB d s k
        · have HE : Hid (recsOf (k + 1) (freeG d s) mntRec = done) := Lib.hid (by rw [HN.out, HG.out, hf]; simp)
          clear hf
          go_wp2
          refine ⟨⟨k + 1, by omega, by go_num, Lib.hid (by rw [HE.out]; exact HO3.out), T3⟩, by simp [intOf]; omega⟩
        · by_cases hy : 0 < y
          · have HE : Hid (recsOf (k + 1) (freeG d s) mntRec = done ++ [⟨3, k, y - 1⟩]) := Lib.hid (by rw [HN.out, HG.out, hf, if_pos rfl, if_pos hy]; rfl)
            clear hf
            go_wp2_with (at_builtin; refine append_rec 3 k (y - 1) _ _ rfl rfl rfl HO3.out rfl rfl (by have := HLE.out; omega) T3.O.z ?_; rintro v' w' O' hb' -)
            refine ⟨⟨k + 1, by omega, by go_num, Lib.hid (by rw [HE.out]; exact O'), T3.low hb' (Nat.le_refl _)⟩, by simp [intOf]; omega⟩
          · have HE : Hid (recsOf (k + 1) (freeG d s) mntRec = done ++ [⟨4, k, 0⟩]) := Lib.hid (by rw [HN.out, HG.out, hf, if_pos rfl, if_neg hy]; rfl)
            clear hf
            go_wp2_with (at_builtin; refine append_rec 4 k 0 _ _ rfl rfl rfl HO3.out rfl rfl (by have := HLE.out; omega) T3.O.z ?_; rintro v' w' O' hb' -)
            refine ⟨⟨k + 1, by omega, by go_num, Lib.hid (by rw [HE.out]; exact O'), T3.low hb' (Nat.le_refl _)⟩, by simp [intOf]; omega⟩
      · obtain rfl : k = d.n2 := by omega
        have hx : ¬ d.n2 < s.mnts.length := by rw [HNM.out]; omega
        go_wp2_with fail
        go_loopw [5, 7] (fun v i wr => ∃ k : Nat, k ≤ d.n3 ∧ i = .int .i64 k ∧ Hid (OR wr (w.heap.size + 2) v (recsOf d.n2 (freeG d s) mntRec ++ recsOf k (giveG d s) (fun i _ => ⟨5, i, 0⟩))) ∧ Two w wr (planC P0 P1 P2 P3 d.n0 k0 d.n1 k1 d.n2 k2 d.n3 k3 d.l d.p d.t) (stC A0 A1 A2 A3 s.pods.length c0 s.mnts.length c1 s.devs.length c2 s.lks.length c3 s.ph s.co s.ck s.bo s.ba s.lb s.gd s.pr)) (fun _ i _ => d.n3 - (intOf i).toNat)
        case atStart => exact ⟨0, Nat.zero_le _, rfl, Lib.hid (by rw [recsOf_zero, List.append_nil]; exact HO.out), T⟩
        case round =>
          clear HO T hC hD
          obtain ⟨k, hk, rfl, HO, T⟩ := hrel
          have hC := T.A.C
          have hD := T.O.C
          by_cases hlt : k < d.n3
          · have hld : k < s.devs.length := by rw [HND.out]; exact hlt
            go_wp2_with fail
            refine (l9Give_any _ _ d s k _ ((HP.out.below T.A.K (Nat.le_refl _)).more T.A.K.size) ((HS.out.below T.A.K (Nat.le_refl _)).more T.A.K.size) OK.out hlt).mono ?_
            rintro e w3 ⟨rfl, hb3⟩
            have T3 := T.step hb3
            have HO3 := Lib.hid (HO.out.below hb3)
            clear hb3 T HO hC hD
            have HLE : Hid ((recsOf d.n2 (freeG d s) mntRec ++ recsOf k (giveG d s) (fun i _ => ⟨5, i, 0⟩)).length ≤ 24) := Lib.hid (by have := recsOf_le d.n2 (freeG d s) mntRec; have := recsOf_le k (giveG d s) (fun i _ => (⟨5, i, 0⟩ : RecD)); have := HSZ.out; rw [List.length_append]; omega)
            have HN : Hid (recsOf d.n2 (freeG d s) mntRec ++ recsOf (k + 1) (giveG d s) (fun i _ => ⟨5, i, 0⟩) = (recsOf d.n2 (freeG d s) mntRec ++ recsOf k (giveG d s) (fun i _ => ⟨5, i, 0⟩)) ++ (if giveB d s k then [⟨5, k, 0⟩] else [])) := Lib.hid (by
              rw [recsOf_next, List.append_assoc, giveG]
              cases giveB d s k <;> rfl)
            generalize hR : recsOf d.n2 (freeG d s) mntRec ++ recsOf k (giveG d s) (fun i _ => ⟨5, i, 0⟩) = done at HN HLE HO3
            clear hR
            cases hf : giveB d s k
            · have HE : Hid (recsOf d.n2 (freeG d s) mntRec ++ recsOf (k + 1) (giveG d s) (fun i _ => ⟨5, i, 0⟩) = done) := Lib.hid (by rw [HN.out, hf]; simp)
              clear hf
              go_wp2
              refine ⟨⟨k + 1, by omega, by go_num, Lib.hid (by rw [HE.out]; exact HO3.out), T3⟩, by simp [intOf]; omega⟩
            · have HE : Hid (recsOf d.n2 (freeG d s) mntRec ++ recsOf (k + 1) (giveG d s) (fun i _ => ⟨5, i, 0⟩) = done ++ [⟨5, k, 0⟩]) := Lib.hid (by rw [HN.out, hf, if_pos rfl])
              clear hf
              go_wp2_with (at_builtin; refine append_rec 5 k 0 _ _ rfl rfl rfl HO3.out rfl rfl (by have := HLE.out; omega) T3.O.z ?_; rintro v' w' O' hb' -)
              refine ⟨⟨k + 1, by omega, by go_num, Lib.hid (by rw [HE.out]; exact O'), T3.low hb' (Nat.le_refl _)⟩, by simp [intOf]; omega⟩
          · obtain rfl : k = d.n3 := by omega
            have hx2 : ¬ d.n3 < s.devs.length := by rw [HND.out]; omega
            go_wp2
            go_ret
            exact ⟨_, rfl, by rw [HANS2.out]; exact HO.out.base (by omega), T.A.K⟩

end Go.Proofs.YtdkmhaghnfhajaaGreat
