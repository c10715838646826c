/-
  Chapter 12 of the program: another boot, a probe.
-/
import Derived.Test.YtdkmhaghnfhajaaGreatMZ22
import Derived.Deep.DeepCutAuto
/- Oc -/
set_option linter.unusedVariables false
namespace Go.Proofs.YtdkmhaghnfhajaaGreat
open Go.RowKit

set_option maxRecDepth 100000 in
set_option maxHeartbeats 2000000 in
theorem implBootRecs_any (pv sv : Value) (d : PlanD) (s : StD) (id : Int) (w : World) (hp : IsPlan w w.heap.size pv d) (hs : IsSt w w.heap.size sv s) :
    Calls Tryz.prog 40 #[pv, sv, .int .i64 id] w (RecsA w (if stOkB d s then bootD d s id else noR 1)) := by
  have HP := Lib.hid hp
  have HS := Lib.hid hs
  obtain ⟨⟨P0, P1, P2, P3, k0, k1, k2, k3, rfl, -, -, -, -⟩, b0, b1, b2, b3⟩ := hp
  obtain ⟨⟨A0, A1, A2, A3, c0, c1, c2, c3, rfl, -, -, -, -⟩, f0, f1, f2, f3⟩ := hs
  clear b0 b1 b2 b3 f0 f1 f2 f3
  have T0 := Two.start w (planC P0 P1 P2 P3 d.n0 k0 d.n1 k1 d.n2 k2 d.n3 k3 d.l d.p d.t) (stC A0 A1 A2 A3 s.pods.length c0 s.mnts.length c1 s.devs.length c2 s.lks.length c3 s.ph s.co s.ck s.bo s.ba s.lb s.gd s.pr) 29 38
  obtain ⟨ans, hans⟩ : ∃ ans, (if stOkB d s then bootD d s id else noR 1) = ans := ⟨_, rfl⟩
  rw [hans]
  have HANS := Lib.hid hans
  clear hans
  go_enter Tryz.func40, Tryz.ntmps40
  go_wp2_with fail
  refine (implStateOk_any _ _ d s _ (stPl HP.out T0.A.K) (stAt_ HS.out T0.A.K)).mono ?_
  rintro e w1 ⟨rfl, hb⟩
  have T1 := T0.step hb
  have hC := T1.A.C
  have hD := T1.O.C
  clear hb T0
  cases hok : stOkB d s
  · have OKB : Hid (¬ stOkB d s = true) := Lib.hid (by rw [hok]; decide)
    clear hok
    have O9 : OR (w1.alloc (.cells #[] 60)) w.heap.size (.slice (some ⟨w1.heap.size, 0, none⟩) 0 0) [] := OR.empty T1.A.K.size
    have HO9 := Lib.hid O9
    have K9 := T1.A.K.alloc T1.A.K.size (.cells #[] 60)
    clear O9
    go_wp2
    all_goals (go_ret2; rw [← HANS.out, if_neg OKB.out]; exact ⟨_, rfl, HO9.out, K9⟩)
  · have OK := Lib.hid (stOkB_iff.1 hok)
    have HANS2 : Hid (ans = bootD d s id) := Lib.hid (by rw [← HANS.out, if_pos hok])
    clear hok HANS
    go_wp2_with fail
    refine (within_any _ _ _ _).mono ?_
    rintro e w2 ⟨rfl, rfl⟩
    cases hin : inB id 1 1000000
    · have HIN : Hid (¬ inB id 1 1000000 = true) := Lib.hid (by rw [hin]; decide)
      clear hin
      have O9 : OR (w1.alloc (.cells #[] 60)) w.heap.size (.slice (some ⟨w1.heap.size, 0, none⟩) 0 0) [] := OR.empty T1.A.K.size
      have HO9 := Lib.hid O9
      have K9 := T1.A.K.alloc T1.A.K.size (.cells #[] 60)
      clear O9
      go_wp2
      all_goals (go_ret2; rw [HANS2.out, bootD, if_neg HIN.out]; exact ⟨_, rfl, HO9.out, K9⟩)
    · have HIN := Lib.hid hin
      clear hin
      cases hb : (id == s.bo)
      case true =>
        have HB : Hid (id = s.bo) := Lib.hid (by simpa using hb)
        have O9 : OR (w1.alloc (.cells #[] 60)) w.heap.size (.slice (some ⟨w1.heap.size, 0, none⟩) 0 0) [] := OR.empty T1.A.K.size
        have HO9 := Lib.hid O9
        have K9 := T1.A.K.alloc T1.A.K.size (.cells #[] 60)
        clear O9
        go_wp2
        all_goals (go_ret2; rw [HANS2.out, bootD, if_pos HIN.out, if_pos HB.out]; exact ⟨_, rfl, HO9.out, K9⟩)
      case false =>
        have HB : Hid (¬ id = s.bo) := Lib.hid (by simpa using hb)
        have HANS3 : Hid (ans = ([⟨10, id, 0⟩] ++ (givenL d s ++ (⟨12, 0, 0⟩ :: (if s.ph = 8 then [] else [⟨1, 6, 0⟩]))), 0)) := Lib.hid (by rw [HANS2.out, bootD, if_pos HIN.out, if_neg HB.out, bootL_given])
        obtain ⟨al, ac⟩ := ans
        obtain rfl : ac = 0 := congrArg Prod.snd HANS3.out
        have HA0 : Hid (al = ([⟨10, id, 0⟩] ++ givenL d s) ++ (⟨12, 0, 0⟩ :: (if s.ph = 8 then [] else [⟨1, 6, 0⟩]))) := Lib.hid ((congrArg Prod.fst HANS3.out).trans (by simp))
        have HGL := Lib.hid (givenL_le OK.out)
        have O2 : OR (w1.alloc (.cells #[.int .i64 10, .int .i64 id, .int .i64 0] 60)) (w.heap.size + 2) (.slice (some ⟨w1.heap.size, 0, none⟩) 1 1) [⟨10, id, 0⟩] := OR.first T1.O.z 10 id 0
        have HO := Lib.hid O2
        have HT := Lib.hid (T1.step ((Below.refl _ _).alloc (Nat.le_refl _) (.cells #[.int .i64 10, .int .i64 id, .int .i64 0] 60)))
        clear HANS2 HANS3 O2
        have hC9 := HT.out.A.C
        have hD9 := HT.out.O.C
        go_wp2_with fail
        clear hC hD hC9 hD9
        refine (givenUp_any _ d s _ (stAt_ HS.out HT.out.A.K) OK.out).mono ?_
        rintro e w2 ⟨v2, rfl, O2, hb⟩
        have T2 := HT.out.step hb
        have HO2 := Lib.hid (HO.out.below hb)
        obtain ⟨A2_, c2_, rfl, hr2, R2_⟩ := O2.slv
        have hC := T2.A.C
        have hD := T2.O.C
        clear hb
        cases h8 : (s.ph != 8)
        · have H8 : Hid (s.ph = 8) := Lib.hid (by simpa using h8)
          go_wp2_with (first
            | (at_builtin; refine append_rec 12 0 0 _ _ rfl rfl rfl O3 rfl rfl (by rw [List.length_append]; have := HGL.out; simp; omega) T3.O.z ?_; rintro v4 w4 O4 hb4 -; have T4 := T3.low hb4 (Nat.le_refl _); have hD4 := T4.O.C)
            | (at_builtin; refine append_recs _ _ rfl rfl rfl HO2.out rfl hr2 R2_ (by have := HGL.out; simp; omega) T2.O.z ?_; rintro v3 w3 O3 hb3 -; have T3 := T2.low hb3 (Nat.le_refl _)))
          all_goals (go_ret2; exact ⟨_, rfl, by show OR _ _ _ al; rw [HA0.out, if_pos H8.out]; exact O4.base (by omega), T4.A.K⟩)
        · have H8 : Hid (¬ s.ph = 8) := Lib.hid (by simpa using h8)
          go_wp2_with (first
            | (at_builtin; refine append_rec 1 6 0 _ _ rfl rfl rfl O4 rfl rfl (by rw [List.length_append, List.length_append]; have := HGL.out; simp; omega) T4.O.z ?_; rintro v5 w5 O5 hb5 -; have T5 := T4.low hb5 (Nat.le_refl _))
            | (at_builtin; refine append_rec 12 0 0 _ _ rfl rfl rfl O3 rfl rfl (by rw [List.length_append]; have := HGL.out; simp; omega) T3.O.z ?_; rintro v4 w4 O4 hb4 -; have T4 := T3.low hb4 (Nat.le_refl _); have hD4 := T4.O.C)
            | (at_builtin; refine append_recs _ _ rfl rfl rfl HO2.out rfl hr2 R2_ (by have := HGL.out; simp; omega) T2.O.z ?_; rintro v3 w3 O3 hb3 -; have T3 := T2.low hb3 (Nat.le_refl _)))
          all_goals (go_ret2; exact ⟨_, rfl, by show OR _ _ _ al; rw [HA0.out, if_neg H8.out]; simpa [List.append_assoc] using O5.base (by omega), T5.A.K⟩)

/-- The phase behind a probe. -/
def phaseN (d : PlanD) (r n : Int) : Int := if d.p ≤ r then 0 else if d.t ≤ n then 8 else 7
theorem probeL_phase {d : PlanD} {s : StD} {good : Bool} (h : s.ph = 6 ∨ s.ph = 7) : probeL d s good = [⟨12, probeN s good, s.pr + 1⟩] ++ (if phaseN d (probeN s good) (s.pr + 1) = s.ph then [] else [⟨1, phaseN d (probeN s good) (s.pr + 1), 0⟩]) := by
  unfold probeL phaseN
  rw [List.singleton_append]
  congr 1
  split
  · rw [if_neg (by omega)]
  · split
    · rw [if_neg (by omega)]
    · split
      · rw [if_neg (by omega)]
      · rw [if_pos (by omega)]
theorem phaseBehind_any (pv : Value) (d : PlanD) (r n : Int) (w : World) (hp : IsPlan w w.heap.size pv d) :
    Calls Tryz.prog 66 #[pv, .int .i64 r, .int .i64 n] w fun e w' => e = .returned (.int .i64 (phaseN d r n)) ∧ Below w.heap.size w w' := by
  obtain ⟨⟨P0, P1, P2, P3, k0, k1, k2, k3, rfl, -, -, -, -⟩, -, -, -, -⟩ := hp
  have X := Own.box w (planC P0 P1 P2 P3 d.n0 k0 d.n1 k1 d.n2 k2 d.n3 k3 d.l d.p d.t) 29
  have hC := X.C
  unfold phaseN
  by_cases c1 : d.p ≤ r
  · rw [if_pos c1]
    go_enter Tryz.func66, Tryz.ntmps66
    go_wp2
    go_ret
    exact ⟨rfl, X.K⟩
  · rw [if_neg c1]
    by_cases c2 : d.t ≤ n
    · rw [if_pos c2]
      go_enter Tryz.func66, Tryz.ntmps66
      go_wp2
      go_ret
      exact ⟨rfl, X.K⟩
    · rw [if_neg c2]
      go_enter Tryz.func66, Tryz.ntmps66
      go_wp2
      go_ret
      exact ⟨rfl, X.K⟩
set_option maxRecDepth 100000 in
set_option maxHeartbeats 2000000 in
theorem implProbeRecs_any (pv sv : Value) (d : PlanD) (s : StD) (good : Bool) (w : World) (hp : IsPlan w w.heap.size pv d) (hs : IsSt w w.heap.size sv s) :
    Calls Tryz.prog 37 #[pv, sv, .bool good] w (RecsA w (if stOkB d s then probeD d s good else noR 1)) := by
  have HP := Lib.hid hp
  have HS := Lib.hid hs
  obtain ⟨⟨P0, P1, P2, P3, k0, k1, k2, k3, rfl, -, -, -, -⟩, b0, b1, b2, b3⟩ := hp
  obtain ⟨⟨A0, A1, A2, A3, c0, c1, c2, c3, rfl, -, -, -, -⟩, f0, f1, f2, f3⟩ := hs
  clear b0 b1 b2 b3 f0 f1 f2 f3
  have T0 := Two.start w (planC P0 P1 P2 P3 d.n0 k0 d.n1 k1 d.n2 k2 d.n3 k3 d.l d.p d.t) (stC A0 A1 A2 A3 s.pods.length c0 s.mnts.length c1 s.devs.length c2 s.lks.length c3 s.ph s.co s.ck s.bo s.ba s.lb s.gd s.pr) 29 38
  obtain ⟨ans, hans⟩ : ∃ ans, (if stOkB d s then probeD d s good else noR 1) = ans := ⟨_, rfl⟩
  rw [hans]
  have HANS := Lib.hid hans
  clear hans
  go_enter Tryz.func37, Tryz.ntmps37
  go_wp2_with fail
  refine (implStateOk_any _ _ d s _ (stPl HP.out T0.A.K) (stAt_ HS.out T0.A.K)).mono ?_
  rintro e w1 ⟨rfl, hb⟩
  have T1 := T0.step hb
  have hC := T1.A.C
  have hD := T1.O.C
  clear hb T0
  cases hok : stOkB d s
  · have OKB : Hid (¬ stOkB d s = true) := Lib.hid (by rw [hok]; decide)
    clear hok
    have O9 : OR (w1.alloc (.cells #[] 60)) w.heap.size (.slice (some ⟨w1.heap.size, 0, none⟩) 0 0) [] := OR.empty T1.A.K.size
    have HO9 := Lib.hid O9
    have K9 := T1.A.K.alloc T1.A.K.size (.cells #[] 60)
    clear O9
    go_wp2
    all_goals (go_ret2; rw [← HANS.out, if_neg OKB.out]; exact ⟨_, rfl, HO9.out, K9⟩)
  · have OK := Lib.hid (stOkB_iff.1 hok)
    have HANS2 : Hid (ans = probeD d s good) := Lib.hid (by rw [← HANS.out, if_pos hok])
    clear hok HANS
    have hgd := OK.out.gd
    have hpr := OK.out.pr
    have htm := (times_ok OK.out.plan).2
    by_cases H67 : s.ph = 6 ∨ s.ph = 7
    · have H1 := Lib.hid H67
      have HN : Hid (ans = ([⟨12, probeN s good, s.pr + 1⟩] ++ (if phaseN d (probeN s good) (s.pr + 1) = s.ph then [] else [⟨1, phaseN d (probeN s good) (s.pr + 1), 0⟩]), 0)) := Lib.hid (by rw [HANS2.out, probeD, if_pos H1.out, probeL_phase H1.out])
      have h67 : (s.ph != 6) = false ∨ ((s.ph != 6) = true ∧ (s.ph != 7) = false) := by
        rcases H67 with h | h
        · exact .inl (by simp [h])
        · exact .inr ⟨by simp [h], by simp [h]⟩
      clear H67 HANS2
      have hnn : 0 ≤ probeN s good ∧ probeN s good ≤ s.pr + 1 := by unfold probeN; split <;> omega
      have HNN := Lib.hid hnn
      rcases h67 with h6 | ⟨h6, h7⟩
      all_goals cases good
      · go_wp2_with fail
        go_quiet (fail)
        have HN2 : Hid (ans = ([⟨12, 0, s.pr + 1⟩] ++ (if phaseN d (0) (s.pr + 1) = s.ph then [] else [⟨1, phaseN d (0) (s.pr + 1), 0⟩]), 0)) := Lib.hid HN.out
        have T2 := T1.step (below_drewN (Below.refl w1.heap.size w1) nq)
        clear hC hD HN T1
        generalize w1.drewN nq = w2 at T2 ⊢
        have HO : Hid (OR (w2.alloc (.cells #[.int .i64 12, .int .i64 (0), .int .i64 (s.pr + 1)] 60)) (w.heap.size + 2) (.slice (some ⟨w2.heap.size, 0, none⟩) 1 1) [⟨12, 0, s.pr + 1⟩]) := Lib.hid (OR.first T2.O.z 12 (0) (s.pr + 1))
        have HT := Lib.hid (T2.step ((Below.refl _ _).alloc (Nat.le_refl _) (.cells #[.int .i64 12, .int .i64 (0), .int .i64 (s.pr + 1)] 60)))
        have hC2 := T2.A.C
        have hD2 := T2.O.C
        have hC9 := HT.out.A.C
        have hD9 := HT.out.O.C
        go_wp2_with fail
        refine (phaseBehind_any _ d _ _ _ (stPl HP.out HT.out.A.K)).mono ?_
        rintro e w3 ⟨rfl, hb⟩
        have T3 := HT.out.step hb
        have HO3 := Lib.hid (HO.out.below hb)
        clear hC2 hD2 hC9 hD9 hb T2 HO HT
        generalize phaseN d (0) (s.pr + 1) = f at HN2 ⊢
        have hD3 := T3.O.C
        cases hf : (f != s.ph)
        · have HF : Hid (f = s.ph) := Lib.hid (by simpa using hf)
          go_wp2
          all_goals (go_ret2; rw [HN2.out, if_pos HF.out, List.append_nil]; exact ⟨_, rfl, HO3.out.base (by omega), T3.A.K⟩)
        · have HF : Hid (¬ f = s.ph) := Lib.hid (by simpa using hf)
          go_wp2_with (at_builtin; refine append_rec 1 f 0 _ _ rfl rfl rfl HO3.out (by simp) rfl (by simp) T3.O.z ?_; rintro v4 w4 O4 hb4 -)
          all_goals (go_ret2; rw [HN2.out, if_neg HF.out]; exact ⟨_, rfl, O4.base (by omega), (T3.low hb4 (Nat.le_refl _)).A.K⟩)
      · go_wp2_with fail
        go_quiet (fail)
        have HN2 : Hid (ans = ([⟨12, s.gd + 1, s.pr + 1⟩] ++ (if phaseN d (s.gd + 1) (s.pr + 1) = s.ph then [] else [⟨1, phaseN d (s.gd + 1) (s.pr + 1), 0⟩]), 0)) := Lib.hid HN.out
        have T2 := T1.step (below_drewN (Below.refl w1.heap.size w1) nq)
        clear hC hD HN T1
        generalize w1.drewN nq = w2 at T2 ⊢
        have HO : Hid (OR (w2.alloc (.cells #[.int .i64 12, .int .i64 (s.gd + 1), .int .i64 (s.pr + 1)] 60)) (w.heap.size + 2) (.slice (some ⟨w2.heap.size, 0, none⟩) 1 1) [⟨12, s.gd + 1, s.pr + 1⟩]) := Lib.hid (OR.first T2.O.z 12 (s.gd + 1) (s.pr + 1))
        have HT := Lib.hid (T2.step ((Below.refl _ _).alloc (Nat.le_refl _) (.cells #[.int .i64 12, .int .i64 (s.gd + 1), .int .i64 (s.pr + 1)] 60)))
        have hC2 := T2.A.C
        have hD2 := T2.O.C
        have hC9 := HT.out.A.C
        have hD9 := HT.out.O.C
        go_wp2_with fail
        refine (phaseBehind_any _ d _ _ _ (stPl HP.out HT.out.A.K)).mono ?_
        rintro e w3 ⟨rfl, hb⟩
        have T3 := HT.out.step hb
        have HO3 := Lib.hid (HO.out.below hb)
        clear hC2 hD2 hC9 hD9 hb T2 HO HT
        generalize phaseN d (s.gd + 1) (s.pr + 1) = f at HN2 ⊢
        have hD3 := T3.O.C
        cases hf : (f != s.ph)
        · have HF : Hid (f = s.ph) := Lib.hid (by simpa using hf)
          go_wp2
          all_goals (go_ret2; rw [HN2.out, if_pos HF.out, List.append_nil]; exact ⟨_, rfl, HO3.out.base (by omega), T3.A.K⟩)
        · have HF : Hid (¬ f = s.ph) := Lib.hid (by simpa using hf)
          go_wp2_with (at_builtin; refine append_rec 1 f 0 _ _ rfl rfl rfl HO3.out (by simp) rfl (by simp) T3.O.z ?_; rintro v4 w4 O4 hb4 -)
          all_goals (go_ret2; rw [HN2.out, if_neg HF.out]; exact ⟨_, rfl, O4.base (by omega), (T3.low hb4 (Nat.le_refl _)).A.K⟩)
      · go_wp2_with fail
        go_quiet (fail)
        have HN2 : Hid (ans = ([⟨12, 0, s.pr + 1⟩] ++ (if phaseN d (0) (s.pr + 1) = s.ph then [] else [⟨1, phaseN d (0) (s.pr + 1), 0⟩]), 0)) := Lib.hid HN.out
        have T2 := T1.step (below_drewN (Below.refl w1.heap.size w1) nq)
        clear hC hD HN T1
        generalize w1.drewN nq = w2 at T2 ⊢
        have HO : Hid (OR (w2.alloc (.cells #[.int .i64 12, .int .i64 (0), .int .i64 (s.pr + 1)] 60)) (w.heap.size + 2) (.slice (some ⟨w2.heap.size, 0, none⟩) 1 1) [⟨12, 0, s.pr + 1⟩]) := Lib.hid (OR.first T2.O.z 12 (0) (s.pr + 1))
        have HT := Lib.hid (T2.step ((Below.refl _ _).alloc (Nat.le_refl _) (.cells #[.int .i64 12, .int .i64 (0), .int .i64 (s.pr + 1)] 60)))
        have hC2 := T2.A.C
        have hD2 := T2.O.C
        have hC9 := HT.out.A.C
        have hD9 := HT.out.O.C
        go_wp2_with fail
        refine (phaseBehind_any _ d _ _ _ (stPl HP.out HT.out.A.K)).mono ?_
        rintro e w3 ⟨rfl, hb⟩
        have T3 := HT.out.step hb
        have HO3 := Lib.hid (HO.out.below hb)
        clear hC2 hD2 hC9 hD9 hb T2 HO HT
        generalize phaseN d (0) (s.pr + 1) = f at HN2 ⊢
        have hD3 := T3.O.C
        cases hf : (f != s.ph)
        · have HF : Hid (f = s.ph) := Lib.hid (by simpa using hf)
          go_wp2
          all_goals (go_ret2; rw [HN2.out, if_pos HF.out, List.append_nil]; exact ⟨_, rfl, HO3.out.base (by omega), T3.A.K⟩)
        · have HF : Hid (¬ f = s.ph) := Lib.hid (by simpa using hf)
          go_wp2_with (at_builtin; refine append_rec 1 f 0 _ _ rfl rfl rfl HO3.out (by simp) rfl (by simp) T3.O.z ?_; rintro v4 w4 O4 hb4 -)
          all_goals (go_ret2; rw [HN2.out, if_neg HF.out]; exact ⟨_, rfl, O4.base (by omega), (T3.low hb4 (Nat.le_refl _)).A.K⟩)
      · go_wp2_with fail
        go_quiet (fail)
        have HN2 : Hid (ans = ([⟨12, s.gd + 1, s.pr + 1⟩] ++ (if phaseN d (s.gd + 1) (s.pr + 1) = s.ph then [] else [⟨1, phaseN d (s.gd + 1) (s.pr + 1), 0⟩]), 0)) := Lib.hid HN.out
        have T2 := T1.step (below_drewN (Below.refl w1.heap.size w1) nq)
        clear hC hD HN T1
        generalize w1.drewN nq = w2 at T2 ⊢
        have HO : Hid (OR (w2.alloc (.cells #[.int .i64 12, .int .i64 (s.gd + 1), .int .i64 (s.pr + 1)] 60)) (w.heap.size + 2) (.slice (some ⟨w2.heap.size, 0, none⟩) 1 1) [⟨12, s.gd + 1, s.pr + 1⟩]) := Lib.hid (OR.first T2.O.z 12 (s.gd + 1) (s.pr + 1))
        have HT := Lib.hid (T2.step ((Below.refl _ _).alloc (Nat.le_refl _) (.cells #[.int .i64 12, .int .i64 (s.gd + 1), .int .i64 (s.pr + 1)] 60)))
        have hC2 := T2.A.C
        have hD2 := T2.O.C
        have hC9 := HT.out.A.C
        have hD9 := HT.out.O.C
        go_wp2_with fail
        refine (phaseBehind_any _ d _ _ _ (stPl HP.out HT.out.A.K)).mono ?_
        rintro e w3 ⟨rfl, hb⟩
        have T3 := HT.out.step hb
        have HO3 := Lib.hid (HO.out.below hb)
        clear hC2 hD2 hC9 hD9 hb T2 HO HT
        generalize phaseN d (s.gd + 1) (s.pr + 1) = f at HN2 ⊢
        have hD3 := T3.O.C
        cases hf : (f != s.ph)
        · have HF : Hid (f = s.ph) := Lib.hid (by simpa using hf)
          go_wp2
          all_goals (go_ret2; rw [HN2.out, if_pos HF.out, List.append_nil]; exact ⟨_, rfl, HO3.out.base (by omega), T3.A.K⟩)
        · have HF : Hid (¬ f = s.ph) := Lib.hid (by simpa using hf)
          go_wp2_with (at_builtin; refine append_rec 1 f 0 _ _ rfl rfl rfl HO3.out (by simp) rfl (by simp) T3.O.z ?_; rintro v4 w4 O4 hb4 -)
          all_goals (go_ret2; rw [HN2.out, if_neg HF.out]; exact ⟨_, rfl, O4.base (by omega), (T3.low hb4 (Nat.le_refl _)).A.K⟩)
    · have H1 := Lib.hid H67
      have h6 : (s.ph != 6) = true := by simp; intro e; exact H67 (.inl e)
      have h7 : (s.ph != 7) = true := by simp; intro e; exact H67 (.inr e)
      clear H67
      have O9 : OR (w1.alloc (.cells #[] 60)) w.heap.size (.slice (some ⟨w1.heap.size, 0, none⟩) 0 0) [] := OR.empty T1.A.K.size
      have HO9 := Lib.hid O9
      have K9 := T1.A.K.alloc T1.A.K.size (.cells #[] 60)
      clear O9
      go_wp2
      all_goals (go_ret2; rw [HANS2.out, probeD, if_neg H1.out]; exact ⟨_, rfl, HO9.out, K9⟩)
end Go.Proofs.YtdkmhaghnfhajaaGreat
