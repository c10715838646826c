/-
  The model's ProbeRecs.
-/
import Derived.Test.YtdphpjnecjofeaaMZ14
/- Wm -/
set_option linter.unusedVariables false
namespace Go.Proofs.Ytdphpjnecjofeaa
open Go.RowKit

set_option maxRecDepth 4000 in
set_option maxHeartbeats 16000000 in
theorem probeRecs_any (pv sv : Value) (d : PlanD) (s : StD) (good : Bool) (w : World) (hp : IsPlan w w.heap.size pv d) (hs : IsSt w w.heap.size sv s) :
    Calls Try.prog 39 #[pv, sv, .bool good] w (RecsA w (if stOkB d s then probeD d s good else noR 1)) := by
  have HP := Lib.hid hp
  have HS := Lib.hid hs
  obtain ⟨⟨P0, P1, P2, P3, k0, k1, k2, k3, rfl, s0, s1, s2, s3⟩, b0, b1, b2, b3⟩ := hp
  obtain ⟨⟨A0, A1, A2, A3, c0, c1, c2, c3, rfl, t0, t1, t2, t3⟩, f0, f1, f2, f3⟩ := hs
  have S0 := Lib.hid s0
  have S1 := Lib.hid s1
  have S2 := Lib.hid s2
  have S3 := Lib.hid s3
  have R0 := Lib.hid t0
  have R1 := Lib.hid t1
  have R2 := Lib.hid t2
  have R3 := Lib.hid t3
  unfold maxLen at b0 b1 b2 b3 f0 f1 f2 f3
  clear s0 s1 s2 s3 t0 t1 t2 t3
  have T0 := Two.start w (planC P0 P1 P2 P3 d.n0 k0 d.n1 k1 d.n2 k2 d.n3 k3 d.l d.p d.t) (stC A0 A1 A2 A3 s.pods.length c0 s.mnts.length c1 s.devs.length c2 s.lks.length c3 s.ph s.co s.ck s.bo s.ba s.lb s.gd s.pr) 41 46
  obtain ⟨ans, hans⟩ : ∃ ans, (if stOkB d s then probeD d s good else noR 1) = ans := ⟨_, rfl⟩
  rw [hans]
  have HANS := Lib.hid hans
  clear hans
  go_enter Try.func39, Try.ntmps39
  go_wp2_with fail
  refine (specStateOk_any _ _ d s _ ((HP.out.below T0.A.K (Nat.le_refl _)).more T0.A.K.size) ((HS.out.below T0.A.K (Nat.le_refl _)).more T0.A.K.size)).mono ?_
  rintro e w1 ⟨rfl, hb⟩
  have T1 := T0.step hb
  have hC := T1.A.C
  have hD := T1.O.C
  clear hb T0
  cases hok : stOkB d s
  · have OKB : Hid (¬ stOkB d s = true) := Lib.hid (by rw [hok]; decide)
    clear hok
    go_wp2_with fail
    refine (l10No_any 1 _).mono ?_
    rintro e w9 hR
    obtain ⟨v9, rfl, O9, K9⟩ := hR.back T1.A.K
    go_wp2
    all_goals (go_ret2; rw [← HANS.out, if_neg OKB.out]; exact ⟨v9, rfl, O9, K9⟩)
  · have OK := Lib.hid (stOkB_iff.1 hok)
    have HANS2 : Hid (ans = probeD d s good) := Lib.hid (by rw [← HANS.out, if_pos hok])
    clear hok HANS
    have hgd := OK.out.gd
    have hpr := OK.out.pr
    have htm := (times_ok OK.out.plan).2
    have hz := T1.A.z
    have hz' := T1.O.z
    cases h6 : (s.ph != 6)
    · have H6 : Hid (s.ph = 6) := Lib.hid (by simpa using h6)
      have H1 : Hid (s.ph = 6 ∨ s.ph = 7) := Lib.hid (.inl H6.out)
      have h8 : (s.ph == 6) = true := by simpa using H6.out
      cases good
      · have hn1 : ¬ d.p ≤ 0 := by omega
        have HANS3 : Hid (ans = ([⟨12, 0, s.pr + 1⟩] ++ (if d.p ≤ 0 then [⟨1, 0, 0⟩] else if d.t ≤ s.pr + 1 then [⟨1, 8, 0⟩] else if s.ph = 6 then [⟨1, 7, 0⟩] else []), 0)) := Lib.hid (by rw [HANS2.out, probeD, if_pos H1.out, probeL]; rfl)
        have HO : Hid (OR (w1.alloc (.cells #[.int .i64 12, .int .i64 (0), .int .i64 (s.pr + 1)] 80)) (w.heap.size + 2) (.slice (some ⟨w1.heap.size, 0, none⟩) 1 1) [⟨12, 0, s.pr + 1⟩]) := Lib.hid (OR.first T1.O.z 12 (0) (s.pr + 1))
        have HT := Lib.hid (T1.step ((Below.refl _ _).alloc (Nat.le_refl _) (.cells #[.int .i64 12, .int .i64 (0), .int .i64 (s.pr + 1)] 80)))
        by_cases c1 : d.p ≤ 0
        · have C1 := Lib.hid c1
          exact absurd c1 hn1
        · have C1 := Lib.hid c1
          by_cases c2 : d.t ≤ s.pr + 1
          · have C2 := Lib.hid c2
            go_wp2_with (at_builtin; refine append_rec 1 8 0 _ _ rfl rfl rfl HO.out (by simp) rfl (by simp) HT.out.O.z ?_; rintro v' w' O' hb' -)
            all_goals (go_ret2; rw [HANS3.out, if_neg (by have := C1.out; omega), if_pos (by have := C2.out; omega)]; exact ⟨_, rfl, O'.base (by omega), (HT.out.low hb' (Nat.le_refl _)).A.K⟩)
          · have C2 := Lib.hid c2
            go_wp2_with (at_builtin; refine append_rec 1 7 0 _ _ rfl rfl rfl HO.out (by simp) rfl (by simp) HT.out.O.z ?_; rintro v' w' O' hb' -)
            all_goals (go_ret2; rw [HANS3.out, if_neg (by have := C1.out; omega), if_neg (by have := C2.out; omega), if_pos H6.out]; exact ⟨_, rfl, O'.base (by omega), (HT.out.low hb' (Nat.le_refl _)).A.K⟩)
      · have HANS3 : Hid (ans = ([⟨12, s.gd + 1, s.pr + 1⟩] ++ (if d.p ≤ s.gd + 1 then [⟨1, 0, 0⟩] else if d.t ≤ s.pr + 1 then [⟨1, 8, 0⟩] else if s.ph = 6 then [⟨1, 7, 0⟩] else []), 0)) := Lib.hid (by rw [HANS2.out, probeD, if_pos H1.out, probeL]; rfl)
        have HO : Hid (OR (w1.alloc (.cells #[.int .i64 12, .int .i64 (s.gd + 1), .int .i64 (s.pr + 1)] 80)) (w.heap.size + 2) (.slice (some ⟨w1.heap.size, 0, none⟩) 1 1) [⟨12, s.gd + 1, s.pr + 1⟩]) := Lib.hid (OR.first T1.O.z 12 (s.gd + 1) (s.pr + 1))
        have HT := Lib.hid (T1.step ((Below.refl _ _).alloc (Nat.le_refl _) (.cells #[.int .i64 12, .int .i64 (s.gd + 1), .int .i64 (s.pr + 1)] 80)))
        by_cases c1 : d.p ≤ s.gd + 1
        · have C1 := Lib.hid c1
          go_wp2_with (at_builtin; refine append_rec 1 0 0 _ _ rfl rfl rfl HO.out (by simp) rfl (by simp) HT.out.O.z ?_; rintro v' w' O' hb' -)
          all_goals (go_ret2; rw [HANS3.out, if_pos (by have := C1.out; omega)]; exact ⟨_, rfl, O'.base (by omega), (HT.out.low hb' (Nat.le_refl _)).A.K⟩)
        · have C1 := Lib.hid c1
          by_cases c2 : d.t ≤ s.pr + 1
          · have C2 := Lib.hid c2
            go_wp2_with (at_builtin; refine append_rec 1 8 0 _ _ rfl rfl rfl HO.out (by simp) rfl (by simp) HT.out.O.z ?_; rintro v' w' O' hb' -)
            all_goals (go_ret2; rw [HANS3.out, if_neg (by have := C1.out; omega), if_pos (by have := C2.out; omega)]; exact ⟨_, rfl, O'.base (by omega), (HT.out.low hb' (Nat.le_refl _)).A.K⟩)
          · have C2 := Lib.hid c2
            go_wp2_with (at_builtin; refine append_rec 1 7 0 _ _ rfl rfl rfl HO.out (by simp) rfl (by simp) HT.out.O.z ?_; rintro v' w' O' hb' -)
            all_goals (go_ret2; rw [HANS3.out, if_neg (by have := C1.out; omega), if_neg (by have := C2.out; omega), if_pos H6.out]; exact ⟨_, rfl, O'.base (by omega), (HT.out.low hb' (Nat.le_refl _)).A.K⟩)
    · have H6 : Hid (¬ s.ph = 6) := Lib.hid (by simpa using h6)
      have h8 : (s.ph == 6) = false := by simpa using H6.out
      cases h7 : (s.ph != 7)
      · have H1 : Hid (s.ph = 6 ∨ s.ph = 7) := Lib.hid (.inr (by simpa using h7))
        cases good
        · have hn1 : ¬ d.p ≤ 0 := by omega
          have HANS3 : Hid (ans = ([⟨12, 0, s.pr + 1⟩] ++ (if d.p ≤ 0 then [⟨1, 0, 0⟩] else if d.t ≤ s.pr + 1 then [⟨1, 8, 0⟩] else if s.ph = 6 then [⟨1, 7, 0⟩] else []), 0)) := Lib.hid (by rw [HANS2.out, probeD, if_pos H1.out, probeL]; rfl)
          have HO : Hid (OR (w1.alloc (.cells #[.int .i64 12, .int .i64 (0), .int .i64 (s.pr + 1)] 80)) (w.heap.size + 2) (.slice (some ⟨w1.heap.size, 0, none⟩) 1 1) [⟨12, 0, s.pr + 1⟩]) := Lib.hid (OR.first T1.O.z 12 (0) (s.pr + 1))
          have HT := Lib.hid (T1.step ((Below.refl _ _).alloc (Nat.le_refl _) (.cells #[.int .i64 12, .int .i64 (0), .int .i64 (s.pr + 1)] 80)))
          by_cases c1 : d.p ≤ 0
          · have C1 := Lib.hid c1
            exact absurd c1 hn1
          · have C1 := Lib.hid c1
            by_cases c2 : d.t ≤ s.pr + 1
            · have C2 := Lib.hid c2
              go_wp2_with (at_builtin; refine append_rec 1 8 0 _ _ rfl rfl rfl HO.out (by simp) rfl (by simp) HT.out.O.z ?_; rintro v' w' O' hb' -)
              all_goals (go_ret2; rw [HANS3.out, if_neg (by have := C1.out; omega), if_pos (by have := C2.out; omega)]; exact ⟨_, rfl, O'.base (by omega), (HT.out.low hb' (Nat.le_refl _)).A.K⟩)
            · have C2 := Lib.hid c2
              go_wp2
              all_goals (go_ret2; rw [HANS3.out, if_neg (by have := C1.out; omega), if_neg (by have := C2.out; omega), if_neg H6.out]; exact ⟨_, rfl, HO.out.base (by omega), HT.out.A.K⟩)
        · have HANS3 : Hid (ans = ([⟨12, s.gd + 1, s.pr + 1⟩] ++ (if d.p ≤ s.gd + 1 then [⟨1, 0, 0⟩] else if d.t ≤ s.pr + 1 then [⟨1, 8, 0⟩] else if s.ph = 6 then [⟨1, 7, 0⟩] else []), 0)) := Lib.hid (by rw [HANS2.out, probeD, if_pos H1.out, probeL]; rfl)
          have HO : Hid (OR (w1.alloc (.cells #[.int .i64 12, .int .i64 (s.gd + 1), .int .i64 (s.pr + 1)] 80)) (w.heap.size + 2) (.slice (some ⟨w1.heap.size, 0, none⟩) 1 1) [⟨12, s.gd + 1, s.pr + 1⟩]) := Lib.hid (OR.first T1.O.z 12 (s.gd + 1) (s.pr + 1))
          have HT := Lib.hid (T1.step ((Below.refl _ _).alloc (Nat.le_refl _) (.cells #[.int .i64 12, .int .i64 (s.gd + 1), .int .i64 (s.pr + 1)] 80)))
          by_cases c1 : d.p ≤ s.gd + 1
          · have C1 := Lib.hid c1
            go_wp2_with (at_builtin; refine append_rec 1 0 0 _ _ rfl rfl rfl HO.out (by simp) rfl (by simp) HT.out.O.z ?_; rintro v' w' O' hb' -)
            all_goals (go_ret2; rw [HANS3.out, if_pos (by have := C1.out; omega)]; exact ⟨_, rfl, O'.base (by omega), (HT.out.low hb' (Nat.le_refl _)).A.K⟩)
          · have C1 := Lib.hid c1
            by_cases c2 : d.t ≤ s.pr + 1
            · have C2 := Lib.hid c2
              go_wp2_with (at_builtin; refine append_rec 1 8 0 _ _ rfl rfl rfl HO.out (by simp) rfl (by simp) HT.out.O.z ?_; rintro v' w' O' hb' -)
              all_goals (go_ret2; rw [HANS3.out, if_neg (by have := C1.out; omega), if_pos (by have := C2.out; omega)]; exact ⟨_, rfl, O'.base (by omega), (HT.out.low hb' (Nat.le_refl _)).A.K⟩)
            · have C2 := Lib.hid c2
              go_wp2
              all_goals (go_ret2; rw [HANS3.out, if_neg (by have := C1.out; omega), if_neg (by have := C2.out; omega), if_neg H6.out]; exact ⟨_, rfl, HO.out.base (by omega), HT.out.A.K⟩)
      · have H1 : Hid (¬ (s.ph = 6 ∨ s.ph = 7)) := Lib.hid (by have := H6.out; simp at h7; omega)
        go_wp2_with fail
        refine (l10No_any 3 _).mono ?_
        rintro e w9 hR
        obtain ⟨v9, rfl, O9, K9⟩ := hR.back T1.A.K
        go_wp2
        all_goals (go_ret2; rw [HANS2.out, probeD, if_neg H1.out]; exact ⟨v9, rfl, O9, K9⟩)

end Go.Proofs.Ytdphpjnecjofeaa
