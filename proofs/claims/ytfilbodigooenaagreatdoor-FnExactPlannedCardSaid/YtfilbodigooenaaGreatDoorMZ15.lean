/-
  Chapter 11 of the program: a tick in its box; collect: one record more.
-/
import Derived.Test.YtfilbodigooenaaGreatDoorMZ14
import Derived.Test.YtfilbodigooenaaGreatDoorMZ7
import Derived.Test.YtfilbodigooenaaGreatDoorMZ9
import Derived.Deep.RegionHeld3
import Derived.Deep.AppendLies
/- Wm -/
set_option linter.unusedVariables false
namespace Go.Proofs.YtfilbodigooenaaGreatDoor
open Go.RowKit

set_option maxRecDepth 4000 in
set_option maxHeartbeats 16000000 in
theorem probeRecs_any (pv sv : Value) (d : PlanD) (s : StD) (good : Bool) (w : World) (hp : IsPlan w w.heap.size pv d) (hs : IsSt w w.heap.size sv s) :
    Calls Tryz.prog 64 #[pv, sv, .bool good] w (RecsA w (if stOkB d s then probeD d s good else noR 1)) := by
  have HP := Lib.hid hp
  have HS := Lib.hid hs
  obtain ⟨⟨P0, P1, P2, P3, k0, k1, k2, k3, rfl, s0, s1, s2, s3⟩, b0, b1, b2, b3⟩ := hp
  obtain ⟨⟨A0, A1, A2, A3, c0, c1, c2, c3, rfl, t0, t1, t2, t3⟩, f0, f1, f2, f3⟩ := hs
  have S0 := Lib.hid s0
  have S1 := Lib.hid s1
  have S2 := Lib.hid s2
  have S3 := Lib.hid s3
  have R0 := Lib.hid t0
  have R1 := Lib.hid t1
  have R2 := Lib.hid t2
  have R3 := Lib.hid t3
  unfold maxLen at b0 b1 b2 b3 f0 f1 f2 f3
  clear s0 s1 s2 s3 t0 t1 t2 t3
  have T0 := Two.start w (planC P0 P1 P2 P3 d.n0 k0 d.n1 k1 d.n2 k2 d.n3 k3 d.l d.p d.t) (stC A0 A1 A2 A3 s.pods.length c0 s.mnts.length c1 s.devs.length c2 s.lks.length c3 s.ph s.co s.ck s.bo s.ba s.lb s.gd s.pr) 44 49
  obtain ⟨ans, hans⟩ : ∃ ans, (if stOkB d s then probeD d s good else noR 1) = ans := ⟨_, rfl⟩
  rw [hans]
  have HANS := Lib.hid hans
  clear hans
  go_enter Tryz.func64, Tryz.ntmps64
  go_wp2_with fail
  refine (specStateOk_any _ _ d s _ ((HP.out.below T0.A.K (Nat.le_refl _)).more T0.A.K.size) ((HS.out.below T0.A.K (Nat.le_refl _)).more T0.A.K.size)).mono ?_
  rintro e w1 ⟨rfl, hb⟩
  have T1 := T0.step hb
  have hC := T1.A.C
  have hD := T1.O.C
  clear hb T0
  cases hok : stOkB d s
  · have OKB : Hid (¬ stOkB d s = true) := Lib.hid (by rw [hok]; decide)
    clear hok
    go_wp2_with fail
    refine (l10No_any 1 _).mono ?_
    rintro e w9 hR
    obtain ⟨v9, rfl, O9, K9⟩ := hR.back T1.A.K
    go_wp2
    all_goals (go_ret2; rw [← HANS.out, if_neg OKB.out]; exact ⟨v9, rfl, O9, K9⟩)
  · have OK := Lib.hid (stOkB_iff.1 hok)
    have HANS2 : Hid (ans = probeD d s good) := Lib.hid (by rw [← HANS.out, if_pos hok])
    clear hok HANS
    have hgd := OK.out.gd
    have hpr := OK.out.pr
    have htm := (times_ok OK.out.plan).2
    have hz := T1.A.z
    have hz' := T1.O.z
    cases h6 : (s.ph != 6)
    · have H6 : Hid (s.ph = 6) := Lib.hid (by simpa using h6)
      have H1 : Hid (s.ph = 6 ∨ s.ph = 7) := Lib.hid (.inl H6.out)
      have h8 : (s.ph == 6) = true := by simpa using H6.out
      cases good
      · have hn1 : ¬ d.p ≤ 0 := by omega
        have HANS3 : Hid (ans = ([⟨12, 0, s.pr + 1⟩] ++ (if d.p ≤ 0 then [⟨1, 0, 0⟩] else if d.t ≤ s.pr + 1 then [⟨1, 8, 0⟩] else if s.ph = 6 then [⟨1, 7, 0⟩] else []), 0)) := Lib.hid (by rw [HANS2.out, probeD, if_pos H1.out, probeL]; rfl)
        have HO : Hid (OR (w1.alloc (.cells #[.int .i64 12, .int .i64 (0), .int .i64 (s.pr + 1)] 93)) (w.heap.size + 2) (.slice (some ⟨w1.heap.size, 0, none⟩) 1 1) [⟨12, 0, s.pr + 1⟩]) := Lib.hid (OR.first T1.O.z 12 (0) (s.pr + 1))
        have HT := Lib.hid (T1.step ((Below.refl _ _).alloc (Nat.le_refl _) (.cells #[.int .i64 12, .int .i64 (0), .int .i64 (s.pr + 1)] 93)))
        by_cases c1 : d.p ≤ 0
        · have C1 := Lib.hid c1
          exact absurd c1 hn1
        · have C1 := Lib.hid c1
          by_cases c2 : d.t ≤ s.pr + 1
          · have C2 := Lib.hid c2
            go_wp2_with (at_builtin; refine append_rec 1 8 0 _ _ rfl rfl rfl HO.out (by simp) rfl (by simp) HT.out.O.z ?_; rintro v' w' O' hb' -)
            all_goals (go_ret2; rw [HANS3.out, if_neg (by have := C1.out; omega), if_pos (by have := C2.out; omega)]; exact ⟨_, rfl, O'.base (by omega), (HT.out.low hb' (Nat.le_refl _)).A.K⟩)
          · have C2 := Lib.hid c2
            go_wp2_with (at_builtin; refine append_rec 1 7 0 _ _ rfl rfl rfl HO.out (by simp) rfl (by simp) HT.out.O.z ?_; rintro v' w' O' hb' -)
            all_goals (go_ret2; rw [HANS3.out, if_neg (by have := C1.out; omega), if_neg (by have := C2.out; omega), if_pos H6.out]; exact ⟨_, rfl, O'.base (by omega), (HT.out.low hb' (Nat.le_refl _)).A.K⟩)
      · have HANS3 : Hid (ans = ([⟨12, s.gd + 1, s.pr + 1⟩] ++ (if d.p ≤ s.gd + 1 then [⟨1, 0, 0⟩] else if d.t ≤ s.pr + 1 then [⟨1, 8, 0⟩] else if s.ph = 6 then [⟨1, 7, 0⟩] else []), 0)) := Lib.hid (by rw [HANS2.out, probeD, if_pos H1.out, probeL]; rfl)
        have HO : Hid (OR (w1.alloc (.cells #[.int .i64 12, .int .i64 (s.gd + 1), .int .i64 (s.pr + 1)] 93)) (w.heap.size + 2) (.slice (some ⟨w1.heap.size, 0, none⟩) 1 1) [⟨12, s.gd + 1, s.pr + 1⟩]) := Lib.hid (OR.first T1.O.z 12 (s.gd + 1) (s.pr + 1))
        have HT := Lib.hid (T1.step ((Below.refl _ _).alloc (Nat.le_refl _) (.cells #[.int .i64 12, .int .i64 (s.gd + 1), .int .i64 (s.pr + 1)] 93)))
        by_cases c1 : d.p ≤ s.gd + 1
        · have C1 := Lib.hid c1
          go_wp2_with (at_builtin; refine append_rec 1 0 0 _ _ rfl rfl rfl HO.out (by simp) rfl (by simp) HT.out.O.z ?_; rintro v' w' O' hb' -)
          all_goals (go_ret2; rw [HANS3.out, if_pos (by have := C1.out; omega)]; exact ⟨_, rfl, O'.base (by omega), (HT.out.low hb' (Nat.le_refl _)).A.K⟩)
        · have C1 := Lib.hid c1
          by_cases c2 : d.t ≤ s.pr + 1
          · have C2 := Lib.hid c2
            go_wp2_with (at_builtin; refine append_rec 1 8 0 _ _ rfl rfl rfl HO.out (by simp) rfl (by simp) HT.out.O.z ?_; rintro v' w' O' hb' -)
            all_goals (go_ret2; rw [HANS3.out, if_neg (by have := C1.out; omega), if_pos (by have := C2.out; omega)]; exact ⟨_, rfl, O'.base (by omega), (HT.out.low hb' (Nat.le_refl _)).A.K⟩)
          · have C2 := Lib.hid c2
            go_wp2_with (at_builtin; refine append_rec 1 7 0 _ _ rfl rfl rfl HO.out (by simp) rfl (by simp) HT.out.O.z ?_; rintro v' w' O' hb' -)
            all_goals (go_ret2; rw [HANS3.out, if_neg (by have := C1.out; omega), if_neg (by have := C2.out; omega), if_pos H6.out]; exact ⟨_, rfl, O'.base (by omega), (HT.out.low hb' (Nat.le_refl _)).A.K⟩)
    · have H6 : Hid (¬ s.ph = 6) := Lib.hid (by simpa using h6)
      have h8 : (s.ph == 6) = false := by simpa using H6.out
      cases h7 : (s.ph != 7)
      · have H1 : Hid (s.ph = 6 ∨ s.ph = 7) := Lib.hid (.inr (by simpa using h7))
        cases good
        · have hn1 : ¬ d.p ≤ 0 := by omega
          have HANS3 : Hid (ans = ([⟨12, 0, s.pr + 1⟩] ++ (if d.p ≤ 0 then [⟨1, 0, 0⟩] else if d.t ≤ s.pr + 1 then [⟨1, 8, 0⟩] else if s.ph = 6 then [⟨1, 7, 0⟩] else []), 0)) := Lib.hid (by rw [HANS2.out, probeD, if_pos H1.out, probeL]; rfl)
          have HO : Hid (OR (w1.alloc (.cells #[.int .i64 12, .int .i64 (0), .int .i64 (s.pr + 1)] 93)) (w.heap.size + 2) (.slice (some ⟨w1.heap.size, 0, none⟩) 1 1) [⟨12, 0, s.pr + 1⟩]) := Lib.hid (OR.first T1.O.z 12 (0) (s.pr + 1))
          have HT := Lib.hid (T1.step ((Below.refl _ _).alloc (Nat.le_refl _) (.cells #[.int .i64 12, .int .i64 (0), .int .i64 (s.pr + 1)] 93)))
          by_cases c1 : d.p ≤ 0
          · have C1 := Lib.hid c1
            exact absurd c1 hn1
          · have C1 := Lib.hid c1
            by_cases c2 : d.t ≤ s.pr + 1
            · have C2 := Lib.hid c2
              go_wp2_with (at_builtin; refine append_rec 1 8 0 _ _ rfl rfl rfl HO.out (by simp) rfl (by simp) HT.out.O.z ?_; rintro v' w' O' hb' -)
              all_goals (go_ret2; rw [HANS3.out, if_neg (by have := C1.out; omega), if_pos (by have := C2.out; omega)]; exact ⟨_, rfl, O'.base (by omega), (HT.out.low hb' (Nat.le_refl _)).A.K⟩)
            · have C2 := Lib.hid c2
              go_wp2
              all_goals (go_ret2; rw [HANS3.out, if_neg (by have := C1.out; omega), if_neg (by have := C2.out; omega), if_neg H6.out]; exact ⟨_, rfl, HO.out.base (by omega), HT.out.A.K⟩)
        · have HANS3 : Hid (ans = ([⟨12, s.gd + 1, s.pr + 1⟩] ++ (if d.p ≤ s.gd + 1 then [⟨1, 0, 0⟩] else if d.t ≤ s.pr + 1 then [⟨1, 8, 0⟩] else if s.ph = 6 then [⟨1, 7, 0⟩] else []), 0)) := Lib.hid (by rw [HANS2.out, probeD, if_pos H1.out, probeL]; rfl)
          have HO : Hid (OR (w1.alloc (.cells #[.int .i64 12, .int .i64 (s.gd + 1), .int .i64 (s.pr + 1)] 93)) (w.heap.size + 2) (.slice (some ⟨w1.heap.size, 0, none⟩) 1 1) [⟨12, s.gd + 1, s.pr + 1⟩]) := Lib.hid (OR.first T1.O.z 12 (s.gd + 1) (s.pr + 1))
          have HT := Lib.hid (T1.step ((Below.refl _ _).alloc (Nat.le_refl _) (.cells #[.int .i64 12, .int .i64 (s.gd + 1), .int .i64 (s.pr + 1)] 93)))
          by_cases c1 : d.p ≤ s.gd + 1
          · have C1 := Lib.hid c1
            go_wp2_with (at_builtin; refine append_rec 1 0 0 _ _ rfl rfl rfl HO.out (by simp) rfl (by simp) HT.out.O.z ?_; rintro v' w' O' hb' -)
            all_goals (go_ret2; rw [HANS3.out, if_pos (by have := C1.out; omega)]; exact ⟨_, rfl, O'.base (by omega), (HT.out.low hb' (Nat.le_refl _)).A.K⟩)
          · have C1 := Lib.hid c1
            by_cases c2 : d.t ≤ s.pr + 1
            · have C2 := Lib.hid c2
              go_wp2_with (at_builtin; refine append_rec 1 8 0 _ _ rfl rfl rfl HO.out (by simp) rfl (by simp) HT.out.O.z ?_; rintro v' w' O' hb' -)
              all_goals (go_ret2; rw [HANS3.out, if_neg (by have := C1.out; omega), if_pos (by have := C2.out; omega)]; exact ⟨_, rfl, O'.base (by omega), (HT.out.low hb' (Nat.le_refl _)).A.K⟩)
            · have C2 := Lib.hid c2
              go_wp2
              all_goals (go_ret2; rw [HANS3.out, if_neg (by have := C1.out; omega), if_neg (by have := C2.out; omega), if_neg H6.out]; exact ⟨_, rfl, HO.out.base (by omega), HT.out.A.K⟩)
      · have H1 : Hid (¬ (s.ph = 6 ∨ s.ph = 7)) := Lib.hid (by have := H6.out; simp at h7; omega)
        go_wp2_with fail
        refine (l10No_any 3 _).mono ?_
        rintro e w9 hR
        obtain ⟨v9, rfl, O9, K9⟩ := hR.back T1.A.K
        go_wp2
        all_goals (go_ret2; rw [HANS2.out, probeD, if_neg H1.out]; exact ⟨v9, rfl, O9, K9⟩)

end Go.Proofs.YtfilbodigooenaaGreatDoor
/- Wn -/
set_option linter.unusedVariables false
namespace Go.Proofs.YtfilbodigooenaaGreatDoor
open Go.RowKit

def planD (d : PlanD) (s : StD) (k a b : Int) : List RecD × Int := if k = 11 then tickD d s else if k = 12 then bootD d s a else if k = 13 then probeD d s (a == 1) else commandD d s k a b
def plannedD (d : PlanD) (s : StD) (k a b : Int) : List RecD × Int := if stOkB d s && orderOkB k a b then planD d s k a b else noR 1

set_option maxRecDepth 4000 in
set_option maxHeartbeats 8000000 in
theorem l13Plan_any (pv sv : Value) (d : PlanD) (s : StD) (k a b : Int) (w : World) (hp : IsPlan w w.heap.size pv d) (hs : IsSt w w.heap.size sv s) (hok : StOk d s) :
    Calls Tryz.prog 28 #[pv, sv, .agg (ordC k a b)] w (RecsA w (planD d s k a b)) := by
  have HP := Lib.hid hp
  have HS := Lib.hid hs
  obtain ⟨⟨P0, P1, P2, P3, k0, k1, k2, k3, rfl, s0, s1, s2, s3⟩, b0, b1, b2, b3⟩ := hp
  obtain ⟨⟨A0, A1, A2, A3, c0, c1, c2, c3, rfl, t0, t1, t2, t3⟩, f0, f1, f2, f3⟩ := hs
  have S0 := Lib.hid s0
  have S1 := Lib.hid s1
  have S2 := Lib.hid s2
  have S3 := Lib.hid s3
  have R0 := Lib.hid t0
  have R1 := Lib.hid t1
  have R2 := Lib.hid t2
  have R3 := Lib.hid t3
  unfold maxLen at b0 b1 b2 b3 f0 f1 f2 f3
  clear s0 s1 s2 s3 t0 t1 t2 t3
  have T0 := TP.start w (planC P0 P1 P2 P3 d.n0 k0 d.n1 k1 d.n2 k2 d.n3 k3 d.l d.p d.t) (stC A0 A1 A2 A3 s.pods.length c0 s.mnts.length c1 s.devs.length c2 s.lks.length c3 s.ph s.co s.ck s.bo s.ba s.lb s.gd s.pr) (ordC k a b) 44 49 51
  have OKB := Lib.hid (stOkB_iff.2 hok)
  clear hok
  obtain ⟨ans, hans⟩ : ∃ ans, planD d s k a b = ans := ⟨_, rfl⟩
  rw [hans]
  have HANS := Lib.hid hans
  clear hans
  by_cases e11 : k = 11
  · subst e11
    go_enter Tryz.func28, Tryz.ntmps28
    go_wp2_with fail
    refine (tickRecs_any _ _ d s _ ((HP.out.below T0.A.K (Nat.le_refl _)).more T0.A.K.size) ((HS.out.below T0.A.K (Nat.le_refl _)).more T0.A.K.size)).mono ?_
    rw [if_pos OKB.out]
    rintro e w9 hR
    obtain ⟨v9, rfl, O9, K9⟩ := hR.back T0.A.K
    go_wp2
    all_goals (go_ret2; rw [← HANS.out, planD, if_pos rfl]; exact ⟨v9, rfl, O9, K9⟩)
  · have E11 := Lib.hid e11
    by_cases e12 : k = 12
    · subst e12
      go_enter Tryz.func28, Tryz.ntmps28
      go_wp2_with fail
      refine (bootRecs_any _ _ d s a _ ((HP.out.below T0.A.K (Nat.le_refl _)).more T0.A.K.size) ((HS.out.below T0.A.K (Nat.le_refl _)).more T0.A.K.size)).mono ?_
      rw [if_pos OKB.out]
      rintro e w9 hR
      obtain ⟨v9, rfl, O9, K9⟩ := hR.back T0.A.K
      go_wp2
      all_goals (go_ret2; rw [← HANS.out, planD, if_neg E11.out, if_pos rfl]; exact ⟨v9, rfl, O9, K9⟩)
    · have E12 := Lib.hid e12
      by_cases e13 : k = 13
      · subst e13
        go_enter Tryz.func28, Tryz.ntmps28
        go_wp2_with fail
        refine (probeRecs_any _ _ d s (a == 1) _ ((HP.out.below T0.A.K (Nat.le_refl _)).more T0.A.K.size) ((HS.out.below T0.A.K (Nat.le_refl _)).more T0.A.K.size)).mono ?_
        rw [if_pos OKB.out]
        rintro e w9 hR
        obtain ⟨v9, rfl, O9, K9⟩ := hR.back T0.A.K
        go_wp2
        all_goals (go_ret2; rw [← HANS.out, planD, if_neg E11.out, if_neg E12.out, if_pos rfl]; exact ⟨v9, rfl, O9, K9⟩)
      · have E13 := Lib.hid e13
        go_enter Tryz.func28, Tryz.ntmps28
        go_wp2_with fail
        refine (commanded_any _ _ d s k a b _ ((HP.out.below T0.A.K (Nat.le_refl _)).more T0.A.K.size) ((HS.out.below T0.A.K (Nat.le_refl _)).more T0.A.K.size)).mono ?_
        rw [if_pos OKB.out]
        rintro e w9 hR
        obtain ⟨v9, rfl, O9, K9⟩ := hR.back T0.A.K
        go_wp2
        all_goals (go_ret2; rw [← HANS.out, planD, if_neg E11.out, if_neg E12.out, if_neg E13.out]; exact ⟨v9, rfl, O9, K9⟩)

set_option maxRecDepth 4000 in
set_option maxHeartbeats 8000000 in
theorem planned_any (pv sv : Value) (d : PlanD) (s : StD) (k a b : Int) (w : World) (hp : IsPlan w w.heap.size pv d) (hs : IsSt w w.heap.size sv s) :
    Calls Tryz.prog 6 #[pv, sv, .agg (ordC k a b)] w (RecsA w (plannedD d s k a b)) := by
  have HP := Lib.hid hp
  have HS := Lib.hid hs
  obtain ⟨⟨P0, P1, P2, P3, k0, k1, k2, k3, rfl, s0, s1, s2, s3⟩, b0, b1, b2, b3⟩ := hp
  obtain ⟨⟨A0, A1, A2, A3, c0, c1, c2, c3, rfl, t0, t1, t2, t3⟩, f0, f1, f2, f3⟩ := hs
  have S0 := Lib.hid s0
  have S1 := Lib.hid s1
  have S2 := Lib.hid s2
  have S3 := Lib.hid s3
  have R0 := Lib.hid t0
  have R1 := Lib.hid t1
  have R2 := Lib.hid t2
  have R3 := Lib.hid t3
  unfold maxLen at b0 b1 b2 b3 f0 f1 f2 f3
  clear s0 s1 s2 s3 t0 t1 t2 t3
  have T0 := TP.start w (planC P0 P1 P2 P3 d.n0 k0 d.n1 k1 d.n2 k2 d.n3 k3 d.l d.p d.t) (stC A0 A1 A2 A3 s.pods.length c0 s.mnts.length c1 s.devs.length c2 s.lks.length c3 s.ph s.co s.ck s.bo s.ba s.lb s.gd s.pr) (ordC k a b) 44 49 51
  obtain ⟨ans, hans⟩ : ∃ ans, plannedD d s k a b = ans := ⟨_, rfl⟩
  rw [hans]
  have HANS := Lib.hid hans
  clear hans
  go_enter Tryz.func6, Tryz.ntmps6
  go_wp2_with fail
  refine (specStateOk_any _ _ d s _ ((HP.out.below T0.A.K (Nat.le_refl _)).more T0.A.K.size) ((HS.out.below T0.A.K (Nat.le_refl _)).more T0.A.K.size)).mono ?_
  rintro e w1 ⟨rfl, hb⟩
  have T1 := T0.step hb
  have hC := T1.A.C
  have hD := T1.Z.C
  have hE := T1.O.C
  clear hb T0
  cases hok : stOkB d s
  · have H := Lib.hid hok
    clear hok
    go_wp2_with fail
    refine (l10No_any 1 _).mono ?_
    rintro e w9 hR
    obtain ⟨v9, rfl, O9, K9⟩ := hR.back T1.A.K
    go_wp2
    all_goals (go_ret2; rw [← HANS.out, plannedD, H.out, Bool.false_and, if_neg (by decide)]; exact ⟨v9, rfl, O9, K9⟩)
  · have OK := Lib.hid (stOkB_iff.1 hok)
    have H := Lib.hid hok
    clear hok
    go_wp2_with fail
    refine (orderOk_any k a b _).mono ?_
    rintro e w2 ⟨rfl, hb⟩
    have T2 := T1.step hb
    clear hb T1 hC hD hE
    have hC := T2.A.C
    have hD := T2.Z.C
    have hE := T2.O.C
    cases ho : orderOkB k a b
    · have HO := Lib.hid ho
      clear ho
      go_wp2_with fail
      refine (l10No_any 1 _).mono ?_
      rintro e w9 hR
      obtain ⟨v9, rfl, O9, K9⟩ := hR.back T2.A.K
      go_wp2
      all_goals (go_ret2; rw [← HANS.out, plannedD, HO.out, Bool.and_false, if_neg (by decide)]; exact ⟨v9, rfl, O9, K9⟩)
    · have HO := Lib.hid ho
      clear ho
      go_wp2_with fail
      refine (l13Plan_any _ _ d s k a b _ ((HP.out.below T2.A.K (Nat.le_refl _)).more T2.A.K.size) ((HS.out.below T2.A.K (Nat.le_refl _)).more T2.A.K.size) OK.out).mono ?_
      rintro e w9 hR
      obtain ⟨v9, rfl, O9, K9⟩ := hR.back T2.A.K
      go_wp2
      all_goals (go_ret2; rw [← HANS.out, plannedD, H.out, HO.out, Bool.true_and, if_pos rfl]; exact ⟨v9, rfl, O9, K9⟩)

end Go.Proofs.YtfilbodigooenaaGreatDoor
/- Ia -/
set_option linter.unusedVariables false
namespace Go.Proofs.YtfilbodigooenaaGreatDoor
open Go.RowKit

/-- The cells of a tick: its plan's, its state's, its clock, what it has collected. -/
abbrev tkC (P0 P1 P2 P3 : Option Addr) (n0 k0 n1 k1 n2 k2 n3 k3 : Nat) (l p t : Int) (A0 A1 A2 A3 : Option Addr) (m0 c0 m1 c1 m2 c2 m3 c3 : Nat) (ph : Int) (co : Bool) (ck bo ba lb gd pr clk : Int) (v : Value) : Array Value :=
  #[.slice P0 n0 k0, .slice P1 n1 k1, .slice P2 n2 k2, .slice P3 n3 k3, .int .i64 l, .int .i64 p, .int .i64 t,
    .int .i64 ph, .bool co, .int .i64 ck, .int .i64 bo, .int .i64 ba, .int .i64 lb, .slice A0 m0 c0, .slice A1 m1 c1, .slice A2 m2 c2, .slice A3 m3 c3, .int .i64 gd, .int .i64 pr, .int .i64 clk, v]
/-- A box of a tick, the call's own. -/
def BoxTk (w : World) (B g : Nat) (xs : List Value) : Prop := w.ownsRow B 140 21 (.slice (some ⟨g, 0, none⟩) 1 1) 1 xs
theorem BoxTk.new {W : World} {B g : Nat} {cs : Array Value} (hg : W.heap.size = g) (hB : B ≤ W.heap.size) (hl : cs.size = 21) : BoxTk (W.alloc (.cells cs 140)) B g cs.toList := by
  subst hg
  exact own_of_heap (cur := cs) (heap_alloc_new W _) (by simp) (by simp [hl]) hB (by unfold maxLen; decide)
theorem BoxTk.at_ {w : World} {B g : Nat} {xs : List Value} (h : BoxTk w B g xs) (o : Nat) (ho : o < 21) : w.cell? ⟨g, o, none⟩ = xs[o]? := World.ownsRow.cellAt h o (by omega)
theorem BoxTk.C {w : World} {B g : Nat} {cs : Array Value} (h : BoxTk w B g cs.toList) : ∀ o, w.cell? ⟨g, o, none⟩ = cs[o]? := by
  intro o
  obtain ⟨hl, ⟨hv, _⟩ | ⟨g', cap, cur, hv, hb, hh, hnc, hcm, hsz, ht⟩⟩ := id h
  · cases hv
  · injection hv with h1 h2 h3
    injection h1 with h1
    injection h1 with h1 _ _
    subst h1 h3
    by_cases ho : o < 21
    · rw [h.at_ o ho, Array.getElem?_toList]
    · rw [cell_of_row _ _ _ _ _ _ hh, Array.getElem?_eq_none (by omega), Array.getElem?_eq_none (by simpa using (by omega : cs.toList.length ≤ o))]
theorem BoxTk.frozen {w : World} {B g : Nat} {xs : List Value} (h : BoxTk w B g xs) (o : Nat) : w.frozen? ⟨g, o, none⟩ = false := World.ownsRow.frozenAt h o
theorem BoxTk.lt {w : World} {B g : Nat} {xs : List Value} (h : BoxTk w B g xs) : B ≤ g ∧ g < w.heap.size := World.ownsRow.lt h g rfl
theorem BoxTk.go {w w' : World} {B g : Nat} {xs : List Value} (h : BoxTk w B g xs) (hb : Below w.heap.size w w') : BoxTk w' B g xs := ownsRow_below h hb
theorem keeps_setT (w : World) (g o : Nat) (u : Value) : Keeps (· = g) w (w.setCell ⟨g, o, none⟩ u) := (Keeps.refl (· = g) w).set rfl u

/-- Rows but of ticks and of records are as they were. -/
def KRow (W W' : World) : Prop := ∀ (B e k n : Nat) (u : Value) (xs : List Value), e ≠ 140 → e ≠ 93 → W.ownsRow B e k u n xs → W'.ownsRow B e k u n xs
theorem KRow.refl (W : World) : KRow W W := fun _ _ _ _ _ _ _ _ h => h
theorem KRow.trans {a b c : World} (h : KRow a b) (h' : KRow b c) : KRow a c := fun B e k n u xs h1 h2 x => h' B e k n u xs h1 h2 (h B e k n u xs h1 h2 x)
theorem KRow.step {a b c : World} (h : KRow a b) (hb : Below b.heap.size b c) : KRow a c := fun B e k n u xs h1 h2 x => ownsRow_below (h B e k n u xs h1 h2 x) hb
theorem KRow.row {a b c : World} {B e k n : Nat} {v : Value} {xs : List Value} (h : KRow a b) (O : b.ownsRow B e k v n xs) (he : e = 140 ∨ e = 93) (kp : Keeps (fun q => v.ownBlock = some q) b c) : KRow a c := fun B' e' k' n' u ys h1 h2 x =>
  ownsRow_keeps (h B' e' k' n' u ys h1 h2 x) kp fun r hr hv => by
    have := row_type (h B' e' k' n' u ys h1 h2 x) O hr hv
    rcases he with rfl | rfl
    · exact h1 this
    · exact h2 this

/-- A tick in its box: of a plan and a state that can be read below w0; what it has collected is its own. -/
def Tk (w0 W : World) (g : Nat) (d : PlanD) (s : StD) (l : List RecD) : Prop :=
  Below w0.heap.size w0 W ∧ ∃ pv sv v, IsPlan w0 w0.heap.size pv d ∧ IsSt w0 w0.heap.size sv s ∧ (∃ pc sc : Array Value, pv = .agg pc ∧ sv = .agg sc ∧ BoxTk W w0.heap.size g (pc.toList ++ (sc.toList ++ [.int .i64 (s.ck + 1), v]))) ∧ OR W w0.heap.size v l
theorem Tk.step {w0 W W' : World} {g : Nat} {d : PlanD} {s : StD} {l : List RecD} (h : Tk w0 W g d s l) (hb : Below W.heap.size W W') : Tk w0 W' g d s l := by
  obtain ⟨K, pv, sv, v, hp, hs, ⟨pc, sc, ep, es, X⟩, O⟩ := h
  exact ⟨K.trans (hb.mono K.size), pv, sv, v, hp, hs, ⟨pc, sc, ep, es, X.go hb⟩, O.below hb⟩
/-- What a method that collects answers. -/
def TkP (w0 W : World) (g : Nat) (d : PlanD) (s : StD) (l : List RecD) (e : Ending) (w' : World) : Prop := e = .returned (.tuple #[]) ∧ Tk w0 w' g d s l ∧ KRow W w'

set_option maxRecDepth 100000 in
set_option maxHeartbeats 8000000 in
theorem collect_any (w0 W : World) (g : Nat) (d : PlanD) (s : StD) (l : List RecD) (k a b : Int) (h : Tk w0 W g d s l) (hl : l.length ≤ 100) :
    Calls Tryz.prog 75 #[.pointer (some ⟨g, 0, none⟩), .agg #[.int .i64 k, .int .i64 a, .int .i64 b]] W (TkP w0 W g d s (l ++ [⟨k, a, b⟩])) := by
  obtain ⟨K, pv, sv, v, hp, hs, ⟨pc, sc, ep, es, X⟩, O⟩ := h
  have HP := Lib.hid hp
  have HS := Lib.hid hs
  obtain ⟨⟨P0, P1, P2, P3, k0, k1, k2, k3, rfl, s0, s1, s2, s3⟩, b0, b1, b2, b3⟩ := hp
  obtain ⟨⟨A0, A1, A2, A3, c0, c1, c2, c3, rfl, t0, t1, t2, t3⟩, f0, f1, f2, f3⟩ := hs
  injection ep with ep
  injection es with es
  subst ep es
  clear s0 s1 s2 s3 t0 t1 t2 t3 b0 b1 b2 b3 f0 f1 f2 f3
  obtain ⟨A, c, rfl, -, -⟩ := O.slv
  obtain ⟨i0, hi, hz0, hz1, hz2⟩ := info_parts info_rec
  replace X : BoxTk W w0.heap.size g (tkC P0 P1 P2 P3 d.n0 k0 d.n1 k1 d.n2 k2 d.n3 k3 d.l d.p d.t A0 A1 A2 A3 s.pods.length c0 s.mnts.length c1 s.devs.length c2 s.lks.length c3 s.ph s.co s.ck s.bo s.ba s.lb s.gd s.pr (s.ck + 1) (.slice A l.length c)).toList := X
  have hb := (Below.refl W.heap.size W).alloc (Nat.le_refl _) (.cells #[.int .i64 k, .int .i64 a, .int .i64 b] 93)
  have KR := (KRow.refl W).step hb
  have H3 := cell_new W #[.int .i64 k, .int .i64 a, .int .i64 b] 93
  replace X := X.go hb
  replace O := O.below hb
  replace K := K.trans (hb.mono K.size)
  clear hb
  go_enter Tryz.func75, Tryz.ntmps75
  go_upto_region 1 with fail
  generalize W.alloc (.cells #[.int .i64 k, .int .i64 a, .int .i64 b] 93) = w1 at X O K KR H3 ⊢
  generalize W.heap.size = R3 at H3 ⊢
  refine wp_region_noPanic ?_
  refine wp_region_held_drew (S := fun _ => True) (by kernel_rfl) trivial (fun _ => ?_)
  have hb : Below w1.heap.size w1 w1.drew := (Below.refl _ _).drew
  replace X := X.go hb
  replace O := O.below hb
  replace K := K.trans (hb.mono K.size)
  replace KR := KR.step hb
  replace H3 : ∀ o, w1.drew.cell? ⟨R3, o, none⟩ = (#[.int .i64 k, .int .i64 a, .int .i64 b] : Array Value)[o]? := H3
  clear hb
  generalize w1.drew = v0 at X O K KR H3 ⊢
  refine wpAnyH_take (i := 0) (v := ?_) rfl (by kernel_rfl) (by kernel_rfl) (by kernel_rfl) (fun _ _ _ h => h) (Or.inl ⟨by rfl, ?_⟩) trivial ?_
  rotate_left 1
  · intro w hSw
    clear hSw
    go_simp
    try with_reducible rfl
  change wpAnyH _ _ _ _ _ _ _ (Act.put _ (some 4) _) _
  dsimp only [Act.put]
  refine wpAnyH_take (i := 1) (v := ?_) rfl (by kernel_rfl) (by kernel_rfl) (by kernel_rfl) (fun _ _ _ h => h) (Or.inl ⟨by rfl, ?_⟩) trivial ?_
  rotate_left 1
  · intro w hSw
    clear hSw
    go_simp
    try with_reducible rfl
  change wpAnyH _ _ _ _ _ _ _ (Act.put _ (some 5) _) _
  dsimp only [Act.put]
  refine wpAnyH_take (i := 2) (v := ?_) rfl (by kernel_rfl) (by kernel_rfl) (by kernel_rfl) (fun _ _ _ h => h) (Or.inl ⟨by rfl, ?_⟩) trivial ?_
  rotate_left 1
  · intro w hSw
    clear hSw
    go_simp
    try with_reducible rfl
  change wpAnyH _ _ _ _ _ _ _ (Act.put _ (some 6) _) _
  dsimp only [Act.put]
  refine wpAnyH_take (i := 3) (v := ?_) rfl (by kernel_rfl) (by kernel_rfl) (by kernel_rfl) (fun _ _ _ h => h) (Or.inl ⟨by rfl, ?_⟩) trivial ?_
  rotate_left 1
  · intro w hSw
    clear hSw
    go_simp
    try with_reducible rfl
  change wpAnyH _ _ _ _ _ _ _ (Act.put _ (some 7) _) _
  dsimp only [Act.put]
  refine wpAnyH_ready (rs := [4, 5]) (by kernel_rfl) (by simp) ?_
  refine AllReadyH.cons rfl (fun K' hK => ?_) ?_
  · skip
    have hC := X.C
    go_simp
    clear hC
    refine hK.out _ _ trivial (fun _ => ?_)
    clear hK K'
    try (change wpAnyH _ _ _ _ _ _ _ (Act.put _ (some 8) _) _; dsimp only [Act.put])
    refine wpAnyH_ready (rs := [5]) (by kernel_rfl) (by simp) ?_
    refine AllReadyH.cons rfl (fun K' hK => ?_) AllReadyH.nil
    go_simp
    refine hK.out _ _ trivial (fun _ => ?_)
    clear hK K'
    try (change wpAnyH _ _ _ _ _ _ _ (Act.put _ (some 9) _) _; dsimp only [Act.put])
    refine wpAnyH_ready (rs := [6]) (by kernel_rfl) (by simp) ?_
    refine AllReadyH.cons rfl (fun K' hK => ?_) AllReadyH.nil
    go_simp
    have HN := heap_alloc_new v0 (.cells #[.int .i64 k, .int .i64 a, .int .i64 b] 93)
    have hb := (Below.refl v0.heap.size v0).alloc (Nat.le_refl _) (.cells #[.int .i64 k, .int .i64 a, .int .i64 b] 93)
    replace X := X.go hb
    replace O := O.below hb
    replace K := K.trans (hb.mono K.size)
    replace KR := KR.step hb
    clear hb H3
    obtain ⟨v1, hwv⟩ : ∃ W, v0.alloc (.cells #[.int .i64 k, .int .i64 a, .int .i64 b] 93) = W := ⟨_, rfl⟩
    rw [hwv] at HN X O K KR ⊢
    clear hwv
    obtain ⟨R8, hR8⟩ : ∃ R, v0.heap.size = R := ⟨_, rfl⟩
    rw [hR8] at HN ⊢
    clear hR8
    refine hK.out _ _ trivial (fun _ => ?_)
    clear hK K'
    try (change wpAnyH _ _ _ _ _ _ _ (Act.put _ (some 10) _) _; dsimp only [Act.put])
    refine wpAnyH_ready (rs := [7]) (by kernel_rfl) (by simp) ?_
    refine AllReadyH.cons rfl (fun K' hK => ?_) AllReadyH.nil
    refine step_append_lies _ rfl (.tmp 8) (.tmp 10) 37 rfl w0.heap.size 93 i0 (.agg #[.int .i64 0, .int .i64 0, .int .i64 0]) 3 24 Tryz.underlying37 hi hz0 hz1 hz2 rfl (by decide) (.slice A l.length c) l.length (recVs l) rfl O ⟨R8, 0, none⟩ 1 1 [.int .i64 k, .int .i64 a, .int .i64 b] rfl rfl (World.news_of_block HN) (by simp [Value.oneCell']) (by decide) (by unfold maxLen; omega) (by omega) K.size _ rfl ?_
    rintro g2 cap v2 hown hgrow - -
    have kp : Keeps (fun b => (Value.slice A l.length c).ownBlock = some b) v1 v2 := ⟨hgrow.os, hgrow.tape, hgrow.output, hgrow.size, fun b hb hn => hgrow.block b hb fun e => hn e.symm⟩
    replace K := K.trans ((Below.refl _ _).grown hgrow K.size fun r hr => (O.lt hr).1)
    replace X : BoxTk _ _ _ _ := ownsRow_keeps X kp fun r hr e => absurd (row_type X O hr e) (by decide)
    replace KR := KR.row O (.inr rfl) kp
    have O2 : OR v2 w0.heap.size (.slice (some ⟨g2, 0, none⟩) (l.length + 1) cap) (l ++ [⟨k, a, b⟩]) := by
      unfold OR
      rw [List.length_append, recVs_append]
      exact hown
    clear O HN hgrow kp hown
    refine hK.out _ _ trivial (fun _ => ?_)
    clear hK K'
    try (change wpAnyH _ _ _ _ _ _ _ (Act.put _ (some 11) _) _; dsimp only [Act.put])
    refine wpAnyH_take (i := 8) (v := ?_) rfl (by kernel_rfl) (by kernel_rfl) (by kernel_rfl) (fun _ _ _ h => h) (Or.inl ⟨by rfl, ?_⟩) trivial ?_
    rotate_left 1
    · intro w hSw
      clear hSw
      go_simp
      try with_reducible rfl
    change wpAnyH _ _ _ _ _ _ _ (Act.put _ (some 12) _) _
    dsimp only [Act.put]
    refine wpAnyH_take (i := 9) (v := ?_) rfl (by kernel_rfl) (by kernel_rfl) (by kernel_rfl) (fun _ _ _ h => h) (Or.inl ⟨by rfl, ?_⟩) trivial ?_
    rotate_left 1
    · intro w hSw
      clear hSw
      go_simp
      try with_reducible rfl
    change wpAnyH _ _ _ _ _ _ _ (Act.put _ (some 13) _) _
    dsimp only [Act.put]
    refine wpAnyH_ready (rs := [10]) (by kernel_rfl) (by simp) ?_
    refine AllReadyH.cons rfl (fun K' hK => ?_) AllReadyH.nil
    have hC := X.C
    have hF := X.frozen
    go_simp
    clear hC hF
    have kp : Keeps (fun b => (Value.slice (some ⟨g, 0, none⟩) 1 1).ownBlock = some b) v2 (v2.setCell ⟨g, 20, none⟩ (.slice (some ⟨g2, 0, none⟩) (l.length + 1) cap)) := (keeps_setT v2 g 20 _).mono fun b e => by rw [e]; rfl
    replace K := K.setCell (p := ⟨g, 20, none⟩) X.lt.1 (.slice (some ⟨g2, 0, none⟩) (l.length + 1) cap)
    replace KR := KR.row X (.inl rfl) kp
    replace O2 : OR _ _ _ _ := ownsRow_keeps O2 kp fun r hr e => absurd (row_type O2 X hr e) (by decide)
    replace X := (World.ownsRow.stored X 20 (.slice (some ⟨g2, 0, none⟩) (l.length + 1) cap)).1
    clear kp
    generalize v2.setCell ⟨g, 20, none⟩ (.slice (some ⟨g2, 0, none⟩) (l.length + 1) cap) = v3 at X O2 K KR ⊢
    refine hK.out _ _ trivial (fun _ => ?_)
    clear hK K'
    try (change wpAnyH _ _ _ _ _ _ _ (Act.put _ none _) _; dsimp only [Act.put])
    refine wpAnyH_done (by kernel_rfl) ?_ _
    refine NoPanic.normal ?_
    go_wp2_with fail
    refine bodyPost_ret (v := .tuple #[]) (by simp [results, Tryz.results75, go_sem]) rfl ?_
    exact ⟨rfl, ⟨K, _, _, _, HP.out, HS.out, ⟨_, _, rfl, rfl, X⟩, O2⟩, KR⟩
  refine AllReadyH.cons rfl (fun K' hK => ?_) AllReadyH.nil
  go_simp
  refine hK.out _ _ trivial (fun _ => ?_)
  clear hK K'
  try (change wpAnyH _ _ _ _ _ _ _ (Act.put _ (some 9) _) _; dsimp only [Act.put])
  refine wpAnyH_ready (rs := [4, 6]) (by kernel_rfl) (by simp) ?_
  refine AllReadyH.cons rfl (fun K' hK => ?_) ?_
  · skip
    have hC := X.C
    go_simp
    clear hC
    refine hK.out _ _ trivial (fun _ => ?_)
    clear hK K'
    try (change wpAnyH _ _ _ _ _ _ _ (Act.put _ (some 8) _) _; dsimp only [Act.put])
    refine wpAnyH_ready (rs := [6]) (by kernel_rfl) (by simp) ?_
    refine AllReadyH.cons rfl (fun K' hK => ?_) AllReadyH.nil
    go_simp
    have HN := heap_alloc_new v0 (.cells #[.int .i64 k, .int .i64 a, .int .i64 b] 93)
    have hb := (Below.refl v0.heap.size v0).alloc (Nat.le_refl _) (.cells #[.int .i64 k, .int .i64 a, .int .i64 b] 93)
    replace X := X.go hb
    replace O := O.below hb
    replace K := K.trans (hb.mono K.size)
    replace KR := KR.step hb
    clear hb H3
    obtain ⟨v1, hwv⟩ : ∃ W, v0.alloc (.cells #[.int .i64 k, .int .i64 a, .int .i64 b] 93) = W := ⟨_, rfl⟩
    rw [hwv] at HN X O K KR ⊢
    clear hwv
    obtain ⟨R8, hR8⟩ : ∃ R, v0.heap.size = R := ⟨_, rfl⟩
    rw [hR8] at HN ⊢
    clear hR8
    refine hK.out _ _ trivial (fun _ => ?_)
    clear hK K'
    try (change wpAnyH _ _ _ _ _ _ _ (Act.put _ (some 10) _) _; dsimp only [Act.put])
    refine wpAnyH_ready (rs := [7]) (by kernel_rfl) (by simp) ?_
    refine AllReadyH.cons rfl (fun K' hK => ?_) AllReadyH.nil
    refine step_append_lies _ rfl (.tmp 8) (.tmp 10) 37 rfl w0.heap.size 93 i0 (.agg #[.int .i64 0, .int .i64 0, .int .i64 0]) 3 24 Tryz.underlying37 hi hz0 hz1 hz2 rfl (by decide) (.slice A l.length c) l.length (recVs l) rfl O ⟨R8, 0, none⟩ 1 1 [.int .i64 k, .int .i64 a, .int .i64 b] rfl rfl (World.news_of_block HN) (by simp [Value.oneCell']) (by decide) (by unfold maxLen; omega) (by omega) K.size _ rfl ?_
    rintro g2 cap v2 hown hgrow - -
    have kp : Keeps (fun b => (Value.slice A l.length c).ownBlock = some b) v1 v2 := ⟨hgrow.os, hgrow.tape, hgrow.output, hgrow.size, fun b hb hn => hgrow.block b hb fun e => hn e.symm⟩
    replace K := K.trans ((Below.refl _ _).grown hgrow K.size fun r hr => (O.lt hr).1)
    replace X : BoxTk _ _ _ _ := ownsRow_keeps X kp fun r hr e => absurd (row_type X O hr e) (by decide)
    replace KR := KR.row O (.inr rfl) kp
    have O2 : OR v2 w0.heap.size (.slice (some ⟨g2, 0, none⟩) (l.length + 1) cap) (l ++ [⟨k, a, b⟩]) := by
      unfold OR
      rw [List.length_append, recVs_append]
      exact hown
    clear O HN hgrow kp hown
    refine hK.out _ _ trivial (fun _ => ?_)
    clear hK K'
    try (change wpAnyH _ _ _ _ _ _ _ (Act.put _ (some 11) _) _; dsimp only [Act.put])
    refine wpAnyH_take (i := 8) (v := ?_) rfl (by kernel_rfl) (by kernel_rfl) (by kernel_rfl) (fun _ _ _ h => h) (Or.inl ⟨by rfl, ?_⟩) trivial ?_
    rotate_left 1
    · intro w hSw
      clear hSw
      go_simp
      try with_reducible rfl
    change wpAnyH _ _ _ _ _ _ _ (Act.put _ (some 12) _) _
    dsimp only [Act.put]
    refine wpAnyH_take (i := 9) (v := ?_) rfl (by kernel_rfl) (by kernel_rfl) (by kernel_rfl) (fun _ _ _ h => h) (Or.inl ⟨by rfl, ?_⟩) trivial ?_
    rotate_left 1
    · intro w hSw
      clear hSw
      go_simp
      try with_reducible rfl
    change wpAnyH _ _ _ _ _ _ _ (Act.put _ (some 13) _) _
    dsimp only [Act.put]
    refine wpAnyH_ready (rs := [10]) (by kernel_rfl) (by simp) ?_
    refine AllReadyH.cons rfl (fun K' hK => ?_) AllReadyH.nil
    have hC := X.C
    have hF := X.frozen
    go_simp
    clear hC hF
    have kp : Keeps (fun b => (Value.slice (some ⟨g, 0, none⟩) 1 1).ownBlock = some b) v2 (v2.setCell ⟨g, 20, none⟩ (.slice (some ⟨g2, 0, none⟩) (l.length + 1) cap)) := (keeps_setT v2 g 20 _).mono fun b e => by rw [e]; rfl
    replace K := K.setCell (p := ⟨g, 20, none⟩) X.lt.1 (.slice (some ⟨g2, 0, none⟩) (l.length + 1) cap)
    replace KR := KR.row X (.inl rfl) kp
    replace O2 : OR _ _ _ _ := ownsRow_keeps O2 kp fun r hr e => absurd (row_type O2 X hr e) (by decide)
    replace X := (World.ownsRow.stored X 20 (.slice (some ⟨g2, 0, none⟩) (l.length + 1) cap)).1
    clear kp
    generalize v2.setCell ⟨g, 20, none⟩ (.slice (some ⟨g2, 0, none⟩) (l.length + 1) cap) = v3 at X O2 K KR ⊢
    refine hK.out _ _ trivial (fun _ => ?_)
    clear hK K'
    try (change wpAnyH _ _ _ _ _ _ _ (Act.put _ none _) _; dsimp only [Act.put])
    refine wpAnyH_done (by kernel_rfl) ?_ _
    refine NoPanic.normal ?_
    go_wp2_with fail
    refine bodyPost_ret (v := .tuple #[]) (by simp [results, Tryz.results75, go_sem]) rfl ?_
    exact ⟨rfl, ⟨K, _, _, _, HP.out, HS.out, ⟨_, _, rfl, rfl, X⟩, O2⟩, KR⟩
  refine AllReadyH.cons rfl (fun K' hK => ?_) AllReadyH.nil
  go_simp
  have HN := heap_alloc_new v0 (.cells #[.int .i64 k, .int .i64 a, .int .i64 b] 93)
  have hb := (Below.refl v0.heap.size v0).alloc (Nat.le_refl _) (.cells #[.int .i64 k, .int .i64 a, .int .i64 b] 93)
  replace X := X.go hb
  replace O := O.below hb
  replace K := K.trans (hb.mono K.size)
  replace KR := KR.step hb
  clear hb H3
  obtain ⟨v1, hwv⟩ : ∃ W, v0.alloc (.cells #[.int .i64 k, .int .i64 a, .int .i64 b] 93) = W := ⟨_, rfl⟩
  rw [hwv] at HN X O K KR ⊢
  clear hwv
  obtain ⟨R8, hR8⟩ : ∃ R, v0.heap.size = R := ⟨_, rfl⟩
  rw [hR8] at HN ⊢
  clear hR8
  refine hK.out _ _ trivial (fun _ => ?_)
  clear hK K'
  try (change wpAnyH _ _ _ _ _ _ _ (Act.put _ (some 10) _) _; dsimp only [Act.put])
  refine wpAnyH_ready (rs := [4]) (by kernel_rfl) (by simp) ?_
  refine AllReadyH.cons rfl (fun K' hK => ?_) AllReadyH.nil
  have hC := X.C
  go_simp
  clear hC
  refine hK.out _ _ trivial (fun _ => ?_)
  clear hK K'
  try (change wpAnyH _ _ _ _ _ _ _ (Act.put _ (some 8) _) _; dsimp only [Act.put])
  refine wpAnyH_ready (rs := [7]) (by kernel_rfl) (by simp) ?_
  refine AllReadyH.cons rfl (fun K' hK => ?_) AllReadyH.nil
  refine step_append_lies _ rfl (.tmp 8) (.tmp 10) 37 rfl w0.heap.size 93 i0 (.agg #[.int .i64 0, .int .i64 0, .int .i64 0]) 3 24 Tryz.underlying37 hi hz0 hz1 hz2 rfl (by decide) (.slice A l.length c) l.length (recVs l) rfl O ⟨R8, 0, none⟩ 1 1 [.int .i64 k, .int .i64 a, .int .i64 b] rfl rfl (World.news_of_block HN) (by simp [Value.oneCell']) (by decide) (by unfold maxLen; omega) (by omega) K.size _ rfl ?_
  rintro g2 cap v2 hown hgrow - -
  have kp : Keeps (fun b => (Value.slice A l.length c).ownBlock = some b) v1 v2 := ⟨hgrow.os, hgrow.tape, hgrow.output, hgrow.size, fun b hb hn => hgrow.block b hb fun e => hn e.symm⟩
  replace K := K.trans ((Below.refl _ _).grown hgrow K.size fun r hr => (O.lt hr).1)
  replace X : BoxTk _ _ _ _ := ownsRow_keeps X kp fun r hr e => absurd (row_type X O hr e) (by decide)
  replace KR := KR.row O (.inr rfl) kp
  have O2 : OR v2 w0.heap.size (.slice (some ⟨g2, 0, none⟩) (l.length + 1) cap) (l ++ [⟨k, a, b⟩]) := by
    unfold OR
    rw [List.length_append, recVs_append]
    exact hown
  clear O HN hgrow kp hown
  refine hK.out _ _ trivial (fun _ => ?_)
  clear hK K'
  try (change wpAnyH _ _ _ _ _ _ _ (Act.put _ (some 11) _) _; dsimp only [Act.put])
  refine wpAnyH_take (i := 8) (v := ?_) rfl (by kernel_rfl) (by kernel_rfl) (by kernel_rfl) (fun _ _ _ h => h) (Or.inl ⟨by rfl, ?_⟩) trivial ?_
  rotate_left 1
  · intro w hSw
    clear hSw
    go_simp
    try with_reducible rfl
  change wpAnyH _ _ _ _ _ _ _ (Act.put _ (some 12) _) _
  dsimp only [Act.put]
  refine wpAnyH_take (i := 9) (v := ?_) rfl (by kernel_rfl) (by kernel_rfl) (by kernel_rfl) (fun _ _ _ h => h) (Or.inl ⟨by rfl, ?_⟩) trivial ?_
  rotate_left 1
  · intro w hSw
    clear hSw
    go_simp
    try with_reducible rfl
  change wpAnyH _ _ _ _ _ _ _ (Act.put _ (some 13) _) _
  dsimp only [Act.put]
  refine wpAnyH_ready (rs := [10]) (by kernel_rfl) (by simp) ?_
  refine AllReadyH.cons rfl (fun K' hK => ?_) AllReadyH.nil
  have hC := X.C
  have hF := X.frozen
  go_simp
  clear hC hF
  have kp : Keeps (fun b => (Value.slice (some ⟨g, 0, none⟩) 1 1).ownBlock = some b) v2 (v2.setCell ⟨g, 20, none⟩ (.slice (some ⟨g2, 0, none⟩) (l.length + 1) cap)) := (keeps_setT v2 g 20 _).mono fun b e => by rw [e]; rfl
  replace K := K.setCell (p := ⟨g, 20, none⟩) X.lt.1 (.slice (some ⟨g2, 0, none⟩) (l.length + 1) cap)
  replace KR := KR.row X (.inl rfl) kp
  replace O2 : OR _ _ _ _ := ownsRow_keeps O2 kp fun r hr e => absurd (row_type O2 X hr e) (by decide)
  replace X := (World.ownsRow.stored X 20 (.slice (some ⟨g2, 0, none⟩) (l.length + 1) cap)).1
  clear kp
  generalize v2.setCell ⟨g, 20, none⟩ (.slice (some ⟨g2, 0, none⟩) (l.length + 1) cap) = v3 at X O2 K KR ⊢
  refine hK.out _ _ trivial (fun _ => ?_)
  clear hK K'
  try (change wpAnyH _ _ _ _ _ _ _ (Act.put _ none _) _; dsimp only [Act.put])
  refine wpAnyH_done (by kernel_rfl) ?_ _
  refine NoPanic.normal ?_
  go_wp2_with fail
  refine bodyPost_ret (v := .tuple #[]) (by simp [results, Tryz.results75, go_sem]) rfl ?_
  exact ⟨rfl, ⟨K, _, _, _, HP.out, HS.out, ⟨_, _, rfl, rfl, X⟩, O2⟩, KR⟩
end Go.Proofs.YtfilbodigooenaaGreatDoor
