/-
  Chapter 11 of the program: a tick in its box; collect: one record more.
-/
import Derived.Test.YtdphpjnecjofeaaGreatDoorMZ0
import Derived.Test.YtdphpjnecjofeaaGreatDoorMZ19
import Derived.Test.YtdphpjnecjofeaaGreatDoorMZxYc
import Derived.Test.YtdphpjnecjofeaaGreatDoorMZ4
import Derived.Deep.RegionHeld3
import Derived.Test.YtdphpjnecjofeaaGreatDoorMZ6
import Derived.Deep.AppendLies
/- Lo -/
set_option linter.unusedVariables false
namespace Go.Proofs.YtdphpjnecjofeaaGreatDoor
open Go.ChangeShapes Go.WideShapes Go.ChangeAt Go.RowKit Go.Deep

theorem fields_ord : ∃ fs, Tryz.prog.underlying 68 = some (.struct fs) ∧ oneCellFields Tryz.prog fs = true ∧ Tryz.prog.cellsOf 68 = fs.size ∧ fs.size = 3 ∧
    fs.map (·.type) = #[2, 2, 2] :=
  ⟨_, Tryz.underlying68, by kernel_rfl, by kernel_rfl, by kernel_rfl, by kernel_rfl⟩
set_option maxRecDepth 100000 in
theorem open_ord {H : Type} {enc : TypeId × Value → H} {W : World} {spare : Nat → Bool} {held : Bool} {r : Reach} {b0 : Nat} {v : Value} {d : DataW H} {p : List MemPlace}
    (hv : Value.okWide Tryz.prog W r b0 68 v) (h : DataW.Trod enc Tryz.prog W 0 spare held 68 v d p) : ∃ a b c : Int, v = .agg #[.int .i64 a, .int .i64 b, .int .i64 c] := by
  obtain ⟨fs, hu, hone, hC, h7, hts⟩ := fields_ord
  obtain ⟨cs, rfl, hsz, n, hf⟩ := agg_of_trod hu hone hC hv h
  rw [h7] at hsz
  obtain ⟨f0, j0, t0⟩ := at_of_map hts (j := 0) rfl
  obtain ⟨f1, j1, t1⟩ := at_of_map hts (j := 1) rfl
  obtain ⟨f2, j2, t2⟩ := at_of_map hts (j := 2) rfl
  obtain ⟨y0, h0⟩ := hf 0 f0 j0
  obtain ⟨y1, h1⟩ := hf 1 f1 j1
  obtain ⟨y2, h2⟩ := hf 2 f2 j2
  rw [t0] at h0
  rw [t1] at h1
  rw [t2] at h2
  obtain ⟨a, e0, _, _⟩ := DataW.trod_int Tryz.underlying2 h0
  obtain ⟨b, e1, _, _⟩ := DataW.trod_int Tryz.underlying2 h1
  obtain ⟨c, e2, _, _⟩ := DataW.trod_int Tryz.underlying2 h2
  injection e0 with e0 _
  injection e1 with e1 _
  injection e2 with e2 _
  refine ⟨a, b, c, ?_⟩
  congr 1
  apply Array.ext (by simp [hsz])
  intro i hi _
  match i, hi with
  | 0, _ => exact e0
  | 1, _ => exact e1
  | 2, _ => exact e2
  | k + 3, hi => omega

set_option maxHeartbeats 400000 in
theorem toOrder_any (a b c : Int) (w : World) :
    Calls Tryz.prog 29 #[.agg (ordC a b c)] w fun e w' => e = .returned (.agg (ordC a b c)) ∧ Below w.heap.size w w' := by
  go_enter Tryz.func29, Tryz.ntmps29
  go_wp2
  exact bodyPost_ret (v := .agg (ordC a b c)) (by simp [results, Tryz.results29, go_sem]) rfl ⟨rfl, (((Below.refl _ _).alloc (Nat.le_refl _) _).alloc (by simp) _).alloc (by simp; omega) _⟩
end Go.Proofs.YtdphpjnecjofeaaGreatDoor
/- Wn -/
set_option linter.unusedVariables false
namespace Go.Proofs.YtdphpjnecjofeaaGreatDoor
open Go.RowKit

def planD (d : PlanD) (s : StD) (k a b : Int) : List RecD × Int := if k = 11 then tickD d s else if k = 12 then bootD d s a else if k = 13 then probeD d s (a == 1) else commandD d s k a b
def plannedD (d : PlanD) (s : StD) (k a b : Int) : List RecD × Int := if stOkB d s && orderOkB k a b then planD d s k a b else noR 1

set_option maxRecDepth 4000 in
set_option maxHeartbeats 8000000 in
theorem l13Plan_any (pv sv : Value) (d : PlanD) (s : StD) (k a b : Int) (w : World) (hp : IsPlan w w.heap.size pv d) (hs : IsSt w w.heap.size sv s) (hok : StOk d s) :
    Calls Tryz.prog 86 #[pv, sv, .agg (ordC k a b)] w (RecsA w (planD d s k a b)) := by
  have HP := Lib.hid hp
  have HS := Lib.hid hs
  obtain ⟨⟨P0, P1, P2, P3, k0, k1, k2, k3, rfl, s0, s1, s2, s3⟩, b0, b1, b2, b3⟩ := hp
  obtain ⟨⟨A0, A1, A2, A3, c0, c1, c2, c3, rfl, t0, t1, t2, t3⟩, f0, f1, f2, f3⟩ := hs
  have S0 := Lib.hid s0
  have S1 := Lib.hid s1
  have S2 := Lib.hid s2
  have S3 := Lib.hid s3
  have R0 := Lib.hid t0
  have R1 := Lib.hid t1
  have R2 := Lib.hid t2
  have R3 := Lib.hid t3
  unfold maxLen at b0 b1 b2 b3 f0 f1 f2 f3
  clear s0 s1 s2 s3 t0 t1 t2 t3
  have T0 := TP.start w (planC P0 P1 P2 P3 d.n0 k0 d.n1 k1 d.n2 k2 d.n3 k3 d.l d.p d.t) (stC A0 A1 A2 A3 s.pods.length c0 s.mnts.length c1 s.devs.length c2 s.lks.length c3 s.ph s.co s.ck s.bo s.ba s.lb s.gd s.pr) (ordC k a b) 47 40 70
  have OKB := Lib.hid (stOkB_iff.2 hok)
  clear hok
  obtain ⟨ans, hans⟩ : ∃ ans, planD d s k a b = ans := ⟨_, rfl⟩
  rw [hans]
  have HANS := Lib.hid hans
  clear hans
  by_cases e11 : k = 11
  · subst e11
    go_enter Tryz.func86, Tryz.ntmps86
    go_wp2_with fail
    refine (tickRecs_any _ _ d s _ ((HP.out.below T0.A.K (Nat.le_refl _)).more T0.A.K.size) ((HS.out.below T0.A.K (Nat.le_refl _)).more T0.A.K.size)).mono ?_
    rw [if_pos OKB.out]
    rintro e w9 hR
    obtain ⟨v9, rfl, O9, K9⟩ := hR.back T0.A.K
    go_wp2
    all_goals (go_ret2; rw [← HANS.out, planD, if_pos rfl]; exact ⟨v9, rfl, O9, K9⟩)
  · have E11 := Lib.hid e11
    by_cases e12 : k = 12
    · subst e12
      go_enter Tryz.func86, Tryz.ntmps86
      go_wp2_with fail
      refine (bootRecs_any _ _ d s a _ ((HP.out.below T0.A.K (Nat.le_refl _)).more T0.A.K.size) ((HS.out.below T0.A.K (Nat.le_refl _)).more T0.A.K.size)).mono ?_
      rw [if_pos OKB.out]
      rintro e w9 hR
      obtain ⟨v9, rfl, O9, K9⟩ := hR.back T0.A.K
      go_wp2
      all_goals (go_ret2; rw [← HANS.out, planD, if_neg E11.out, if_pos rfl]; exact ⟨v9, rfl, O9, K9⟩)
    · have E12 := Lib.hid e12
      by_cases e13 : k = 13
      · subst e13
        go_enter Tryz.func86, Tryz.ntmps86
        go_wp2_with fail
        refine (probeRecs_any _ _ d s (a == 1) _ ((HP.out.below T0.A.K (Nat.le_refl _)).more T0.A.K.size) ((HS.out.below T0.A.K (Nat.le_refl _)).more T0.A.K.size)).mono ?_
        rw [if_pos OKB.out]
        rintro e w9 hR
        obtain ⟨v9, rfl, O9, K9⟩ := hR.back T0.A.K
        go_wp2
        all_goals (go_ret2; rw [← HANS.out, planD, if_neg E11.out, if_neg E12.out, if_pos rfl]; exact ⟨v9, rfl, O9, K9⟩)
      · have E13 := Lib.hid e13
        go_enter Tryz.func86, Tryz.ntmps86
        go_wp2_with fail
        refine (commanded_any _ _ d s k a b _ ((HP.out.below T0.A.K (Nat.le_refl _)).more T0.A.K.size) ((HS.out.below T0.A.K (Nat.le_refl _)).more T0.A.K.size)).mono ?_
        rw [if_pos OKB.out]
        rintro e w9 hR
        obtain ⟨v9, rfl, O9, K9⟩ := hR.back T0.A.K
        go_wp2
        all_goals (go_ret2; rw [← HANS.out, planD, if_neg E11.out, if_neg E12.out, if_neg E13.out]; exact ⟨v9, rfl, O9, K9⟩)

set_option maxRecDepth 4000 in
set_option maxHeartbeats 8000000 in
theorem planned_any (pv sv : Value) (d : PlanD) (s : StD) (k a b : Int) (w : World) (hp : IsPlan w w.heap.size pv d) (hs : IsSt w w.heap.size sv s) :
    Calls Tryz.prog 28 #[pv, sv, .agg (ordC k a b)] w (RecsA w (plannedD d s k a b)) := by
  have HP := Lib.hid hp
  have HS := Lib.hid hs
  obtain ⟨⟨P0, P1, P2, P3, k0, k1, k2, k3, rfl, s0, s1, s2, s3⟩, b0, b1, b2, b3⟩ := hp
  obtain ⟨⟨A0, A1, A2, A3, c0, c1, c2, c3, rfl, t0, t1, t2, t3⟩, f0, f1, f2, f3⟩ := hs
  have S0 := Lib.hid s0
  have S1 := Lib.hid s1
  have S2 := Lib.hid s2
  have S3 := Lib.hid s3
  have R0 := Lib.hid t0
  have R1 := Lib.hid t1
  have R2 := Lib.hid t2
  have R3 := Lib.hid t3
  unfold maxLen at b0 b1 b2 b3 f0 f1 f2 f3
  clear s0 s1 s2 s3 t0 t1 t2 t3
  have T0 := TP.start w (planC P0 P1 P2 P3 d.n0 k0 d.n1 k1 d.n2 k2 d.n3 k3 d.l d.p d.t) (stC A0 A1 A2 A3 s.pods.length c0 s.mnts.length c1 s.devs.length c2 s.lks.length c3 s.ph s.co s.ck s.bo s.ba s.lb s.gd s.pr) (ordC k a b) 47 40 70
  obtain ⟨ans, hans⟩ : ∃ ans, plannedD d s k a b = ans := ⟨_, rfl⟩
  rw [hans]
  have HANS := Lib.hid hans
  clear hans
  go_enter Tryz.func28, Tryz.ntmps28
  go_wp2_with fail
  refine (specStateOk_any _ _ d s _ ((HP.out.below T0.A.K (Nat.le_refl _)).more T0.A.K.size) ((HS.out.below T0.A.K (Nat.le_refl _)).more T0.A.K.size)).mono ?_
  rintro e w1 ⟨rfl, hb⟩
  have T1 := T0.step hb
  have hC := T1.A.C
  have hD := T1.Z.C
  have hE := T1.O.C
  clear hb T0
  cases hok : stOkB d s
  · have H := Lib.hid hok
    clear hok
    go_wp2_with fail
    refine (l10No_any 1 _).mono ?_
    rintro e w9 hR
    obtain ⟨v9, rfl, O9, K9⟩ := hR.back T1.A.K
    go_wp2
    all_goals (go_ret2; rw [← HANS.out, plannedD, H.out, Bool.false_and, if_neg (by decide)]; exact ⟨v9, rfl, O9, K9⟩)
  · have OK := Lib.hid (stOkB_iff.1 hok)
    have H := Lib.hid hok
    clear hok
    go_wp2_with fail
    refine (orderOk_any k a b _).mono ?_
    rintro e w2 ⟨rfl, hb⟩
    have T2 := T1.step hb
    clear hb T1 hC hD hE
    have hC := T2.A.C
    have hD := T2.Z.C
    have hE := T2.O.C
    cases ho : orderOkB k a b
    · have HO := Lib.hid ho
      clear ho
      go_wp2_with fail
      refine (l10No_any 1 _).mono ?_
      rintro e w9 hR
      obtain ⟨v9, rfl, O9, K9⟩ := hR.back T2.A.K
      go_wp2
      all_goals (go_ret2; rw [← HANS.out, plannedD, HO.out, Bool.and_false, if_neg (by decide)]; exact ⟨v9, rfl, O9, K9⟩)
    · have HO := Lib.hid ho
      clear ho
      go_wp2_with fail
      refine (l13Plan_any _ _ d s k a b _ ((HP.out.below T2.A.K (Nat.le_refl _)).more T2.A.K.size) ((HS.out.below T2.A.K (Nat.le_refl _)).more T2.A.K.size) OK.out).mono ?_
      rintro e w9 hR
      obtain ⟨v9, rfl, O9, K9⟩ := hR.back T2.A.K
      go_wp2
      all_goals (go_ret2; rw [← HANS.out, plannedD, H.out, HO.out, Bool.true_and, if_pos rfl]; exact ⟨v9, rfl, O9, K9⟩)

end Go.Proofs.YtdphpjnecjofeaaGreatDoor
/- Lc -/
set_option linter.unusedVariables false
namespace Go.Proofs.YtdphpjnecjofeaaGreatDoor
open Go.RowKit

set_option maxRecDepth 100000 in
set_option maxHeartbeats 16000000 in
theorem lawPlanned (pv sv : Value) (d : PlanD) (s : StD) (xk : Int) (xa : Int) (xb : Int) (l : List RecD) (cd : Int) (w : World) (hp : IsPlan w w.heap.size pv d) (hs : IsSt w w.heap.size sv s) (hlen : l.length ≤ 1000)
    (HM : ∀ (pv sv : Value) (W : World), IsPlan W W.heap.size pv d → IsSt W W.heap.size sv s → Calls Tryz.prog 28 #[pv, sv, .agg (ordC xk xa xb)] W (RecsA W (l, cd)))
    (HI : ∀ (pv sv : Value) (W : World), Below w.heap.size w W → IsPlan W W.heap.size pv d → IsSt W W.heap.size sv s → Calls Tryz.prog 30 #[pv, sv, .agg (ordC xk xa xb)] W (RecsA W (l, cd))) :
    Calls Tryz.prog 6 #[pv, sv, .agg (ordC xk xa xb)] w fun e w' => e = .returned (.bool true) ∧ Below w.heap.size w w' := by
  have HI := Lib.hid HI
  have HM := Lib.hid HM
  have H := Lib.hid hp
  have HS := Lib.hid hs
  obtain ⟨⟨A0, A1, A2, A3, c0, c1, c2, c3, rfl, -, -, -, -⟩, b0, b1, b2, b3⟩ := hp
  obtain ⟨⟨E0, E1, E2, E3, k0, k1, k2, k3, rfl, -, -, -, -⟩, -, -, -, -⟩ := hs
  have B0 := Lib.hid b0
  have B1 := Lib.hid b1
  have B2 := Lib.hid b2
  have B3 := Lib.hid b3
  have hlm' : (l.length : Int) ≤ 1000 := by omega
  clear b0 b1 b2 b3
  go_enter Tryz.func6, Tryz.ntmps6
  go_wp2_with fail
  have T := TP.start w (planC A0 A1 A2 A3 d.n0 c0 d.n1 c1 d.n2 c2 d.n3 c3 d.l d.p d.t) (stC E0 E1 E2 E3 s.pods.length k0 s.mnts.length k1 s.devs.length k2 s.lks.length k3 s.ph s.co s.ck s.bo s.ba s.lb s.gd s.pr) (ordC xk xa xb) 27 32 68
  refine (szPlan_any _ d _ ((H.out.below T.A.K (Nat.le_refl _)).more T.A.K.size)).mono ?_
  rintro e w2 ⟨rfl, hb⟩
  replace T := T.step hb
  have hC := T.A.C
  have hD := T.Z.C
  clear hb
  by_cases hsz : d.n0 + d.n1 + d.n2 + d.n3 ≤ 1048576
  · have e0 : szP d = 1048576 - d.n0 - d.n1 - d.n2 - d.n3 := if_pos hsz
    have l0 : 0 ≤ szP d := by omega
    have l1 : szP d ≤ 1048576 := by omega
    clear e0
    generalize szP d = left at *
    go_wp2_with fail
    refine (szState_any _ s left _ ((HS.out.below T.A.K (Nat.le_refl _)).more T.A.K.size) l0 l1).mono ?_
    rintro e w3 ⟨rfl, hb⟩
    replace T := T.step hb
    clear hb hC hD
    by_cases hsz2 : (s.pods.length + s.mnts.length + s.devs.length + s.lks.length : Nat) ≤ left
    · have e0 : szS left s = left - (s.pods.length + s.mnts.length + s.devs.length + s.lks.length : Nat) := if_pos hsz2
      have l2 : 0 ≤ szS left s := by omega
      have hfit : StFits s 1048576 := ⟨by omega, by omega, by omega, by omega⟩
      have F := Lib.hid hfit
      have TS : Hid ((totS s : Int) ≤ 2097152) := Lib.hid (by have := tot_half hsz2; omega)
      clear e0 hsz2 hfit
      generalize szS left s = left2 at *
      have q0 : Hid (d.n0 ≤ 1048576) := Lib.hid (by omega)
      have q1 : Hid (d.n1 ≤ 1048576) := Lib.hid (by omega)
      have q2 : Hid (d.n2 ≤ 1048576) := Lib.hid (by omega)
      have q3 : Hid (d.n3 ≤ 1048576) := Lib.hid (by omega)
      have PS : Hid ((1 + 4 * d.n0 + d.n1 + 2 * d.n2 + d.n3 : Int) ≤ 4194305) := Lib.hid (by omega)
      clear hsz l0 l1
      have hC := T.A.C
      have hD := T.Z.C
      go_wp2_with fail
      clear hC hD
      have S3 : (∀ o, w3.cell? ⟨w.heap.size, o, none⟩ = (planC A0 A1 A2 A3 d.n0 c0 d.n1 c1 d.n2 c2 d.n3 c3 d.l d.p d.t)[o]?) ∧ (∀ o, w3.cell? ⟨w.heap.size + 1, o, none⟩ = (stC E0 E1 E2 E3 s.pods.length k0 s.mnts.length k1 s.devs.length k2 s.lks.length k3 s.ph s.co s.ck s.bo s.ba s.lb s.gd s.pr)[o]?) ∧ (∀ o, w3.cell? ⟨w.heap.size + 1 + 1, o, none⟩ = (ordC xk xa xb)[o]?) ∧ Below w3.heap.size w3 w3 := ⟨T.A.C, T.Z.C, T.O.C, Below.refl _ _⟩
      go_region_held3 (fun w' => (∀ o, w'.cell? ⟨w.heap.size, o, none⟩ = (planC A0 A1 A2 A3 d.n0 c0 d.n1 c1 d.n2 c2 d.n3 c3 d.l d.p d.t)[o]?) ∧ (∀ o, w'.cell? ⟨w.heap.size + 1, o, none⟩ = (stC E0 E1 E2 E3 s.pods.length k0 s.mnts.length k1 s.devs.length k2 s.lks.length k3 s.ph s.co s.ck s.bo s.ba s.lb s.gd s.pr)[o]?) ∧ (∀ o, w'.cell? ⟨w.heap.size + 1 + 1, o, none⟩ = (ordC xk xa xb)[o]?) ∧ Below w3.heap.size w3 w')
        (first | exact S3 | exact S4 | exact S5 | exact S6 | exact S7 | (exact ⟨S3.1, S3.2.1, S3.2.2.1, S3.2.2.2.drew⟩))
        (first
          | (go_at_call 28
             have hq := S6
             clear hq
             refine (HM.out _ _ _ ((P4.out.below (K4.trans (hb6.mono K4.size)) (Nat.le_refl _)).more (K4.trans (hb6.mono K4.size)).size) (Q5.out.go hb6)).mono ?_
             rintro e w6 ⟨v0, rfl, O0, hb7⟩
             dsimp only at O0 ⊢
             have K7 : Below w3.heap.size w3 w6 := K6.trans (hb7.mono K6.size)
             have S7 := And.intro (T.step K7).A.C (And.intro (T.step K7).Z.C (And.intro (T.step K7).O.C K7)))
          | (go_at_call 29
             have hq := S5
             clear hq
             refine (toOrder_any _ _ _ _).mono ?_
             rintro e w5b ⟨rfl, hb6⟩
             have K6 : Below w3.heap.size w3 w5b := K5.trans (hb6.mono K5.size)
             have S6 := And.intro (T.step K6).A.C (And.intro (T.step K6).Z.C (And.intro (T.step K6).O.C K6)))
          | (go_at_call 11
             have hq := S4
             clear hq
             refine (toState_any _ s _ ((HS.out.below (T.step K3).A.K (Nat.le_refl _)).more (T.step K3).A.K.size) F.out).mono ?_
             rintro e w5 ⟨q0_, q1_, q2_, q3_, rfl, N5, hb5⟩
             have Q5 := Lib.hid (N5.is F.out)
             have K4 := hb5
             have K5 : Below w3.heap.size w3 w5 := K3.trans (hb5.mono K3.size)
             have S5 := And.intro (T.step K5).A.C (And.intro (T.step K5).Z.C (And.intro (T.step K5).O.C K5)))
          | (go_at_call 10
             have Kd : Below w3.heap.size w3 w3.drew := (Below.refl _ _).drew
             refine (toPlan_any _ d _ ((H.out.below (T.step Kd).A.K (Nat.le_refl _)).more (T.step Kd).A.K.size) q0.out q1.out q2.out q3.out).mono ?_
             rintro e w4 ⟨g0_, g1_, g2_, g3_, rfl, N4, hb4⟩
             have P4 := Lib.hid (N4.is B0.out B1.out B2.out B3.out)
             have K3 : Below w3.heap.size w3 w4 := Kd.trans hb4
             have S4 := And.intro (T.step K3).A.C (And.intro (T.step K3).Z.C (And.intro (T.step K3).O.C K3))))
      have hb := K7
      clear S3 S4 S5 S6 S7 P4 Q5 K3 K4 K5 K6 K7 Kd N4 N5 hb4 hb5 hb6 hb7
      replace T := T.step hb
      clear hb
      have L0 : Hid (∀ r, v0.ownBlock = some r → r < w6.heap.size) := Lib.hid fun r hr => (O0.lt hr).2
      have hα : w.heap.size + 1 + 1 < w6.heap.size := T.O.z
      have hC := T.A.C
      have hD := T.Z.C
      go_wp2_with fail
      refine (toPlan_any _ d _ ((H.out.below T.A.K (Nat.le_refl _)).more T.A.K.size) q0.out q1.out q2.out q3.out).mono ?_
      rintro e w7 ⟨a0, a1, a2, a3, rfl, N, hb⟩
      have hβa := N.l0
      have a01 := N.l1
      have a12 := N.l2
      have a23 := N.l3
      have a3z := N.l4
      have P := Lib.hid (N.is B0.out B1.out B2.out B3.out)
      clear hC hD
      replace T := T.step hb
      replace O0 := O0.below hb
      clear hb
      generalize w6.heap.size = β at L0 hα hβa
      have hC := T.A.C
      have hD := T.Z.C
      have hz := T.A.z
      have hz1 := T.Z.z
      go_wp2_with fail
      clear hC hD hz hz1
      have hb : Below w7.heap.size w7 (w7.alloc (.cells (planC (some ⟨a0, 0, none⟩) (some ⟨a1, 0, none⟩) (some ⟨a2, 0, none⟩) (some ⟨a3, 0, none⟩) d.n0 d.n0 d.n1 d.n1 d.n2 d.n2 d.n3 d.n3 d.l d.p d.t) 47)) := (Below.refl _ _).alloc (Nat.le_refl _) _
      have U := Own.box2 T.A.K (planC (some ⟨a0, 0, none⟩) (some ⟨a1, 0, none⟩) (some ⟨a2, 0, none⟩) (some ⟨a3, 0, none⟩) d.n0 d.n0 d.n1 d.n1 d.n2 d.n2 d.n3 d.n3 d.l d.p d.t) 47
      have Ul : w7.heap.size < (w7.alloc (.cells (planC (some ⟨a0, 0, none⟩) (some ⟨a1, 0, none⟩) (some ⟨a2, 0, none⟩) (some ⟨a3, 0, none⟩) d.n0 d.n0 d.n1 d.n1 d.n2 d.n2 d.n3 d.n3 d.l d.p d.t) 47)).heap.size := by rw [heap_size_alloc_]; omega
      replace T := T.step hb
      replace O0 := O0.below hb
      replace N := N.below hb
      replace P := Lib.hid (P.out.go hb)
      clear hb
      generalize hw : w7.alloc (.cells (planC (some ⟨a0, 0, none⟩) (some ⟨a1, 0, none⟩) (some ⟨a2, 0, none⟩) (some ⟨a3, 0, none⟩) d.n0 d.n0 d.n1 d.n1 d.n2 d.n2 d.n3 d.n3 d.l d.p d.t) 47) = w8 at T O0 N P U Ul ⊢
      generalize hg : w7.heap.size = γ at U Ul a3z ⊢
      clear hw hg
      refine (toState_any _ s _ ((HS.out.below T.A.K (Nat.le_refl _)).more T.A.K.size) F.out).mono ?_
      rintro e w9 ⟨r0, r1, r2, r3, rfl, M, hb⟩
      have Y := M.rowsIn
      have Q := Lib.hid (M.is F.out)
      have hδ := hb.size
      replace T := T.step hb
      replace O0 := O0.below hb
      replace N := N.below hb
      replace P := Lib.hid (P.out.go hb)
      replace U := U.step hb
      clear hb
      clear M
      generalize w8.heap.size = δ at Ul Y hδ
      have hC := T.A.C
      have hD := T.Z.C
      have hU := U.C
      have hz := T.A.z
      have hz1 := T.Z.z
      have hz2 := U.z
      unfold newStV
      go_wp2_with fail
      clear hC hD hU hz hz1 hz2
      have hb : Below w9.heap.size w9 (w9.alloc (.cells (stC (some ⟨r0, 0, none⟩) (some ⟨r1, 0, none⟩) (some ⟨r2, 0, none⟩) (some ⟨r3, 0, none⟩) s.pods.length s.pods.length s.mnts.length s.mnts.length s.devs.length s.devs.length s.lks.length s.lks.length s.ph s.co s.ck s.bo s.ba s.lb s.gd s.pr) 40)) := (Below.refl _ _).alloc (Nat.le_refl _) _
      have V1 := Own.box2 T.A.K (stC (some ⟨r0, 0, none⟩) (some ⟨r1, 0, none⟩) (some ⟨r2, 0, none⟩) (some ⟨r3, 0, none⟩) s.pods.length s.pods.length s.mnts.length s.mnts.length s.devs.length s.devs.length s.lks.length s.lks.length s.ph s.co s.ck s.bo s.ba s.lb s.gd s.pr) 40
      have V1l : w9.heap.size < (w9.alloc (.cells (stC (some ⟨r0, 0, none⟩) (some ⟨r1, 0, none⟩) (some ⟨r2, 0, none⟩) (some ⟨r3, 0, none⟩) s.pods.length s.pods.length s.mnts.length s.mnts.length s.devs.length s.devs.length s.lks.length s.lks.length s.ph s.co s.ck s.bo s.ba s.lb s.gd s.pr) 40)).heap.size := by rw [heap_size_alloc_]; omega
      replace T := T.step hb
      replace O0 := O0.below hb
      replace N := N.below hb
      replace P := Lib.hid (P.out.go hb)
      replace U := U.step hb
      replace Y := Y.go hb
      replace Q := Lib.hid (Q.out.go hb)
      clear hb
      generalize hw : w9.alloc (.cells (stC (some ⟨r0, 0, none⟩) (some ⟨r1, 0, none⟩) (some ⟨r2, 0, none⟩) (some ⟨r3, 0, none⟩) s.pods.length s.pods.length s.mnts.length s.mnts.length s.devs.length s.devs.length s.lks.length s.lks.length s.ph s.co s.ck s.bo s.ba s.lb s.gd s.pr) 40) = w10 at T O0 N P U Y Q V1 V1l ⊢
      generalize hg : w9.heap.size = ζ at V1 V1l Y hδ ⊢
      clear hw hg
      have S3 : (∀ o, w10.cell? ⟨γ, o, none⟩ = (planC (some ⟨a0, 0, none⟩) (some ⟨a1, 0, none⟩) (some ⟨a2, 0, none⟩) (some ⟨a3, 0, none⟩) d.n0 d.n0 d.n1 d.n1 d.n2 d.n2 d.n3 d.n3 d.l d.p d.t)[o]?) ∧ (∀ o, w10.cell? ⟨ζ, o, none⟩ = (stC (some ⟨r0, 0, none⟩) (some ⟨r1, 0, none⟩) (some ⟨r2, 0, none⟩) (some ⟨r3, 0, none⟩) s.pods.length s.pods.length s.mnts.length s.mnts.length s.devs.length s.devs.length s.lks.length s.lks.length s.ph s.co s.ck s.bo s.ba s.lb s.gd s.pr)[o]?) ∧ (∀ o, w10.cell? ⟨w.heap.size + 1 + 1, o, none⟩ = (ordC xk xa xb)[o]?) ∧ Below w10.heap.size w10 w10 := ⟨U.C, V1.C, T.O.C, Below.refl _ _⟩
      go_region_held3 (fun w' => (∀ o, w'.cell? ⟨γ, o, none⟩ = (planC (some ⟨a0, 0, none⟩) (some ⟨a1, 0, none⟩) (some ⟨a2, 0, none⟩) (some ⟨a3, 0, none⟩) d.n0 d.n0 d.n1 d.n1 d.n2 d.n2 d.n3 d.n3 d.l d.p d.t)[o]?) ∧ (∀ o, w'.cell? ⟨ζ, o, none⟩ = (stC (some ⟨r0, 0, none⟩) (some ⟨r1, 0, none⟩) (some ⟨r2, 0, none⟩) (some ⟨r3, 0, none⟩) s.pods.length s.pods.length s.mnts.length s.mnts.length s.devs.length s.devs.length s.lks.length s.lks.length s.ph s.co s.ck s.bo s.ba s.lb s.gd s.pr)[o]?) ∧ (∀ o, w'.cell? ⟨w.heap.size + 1 + 1, o, none⟩ = (ordC xk xa xb)[o]?) ∧ Below w10.heap.size w10 w')
        (first | exact S3 | exact S4 | exact S5 | (exact ⟨S3.1, S3.2.1, S3.2.2.1, S3.2.2.2.drew⟩))
        (first
          | (go_at_call 30
             have hq := S4
             clear hq
             refine (HI.out _ _ _ (T.step K3).A.K ((P.out.below K3 (Nat.le_refl _)).more K3.size) (Q.out.go K3)).mono ?_
             rintro e w11 ⟨v1, rfl, O1, hb7⟩
             dsimp only at O1 ⊢
             have K7 : Below w10.heap.size w10 w11 := K3.trans (hb7.mono K3.size)
             have S5 := And.intro (U.step K7).C (And.intro (V1.step K7).C (And.intro (T.step K7).O.C K7)))
          | (go_at_call 29
             have Kd : Below w10.heap.size w10 w10.drew := (Below.refl _ _).drew
             refine (toOrder_any _ _ _ _).mono ?_
             rintro e w10b ⟨rfl, hb4⟩
             have K3 : Below w10.heap.size w10 w10b := Kd.trans hb4
             have S4 := And.intro (U.step K3).C (And.intro (V1.step K3).C (And.intro (T.step K3).O.C K3))))
      have hb := K7
      have L1 : Hid (∀ r, v1.ownBlock = some r → w10.heap.size ≤ r) := Lib.hid fun r hr => Nat.le_trans K3.size (O1.lt hr).1
      have hεb : w10.heap.size ≤ w10b.heap.size := K3.size
      clear S3 S4 S5 K3 K7 Kd hb4 hb7
      have hβε : ζ < w10.heap.size := V1l
      replace T := T.step hb
      replace O0 := O0.below hb
      replace N := N.below hb
      replace P := Lib.hid (P.out.go hb)
      replace U := U.step hb
      replace Y := Y.go hb
      replace Q := Lib.hid (Q.out.go hb)
      replace V1 := V1.step hb
      clear hb
      generalize w10.heap.size = ε at V1l L1 O1 hβε hεb
      go_wp2_with fail
      refine (eqRecS_same v1 v0 l _ O1.rt O0.rt).mono ?_
      rintro e w12 ⟨rfl, hb⟩
      replace T := T.step hb
      replace O0 := O0.below hb
      replace N := N.below hb
      replace P := Lib.hid (P.out.go hb)
      replace U := U.step hb
      replace Y := Y.go hb
      replace Q := Lib.hid (Q.out.go hb)
      replace V1 := V1.step hb
      replace O1 := O1.below hb
      clear hb
      have hU := U.C
      have hC := T.A.C
      go_wp2_with fail
      clear hU hC
      -- the plan is as it was
      have S0 : (∀ o, w12.cell? ⟨w.heap.size, o, none⟩ = (planC A0 A1 A2 A3 d.n0 c0 d.n1 c1 d.n2 c2 d.n3 c3 d.l d.p d.t)[o]?) ∧ (∀ o, w12.cell? ⟨γ, o, none⟩ = (planC (some ⟨a0, 0, none⟩) (some ⟨a1, 0, none⟩) (some ⟨a2, 0, none⟩) (some ⟨a3, 0, none⟩) d.n0 d.n0 d.n1 d.n1 d.n2 d.n2 d.n3 d.n3 d.l d.p d.t)[o]?) ∧ Below w12.heap.size w12 w12 := ⟨T.A.C, U.C, Below.refl _ _⟩
      go_region_held3 (fun w' => (∀ o, w'.cell? ⟨w.heap.size, o, none⟩ = (planC A0 A1 A2 A3 d.n0 c0 d.n1 c1 d.n2 c2 d.n3 c3 d.l d.p d.t)[o]?) ∧ (∀ o, w'.cell? ⟨γ, o, none⟩ = (planC (some ⟨a0, 0, none⟩) (some ⟨a1, 0, none⟩) (some ⟨a2, 0, none⟩) (some ⟨a3, 0, none⟩) d.n0 d.n0 d.n1 d.n1 d.n2 d.n2 d.n3 d.n3 d.l d.p d.t)[o]?) ∧ Below w12.heap.size w12 w')
        (first | exact S0 | exact S1 | exact S2 | (exact ⟨S0.1, S0.2.1, S0.2.2.drew⟩))
        (first
          | (go_at_call 15
             have hq := S1
             clear hq
             refine (eqPlan_same _ _ d _ ((P.out.below K1 (Nat.le_refl _)).more K1.size) P1.out).mono ?_
             rintro e w2a ⟨rfl, hb⟩
             have K2 : Below w12.heap.size w12 w2a := K1.trans (hb.mono K1.size)
             have S2 := And.intro (T.step K2).A.C (And.intro (U.step K2).C K2))
          | (go_at_call 10
             have K0 : Below w12.heap.size w12 w12.drew := (Below.refl _ _).drew
             refine (toPlan_any _ d _ ((H.out.below (T.step K0).A.K (Nat.le_refl _)).more (T.step K0).A.K.size) q0.out q1.out q2.out q3.out).mono ?_
             rintro e w1a ⟨z0, z1, z2, z3, rfl, N1, hb⟩
             have P1 := Lib.hid (N1.is B0.out B1.out B2.out B3.out)
             have K1 : Below w12.heap.size w12 w1a := K0.trans hb
             clear hb
             have S1 := And.intro (T.step K1).A.C (And.intro (U.step K1).C K1)))
      clear S0 S1 S2 K0 K1 hb
      have hb := K2
      clear K2
      clear N1 P1
      replace T := T.step hb
      replace O0 := O0.below hb
      replace N := N.below hb
      replace P := Lib.hid (P.out.go hb)
      replace U := U.step hb
      replace Y := Y.go hb
      replace Q := Lib.hid (Q.out.go hb)
      replace V1 := V1.step hb
      replace O1 := O1.below hb
      clear hb
      rename_i hHeld
      clear hHeld
      have hV := V1.C
      have hD := T.Z.C
      go_wp2_with fail
      clear hV hD
      -- the state is as it was
      have S0 : (∀ o, w2a.cell? ⟨w.heap.size + 1, o, none⟩ = (stC E0 E1 E2 E3 s.pods.length k0 s.mnts.length k1 s.devs.length k2 s.lks.length k3 s.ph s.co s.ck s.bo s.ba s.lb s.gd s.pr)[o]?) ∧ (∀ o, w2a.cell? ⟨ζ, o, none⟩ = (stC (some ⟨r0, 0, none⟩) (some ⟨r1, 0, none⟩) (some ⟨r2, 0, none⟩) (some ⟨r3, 0, none⟩) s.pods.length s.pods.length s.mnts.length s.mnts.length s.devs.length s.devs.length s.lks.length s.lks.length s.ph s.co s.ck s.bo s.ba s.lb s.gd s.pr)[o]?) ∧ Below w2a.heap.size w2a w2a := ⟨T.Z.C, V1.C, Below.refl _ _⟩
      go_region_held3 (fun w' => (∀ o, w'.cell? ⟨w.heap.size + 1, o, none⟩ = (stC E0 E1 E2 E3 s.pods.length k0 s.mnts.length k1 s.devs.length k2 s.lks.length k3 s.ph s.co s.ck s.bo s.ba s.lb s.gd s.pr)[o]?) ∧ (∀ o, w'.cell? ⟨ζ, o, none⟩ = (stC (some ⟨r0, 0, none⟩) (some ⟨r1, 0, none⟩) (some ⟨r2, 0, none⟩) (some ⟨r3, 0, none⟩) s.pods.length s.pods.length s.mnts.length s.mnts.length s.devs.length s.devs.length s.lks.length s.lks.length s.ph s.co s.ck s.bo s.ba s.lb s.gd s.pr)[o]?) ∧ Below w2a.heap.size w2a w')
        (first | exact S0 | exact S1 | exact S2 | (exact ⟨S0.1, S0.2.1, S0.2.2.drew⟩))
        (first
          | (go_at_call 14
             have hq := S1
             clear hq
             refine (eqState_same _ _ s _ ((Q.out.below K1 (Nat.le_refl _)).more K1.size) Q1.out).mono ?_
             rintro e w2b ⟨rfl, hb⟩
             have K2 : Below w2a.heap.size w2a w2b := K1.trans (hb.mono K1.size)
             have S2 := And.intro (T.step K2).Z.C (And.intro (V1.step K2).C K2))
          | (go_at_call 11
             have K0 : Below w2a.heap.size w2a w2a.drew := (Below.refl _ _).drew
             refine (toState_any _ s _ ((HS.out.below (T.step K0).A.K (Nat.le_refl _)).more (T.step K0).A.K.size) F.out).mono ?_
             rintro e w1b ⟨z0, z1, z2, z3, rfl, N1, hb⟩
             have Q1 := Lib.hid (N1.is F.out)
             have K1 : Below w2a.heap.size w2a w1b := K0.trans hb
             clear hb
             have S1 := And.intro (T.step K1).Z.C (And.intro (V1.step K1).C K1)))
      clear S0 S1 S2 K0 K1 hb
      have hb := K2
      clear K2
      clear N1 Q1
      replace T := T.step hb
      replace O0 := O0.below hb
      replace N := N.below hb
      replace P := Lib.hid (P.out.go hb)
      replace U := U.step hb
      replace Y := Y.go hb
      replace Q := Lib.hid (Q.out.go hb)
      replace V1 := V1.step hb
      replace O1 := O1.below hb
      clear hb
      rename_i hHeld
      clear hHeld
      have hU := U.C
      go_wp2_with fail
      -- the arguments are marked
      refine (markPlan_num d a0 a1 a2 a3 _ _ N q0.out q1.out q2.out q3.out).mono ?_
      rintro e w15 ⟨rfl, hk⟩
      clear hU
      clear N P Q U
      replace T := T.keeps hk (by rintro b ⟨hb1, hb2⟩; omega)
      replace O0 : OR _ _ _ _ := ownsRow_keeps O0 hk (by intro r hr; have := L0.out r hr; rintro ⟨hb1, hb2⟩; omega)
      replace Y := Y.keeps hk (by rintro b p1 p2 ⟨hb1, hb2⟩; omega)
      replace V1 := V1.keeps hk (by rintro b ⟨hb1, hb2⟩; omega) (by rintro ⟨hb1, hb2⟩; omega)
      replace O1 : OR _ _ _ _ := ownsRow_keeps O1 hk (by intro r hr; have := L1.out r hr; rintro ⟨hb1, hb2⟩; omega)
      clear hk
      have p0 : (0 : Int) ≤ 1 + 4 * d.n0 + d.n1 + 2 * d.n2 + d.n3 := by omega
      have p1 := PS.out
      generalize (1 + 4 * d.n0 + d.n1 + 2 * d.n2 + d.n3 : Int) = kk at p0 p1 ⊢
      have hV := V1.C
      go_wp2_with fail
      refine (markIn_any _ s _ _ kk _ Y F.out p0 (by have := TS.out; omega)).mono ?_
      rintro e w16 ⟨rfl, -, hk⟩
      clear hV
      clear Y V1
      replace T := T.keeps hk (by rintro b ⟨hb1, hb2⟩; omega)
      replace O0 : OR _ _ _ _ := ownsRow_keeps O0 hk (by intro r hr; have := L0.out r hr; rintro ⟨hb1, hb2⟩; omega)
      replace O1 : OR _ _ _ _ := ownsRow_keeps O1 hk (by intro r hr; have := L1.out r hr; rintro ⟨hb1, hb2⟩; omega)
      clear hk
      have p4 : ¬ (kk + totS s < 0) := by omega
      have p5 : decide (kk + totS s < 0) = false := by simp [p4]
      generalize (kk + totS s : Int) = kq at p4 p5 ⊢
      clear p0 p1
      go_wp2_with fail
      refine (eqRecS_same v1 v0 l _ O1.rt O0.rt).mono ?_
      rintro e w17 ⟨rfl, hb⟩
      clear p4 p5
      replace T := T.step hb
      replace O0 := O0.below hb
      replace O1 := O1.below hb
      clear hb
      -- the answer is marked
      obtain ⟨A1_, c1_, s1, rfl, hA1, hB1, hz1, U1⟩ := O1.open_
      have HA1 := Lib.hid hA1
      have HZ1 := Lib.hid hz1
      clear hA1 hz1
      go_wp2_with fail
      refine (markRecS_any A1_ l.length c1_ s1 1 _ _ HA1.out U1 (by omega) (by omega) (by omega)).mono ?_
      rintro e w18 ⟨rfl, U2, hk⟩
      clear U1
      have hks := hk.size
      clear O1
      replace T := T.keeps hk (by rintro b rfl; omega)
      replace O0 : OR _ _ _ _ := ownsRow_keeps O0 hk (by intro r hr; have := L0.out r hr; rintro rfl; omega)
      clear hk
      replace HZ1 := Lib.hid (fun h => Nat.lt_of_lt_of_le (HZ1.out h) hks)
      go_wp2_with fail
      refine (heldRecS_any A1_ l.length c1_ s1 1 _ HA1.out U2 (by omega) (by omega) (by omega)).mono ?_
      rintro e w19 ⟨rfl, hb⟩
      have U3 := U2.go (fun h => HZ1.out (by omega)) hb
      clear U2
      replace HZ1 := Lib.hid (fun h => Nat.lt_of_lt_of_le (HZ1.out h) hb.size)
      replace T := T.step hb
      replace O0 := O0.below hb
      clear hb
      have hm0 : ¬ ((1 : Int) + 3 * (l.length : Int) < 0) := by omega
      have hC := T.A.C
      have hD := T.Z.C
      go_wp2_with fail
      clear hC hD hm0
      -- once more, of other copies
      have S3 : (∀ o, w19.cell? ⟨w.heap.size, o, none⟩ = (planC A0 A1 A2 A3 d.n0 c0 d.n1 c1 d.n2 c2 d.n3 c3 d.l d.p d.t)[o]?) ∧ (∀ o, w19.cell? ⟨w.heap.size + 1, o, none⟩ = (stC E0 E1 E2 E3 s.pods.length k0 s.mnts.length k1 s.devs.length k2 s.lks.length k3 s.ph s.co s.ck s.bo s.ba s.lb s.gd s.pr)[o]?) ∧ (∀ o, w19.cell? ⟨w.heap.size + 1 + 1, o, none⟩ = (ordC xk xa xb)[o]?) ∧ Below w19.heap.size w19 w19 := ⟨T.A.C, T.Z.C, T.O.C, Below.refl _ _⟩
      go_region_held3 (fun w' => (∀ o, w'.cell? ⟨w.heap.size, o, none⟩ = (planC A0 A1 A2 A3 d.n0 c0 d.n1 c1 d.n2 c2 d.n3 c3 d.l d.p d.t)[o]?) ∧ (∀ o, w'.cell? ⟨w.heap.size + 1, o, none⟩ = (stC E0 E1 E2 E3 s.pods.length k0 s.mnts.length k1 s.devs.length k2 s.lks.length k3 s.ph s.co s.ck s.bo s.ba s.lb s.gd s.pr)[o]?) ∧ (∀ o, w'.cell? ⟨w.heap.size + 1 + 1, o, none⟩ = (ordC xk xa xb)[o]?) ∧ Below w19.heap.size w19 w')
        (first | exact S3 | exact S4 | exact S5 | exact S6 | exact S7 | (exact ⟨S3.1, S3.2.1, S3.2.2.1, S3.2.2.2.drew⟩))
        (first
          | (go_at_call 30
             have hq := S6
             clear hq
             refine (HI.out _ _ _ (T.step K6).A.K ((P4.out.below (K4.trans (hb6.mono K4.size)) (Nat.le_refl _)).more (K4.trans (hb6.mono K4.size)).size) (Q5.out.go hb6)).mono ?_
             rintro e w6c ⟨v2, rfl, O2, hb7⟩
             dsimp only at O2 ⊢
             have K7 : Below w19.heap.size w19 w6c := K6.trans (hb7.mono K6.size)
             have S7 := And.intro (T.step K7).A.C (And.intro (T.step K7).Z.C (And.intro (T.step K7).O.C K7)))
          | (go_at_call 29
             have hq := S5
             clear hq
             refine (toOrder_any _ _ _ _).mono ?_
             rintro e w5bc ⟨rfl, hb6⟩
             have K6 : Below w19.heap.size w19 w5bc := K5.trans (hb6.mono K5.size)
             have S6 := And.intro (T.step K6).A.C (And.intro (T.step K6).Z.C (And.intro (T.step K6).O.C K6)))
          | (go_at_call 11
             have hq := S4
             clear hq
             refine (toState_any _ s _ ((HS.out.below (T.step K3).A.K (Nat.le_refl _)).more (T.step K3).A.K.size) F.out).mono ?_
             rintro e w5c ⟨q0_, q1_, q2_, q3_, rfl, N5, hb5⟩
             have Q5 := Lib.hid (N5.is F.out)
             have K4 := hb5
             have K5 : Below w19.heap.size w19 w5c := K3.trans (hb5.mono K3.size)
             have S5 := And.intro (T.step K5).A.C (And.intro (T.step K5).Z.C (And.intro (T.step K5).O.C K5)))
          | (go_at_call 10
             have Kd : Below w19.heap.size w19 w19.drew := (Below.refl _ _).drew
             refine (toPlan_any _ d _ ((H.out.below (T.step Kd).A.K (Nat.le_refl _)).more (T.step Kd).A.K.size) q0.out q1.out q2.out q3.out).mono ?_
             rintro e w4c ⟨g0_, g1_, g2_, g3_, rfl, N4, hb4⟩
             have P4 := Lib.hid (N4.is B0.out B1.out B2.out B3.out)
             have K3 : Below w19.heap.size w19 w4c := Kd.trans hb4
             have S4 := And.intro (T.step K3).A.C (And.intro (T.step K3).Z.C (And.intro (T.step K3).O.C K3))))
      have hb := K7
      clear S3 S4 S5 S6 S7 P4 Q5 K3 K4 K5 K6 K7 Kd N4 N5 hb4 hb5 hb6 hb7
      have U4 := U3.go (fun h => HZ1.out (by omega)) hb
      clear U3
      replace HZ1 := Lib.hid (fun h => Nat.lt_of_lt_of_le (HZ1.out h) hb.size)
      replace T := T.step hb
      replace O0 := O0.below hb
      clear hb
      go_wp2_with fail
      refine (eqRecS_same v2 v0 l _ O2.rt O0.rt).mono ?_
      rintro e w20 ⟨rfl, hb⟩
      have U5 := U4.go (fun h => HZ1.out (by omega)) hb
      clear U4 O2
      replace HZ1 := Lib.hid (fun h => Nat.lt_of_lt_of_le (HZ1.out h) hb.size)
      replace T := T.step hb
      replace O0 := O0.below hb
      clear hb
      go_wp2_with fail
      refine (heldRecS_any A1_ l.length c1_ s1 1 _ HA1.out U5 (by omega) (by omega) (by omega)).mono ?_
      rintro e w21 ⟨rfl, hb⟩
      replace T := T.step hb
      replace O0 := O0.below hb
      clear hb
      have hm0 : ¬ ((1 : Int) + 3 * (l.length : Int) < 0) := by omega
      go_wp2_with fail
      go_ret
      exact ⟨rfl, T.A.K⟩
    · have e0 : szS left s = -1 := if_neg hsz2
      rw [e0]
      clear e0
      go_wp2_with fail
      go_ret
      exact ⟨rfl, T.A.K⟩
  · have e0 : szP d = -1 := if_neg hsz
    rw [e0]
    clear e0
    go_wp2_with fail
    go_ret
    exact ⟨rfl, T.A.K⟩
end Go.Proofs.YtdphpjnecjofeaaGreatDoor
/- Ia -/
set_option linter.unusedVariables false
namespace Go.Proofs.YtdphpjnecjofeaaGreatDoor
open Go.RowKit

/-- The cells of a tick: its plan's, its state's, its clock, what it has collected. -/
abbrev tkC (P0 P1 P2 P3 : Option Addr) (n0 k0 n1 k1 n2 k2 n3 k3 : Nat) (l p t : Int) (A0 A1 A2 A3 : Option Addr) (m0 c0 m1 c1 m2 c2 m3 c3 : Nat) (ph : Int) (co : Bool) (ck bo ba lb gd pr clk : Int) (v : Value) : Array Value :=
  #[.slice P0 n0 k0, .slice P1 n1 k1, .slice P2 n2 k2, .slice P3 n3 k3, .int .i64 l, .int .i64 p, .int .i64 t,
    .int .i64 ph, .bool co, .int .i64 ck, .int .i64 bo, .int .i64 ba, .int .i64 lb, .slice A0 m0 c0, .slice A1 m1 c1, .slice A2 m2 c2, .slice A3 m3 c3, .int .i64 gd, .int .i64 pr, .int .i64 clk, v]
/-- A box of a tick, the call's own. -/
def BoxTk (w : World) (B g : Nat) (xs : List Value) : Prop := w.ownsRow B 190 21 (.slice (some ⟨g, 0, none⟩) 1 1) 1 xs
theorem BoxTk.new {W : World} {B g : Nat} {cs : Array Value} (hg : W.heap.size = g) (hB : B ≤ W.heap.size) (hl : cs.size = 21) : BoxTk (W.alloc (.cells cs 190)) B g cs.toList := by
  subst hg
  exact own_of_heap (cur := cs) (heap_alloc_new W _) (by simp) (by simp [hl]) hB (by unfold maxLen; decide)
theorem BoxTk.at_ {w : World} {B g : Nat} {xs : List Value} (h : BoxTk w B g xs) (o : Nat) (ho : o < 21) : w.cell? ⟨g, o, none⟩ = xs[o]? := World.ownsRow.cellAt h o (by omega)
theorem BoxTk.C {w : World} {B g : Nat} {cs : Array Value} (h : BoxTk w B g cs.toList) : ∀ o, w.cell? ⟨g, o, none⟩ = cs[o]? := by
  intro o
  obtain ⟨hl, ⟨hv, _⟩ | ⟨g', cap, cur, hv, hb, hh, hnc, hcm, hsz, ht⟩⟩ := id h
  · cases hv
  · injection hv with h1 h2 h3
    injection h1 with h1
    injection h1 with h1 _ _
    subst h1 h3
    by_cases ho : o < 21
    · rw [h.at_ o ho, Array.getElem?_toList]
    · rw [cell_of_row _ _ _ _ _ _ hh, Array.getElem?_eq_none (by omega), Array.getElem?_eq_none (by simpa using (by omega : cs.toList.length ≤ o))]
theorem BoxTk.frozen {w : World} {B g : Nat} {xs : List Value} (h : BoxTk w B g xs) (o : Nat) : w.frozen? ⟨g, o, none⟩ = false := World.ownsRow.frozenAt h o
theorem BoxTk.lt {w : World} {B g : Nat} {xs : List Value} (h : BoxTk w B g xs) : B ≤ g ∧ g < w.heap.size := World.ownsRow.lt h g rfl
theorem BoxTk.go {w w' : World} {B g : Nat} {xs : List Value} (h : BoxTk w B g xs) (hb : Below w.heap.size w w') : BoxTk w' B g xs := ownsRow_below h hb
theorem keeps_setT (w : World) (g o : Nat) (u : Value) : Keeps (· = g) w (w.setCell ⟨g, o, none⟩ u) := (Keeps.refl (· = g) w).set rfl u

/-- Rows but of ticks and of records are as they were. -/
def KRow (W W' : World) : Prop := ∀ (B e k n : Nat) (u : Value) (xs : List Value), e ≠ 190 → e ≠ 50 → W.ownsRow B e k u n xs → W'.ownsRow B e k u n xs
theorem KRow.refl (W : World) : KRow W W := fun _ _ _ _ _ _ _ _ h => h
theorem KRow.trans {a b c : World} (h : KRow a b) (h' : KRow b c) : KRow a c := fun B e k n u xs h1 h2 x => h' B e k n u xs h1 h2 (h B e k n u xs h1 h2 x)
theorem KRow.step {a b c : World} (h : KRow a b) (hb : Below b.heap.size b c) : KRow a c := fun B e k n u xs h1 h2 x => ownsRow_below (h B e k n u xs h1 h2 x) hb
theorem KRow.row {a b c : World} {B e k n : Nat} {v : Value} {xs : List Value} (h : KRow a b) (O : b.ownsRow B e k v n xs) (he : e = 190 ∨ e = 50) (kp : Keeps (fun q => v.ownBlock = some q) b c) : KRow a c := fun B' e' k' n' u ys h1 h2 x =>
  ownsRow_keeps (h B' e' k' n' u ys h1 h2 x) kp fun r hr hv => by
    have := row_type (h B' e' k' n' u ys h1 h2 x) O hr hv
    rcases he with rfl | rfl
    · exact h1 this
    · exact h2 this

/-- A tick in its box: of a plan and a state that can be read below w0; what it has collected is its own. -/
def Tk (w0 W : World) (g : Nat) (d : PlanD) (s : StD) (l : List RecD) : Prop :=
  Below w0.heap.size w0 W ∧ ∃ pv sv v, IsPlan w0 w0.heap.size pv d ∧ IsSt w0 w0.heap.size sv s ∧ (∃ pc sc : Array Value, pv = .agg pc ∧ sv = .agg sc ∧ BoxTk W w0.heap.size g (pc.toList ++ (sc.toList ++ [.int .i64 (s.ck + 1), v]))) ∧ OR W w0.heap.size v l
theorem Tk.step {w0 W W' : World} {g : Nat} {d : PlanD} {s : StD} {l : List RecD} (h : Tk w0 W g d s l) (hb : Below W.heap.size W W') : Tk w0 W' g d s l := by
  obtain ⟨K, pv, sv, v, hp, hs, ⟨pc, sc, ep, es, X⟩, O⟩ := h
  exact ⟨K.trans (hb.mono K.size), pv, sv, v, hp, hs, ⟨pc, sc, ep, es, X.go hb⟩, O.below hb⟩
/-- What a method that collects answers. -/
def TkP (w0 W : World) (g : Nat) (d : PlanD) (s : StD) (l : List RecD) (e : Ending) (w' : World) : Prop := e = .returned (.tuple #[]) ∧ Tk w0 w' g d s l ∧ KRow W w'

set_option maxRecDepth 100000 in
set_option maxHeartbeats 8000000 in
theorem collect_any (w0 W : World) (g : Nat) (d : PlanD) (s : StD) (l : List RecD) (k a b : Int) (h : Tk w0 W g d s l) (hl : l.length ≤ 100) :
    Calls Tryz.prog 140 #[.pointer (some ⟨g, 0, none⟩), .agg #[.int .i64 k, .int .i64 a, .int .i64 b]] W (TkP w0 W g d s (l ++ [⟨k, a, b⟩])) := by
  obtain ⟨K, pv, sv, v, hp, hs, ⟨pc, sc, ep, es, X⟩, O⟩ := h
  have HP := Lib.hid hp
  have HS := Lib.hid hs
  obtain ⟨⟨P0, P1, P2, P3, k0, k1, k2, k3, rfl, s0, s1, s2, s3⟩, b0, b1, b2, b3⟩ := hp
  obtain ⟨⟨A0, A1, A2, A3, c0, c1, c2, c3, rfl, t0, t1, t2, t3⟩, f0, f1, f2, f3⟩ := hs
  injection ep with ep
  injection es with es
  subst ep es
  clear s0 s1 s2 s3 t0 t1 t2 t3 b0 b1 b2 b3 f0 f1 f2 f3
  obtain ⟨A, c, rfl, -, -⟩ := O.slv
  obtain ⟨i0, hi, hz0, hz1, hz2⟩ := info_parts info_rec
  replace X : BoxTk W w0.heap.size g (tkC P0 P1 P2 P3 d.n0 k0 d.n1 k1 d.n2 k2 d.n3 k3 d.l d.p d.t A0 A1 A2 A3 s.pods.length c0 s.mnts.length c1 s.devs.length c2 s.lks.length c3 s.ph s.co s.ck s.bo s.ba s.lb s.gd s.pr (s.ck + 1) (.slice A l.length c)).toList := X
  have hb := (Below.refl W.heap.size W).alloc (Nat.le_refl _) (.cells #[.int .i64 k, .int .i64 a, .int .i64 b] 50)
  have KR := (KRow.refl W).step hb
  have H3 := cell_new W #[.int .i64 k, .int .i64 a, .int .i64 b] 50
  replace X := X.go hb
  replace O := O.below hb
  replace K := K.trans (hb.mono K.size)
  clear hb
  go_enter Tryz.func140, Tryz.ntmps140
  go_upto_region 1 with fail
  generalize W.alloc (.cells #[.int .i64 k, .int .i64 a, .int .i64 b] 50) = w1 at X O K KR H3 ⊢
  generalize W.heap.size = R3 at H3 ⊢
  refine wp_region_noPanic ?_
  refine wp_region_held_drew (S := fun _ => True) (by kernel_rfl) trivial (fun _ => ?_)
  have hb : Below w1.heap.size w1 w1.drew := (Below.refl _ _).drew
  replace X := X.go hb
  replace O := O.below hb
  replace K := K.trans (hb.mono K.size)
  replace KR := KR.step hb
  replace H3 : ∀ o, w1.drew.cell? ⟨R3, o, none⟩ = (#[.int .i64 k, .int .i64 a, .int .i64 b] : Array Value)[o]? := H3
  clear hb
  generalize w1.drew = v0 at X O K KR H3 ⊢
  refine wpAnyH_take (i := 0) (v := ?_) rfl (by kernel_rfl) (by kernel_rfl) (by kernel_rfl) (fun _ _ _ h => h) (Or.inl ⟨by rfl, ?_⟩) trivial ?_
  rotate_left 1
  · intro w hSw
    clear hSw
    go_simp
    try with_reducible rfl
  change wpAnyH _ _ _ _ _ _ _ (Act.put _ (some 4) _) _
  dsimp only [Act.put]
  refine wpAnyH_take (i := 1) (v := ?_) rfl (by kernel_rfl) (by kernel_rfl) (by kernel_rfl) (fun _ _ _ h => h) (Or.inl ⟨by rfl, ?_⟩) trivial ?_
  rotate_left 1
  · intro w hSw
    clear hSw
    go_simp
    try with_reducible rfl
  change wpAnyH _ _ _ _ _ _ _ (Act.put _ (some 5) _) _
  dsimp only [Act.put]
  refine wpAnyH_take (i := 2) (v := ?_) rfl (by kernel_rfl) (by kernel_rfl) (by kernel_rfl) (fun _ _ _ h => h) (Or.inl ⟨by rfl, ?_⟩) trivial ?_
  rotate_left 1
  · intro w hSw
    clear hSw
    go_simp
    try with_reducible rfl
  change wpAnyH _ _ _ _ _ _ _ (Act.put _ (some 6) _) _
  dsimp only [Act.put]
  refine wpAnyH_take (i := 3) (v := ?_) rfl (by kernel_rfl) (by kernel_rfl) (by kernel_rfl) (fun _ _ _ h => h) (Or.inl ⟨by rfl, ?_⟩) trivial ?_
  rotate_left 1
  · intro w hSw
    clear hSw
    go_simp
    try with_reducible rfl
  change wpAnyH _ _ _ _ _ _ _ (Act.put _ (some 7) _) _
  dsimp only [Act.put]
  refine wpAnyH_ready (rs := [4, 5]) (by kernel_rfl) (by simp) ?_
  refine AllReadyH.cons rfl (fun K' hK => ?_) ?_
  · skip
    have hC := X.C
    go_simp
    clear hC
    refine hK.out _ _ trivial (fun _ => ?_)
    clear hK K'
    try (change wpAnyH _ _ _ _ _ _ _ (Act.put _ (some 8) _) _; dsimp only [Act.put])
    refine wpAnyH_ready (rs := [5]) (by kernel_rfl) (by simp) ?_
    refine AllReadyH.cons rfl (fun K' hK => ?_) AllReadyH.nil
    go_simp
    refine hK.out _ _ trivial (fun _ => ?_)
    clear hK K'
    try (change wpAnyH _ _ _ _ _ _ _ (Act.put _ (some 9) _) _; dsimp only [Act.put])
    refine wpAnyH_ready (rs := [6]) (by kernel_rfl) (by simp) ?_
    refine AllReadyH.cons rfl (fun K' hK => ?_) AllReadyH.nil
    go_simp
    have HN := heap_alloc_new v0 (.cells #[.int .i64 k, .int .i64 a, .int .i64 b] 50)
    have hb := (Below.refl v0.heap.size v0).alloc (Nat.le_refl _) (.cells #[.int .i64 k, .int .i64 a, .int .i64 b] 50)
    replace X := X.go hb
    replace O := O.below hb
    replace K := K.trans (hb.mono K.size)
    replace KR := KR.step hb
    clear hb H3
    obtain ⟨v1, hwv⟩ : ∃ W, v0.alloc (.cells #[.int .i64 k, .int .i64 a, .int .i64 b] 50) = W := ⟨_, rfl⟩
    rw [hwv] at HN X O K KR ⊢
    clear hwv
    obtain ⟨R8, hR8⟩ : ∃ R, v0.heap.size = R := ⟨_, rfl⟩
    rw [hR8] at HN ⊢
    clear hR8
    refine hK.out _ _ trivial (fun _ => ?_)
    clear hK K'
    try (change wpAnyH _ _ _ _ _ _ _ (Act.put _ (some 10) _) _; dsimp only [Act.put])
    refine wpAnyH_ready (rs := [7]) (by kernel_rfl) (by simp) ?_
    refine AllReadyH.cons rfl (fun K' hK => ?_) AllReadyH.nil
    refine step_append_lies _ rfl (.tmp 8) (.tmp 10) 60 rfl w0.heap.size 50 i0 (.agg #[.int .i64 0, .int .i64 0, .int .i64 0]) 3 24 Tryz.underlying60 hi hz0 hz1 hz2 rfl (by decide) (.slice A l.length c) l.length (recVs l) rfl O ⟨R8, 0, none⟩ 1 1 [.int .i64 k, .int .i64 a, .int .i64 b] rfl rfl (World.news_of_block HN) (by simp [Value.oneCell']) (by decide) (by unfold maxLen; omega) (by omega) K.size _ rfl ?_
    rintro g2 cap v2 hown hgrow - -
    have kp : Keeps (fun b => (Value.slice A l.length c).ownBlock = some b) v1 v2 := ⟨hgrow.os, hgrow.tape, hgrow.output, hgrow.size, fun b hb hn => hgrow.block b hb fun e => hn e.symm⟩
    replace K := K.trans ((Below.refl _ _).grown hgrow K.size fun r hr => (O.lt hr).1)
    replace X : BoxTk _ _ _ _ := ownsRow_keeps X kp fun r hr e => absurd (row_type X O hr e) (by decide)
    replace KR := KR.row O (.inr rfl) kp
    have O2 : OR v2 w0.heap.size (.slice (some ⟨g2, 0, none⟩) (l.length + 1) cap) (l ++ [⟨k, a, b⟩]) := by
      unfold OR
      rw [List.length_append, recVs_append]
      exact hown
    clear O HN hgrow kp hown
    refine hK.out _ _ trivial (fun _ => ?_)
    clear hK K'
    try (change wpAnyH _ _ _ _ _ _ _ (Act.put _ (some 11) _) _; dsimp only [Act.put])
    refine wpAnyH_take (i := 8) (v := ?_) rfl (by kernel_rfl) (by kernel_rfl) (by kernel_rfl) (fun _ _ _ h => h) (Or.inl ⟨by rfl, ?_⟩) trivial ?_
    rotate_left 1
    · intro w hSw
      clear hSw
      go_simp
      try with_reducible rfl
    change wpAnyH _ _ _ _ _ _ _ (Act.put _ (some 12) _) _
    dsimp only [Act.put]
    refine wpAnyH_take (i := 9) (v := ?_) rfl (by kernel_rfl) (by kernel_rfl) (by kernel_rfl) (fun _ _ _ h => h) (Or.inl ⟨by rfl, ?_⟩) trivial ?_
    rotate_left 1
    · intro w hSw
      clear hSw
      go_simp
      try with_reducible rfl
    change wpAnyH _ _ _ _ _ _ _ (Act.put _ (some 13) _) _
    dsimp only [Act.put]
    refine wpAnyH_ready (rs := [10]) (by kernel_rfl) (by simp) ?_
    refine AllReadyH.cons rfl (fun K' hK => ?_) AllReadyH.nil
    have hC := X.C
    have hF := X.frozen
    go_simp
    clear hC hF
    have kp : Keeps (fun b => (Value.slice (some ⟨g, 0, none⟩) 1 1).ownBlock = some b) v2 (v2.setCell ⟨g, 20, none⟩ (.slice (some ⟨g2, 0, none⟩) (l.length + 1) cap)) := (keeps_setT v2 g 20 _).mono fun b e => by rw [e]; rfl
    replace K := K.setCell (p := ⟨g, 20, none⟩) X.lt.1 (.slice (some ⟨g2, 0, none⟩) (l.length + 1) cap)
    replace KR := KR.row X (.inl rfl) kp
    replace O2 : OR _ _ _ _ := ownsRow_keeps O2 kp fun r hr e => absurd (row_type O2 X hr e) (by decide)
    replace X := (World.ownsRow.stored X 20 (.slice (some ⟨g2, 0, none⟩) (l.length + 1) cap)).1
    clear kp
    generalize v2.setCell ⟨g, 20, none⟩ (.slice (some ⟨g2, 0, none⟩) (l.length + 1) cap) = v3 at X O2 K KR ⊢
    refine hK.out _ _ trivial (fun _ => ?_)
    clear hK K'
    try (change wpAnyH _ _ _ _ _ _ _ (Act.put _ none _) _; dsimp only [Act.put])
    refine wpAnyH_done (by kernel_rfl) ?_ _
    refine NoPanic.normal ?_
    go_wp2_with fail
    refine bodyPost_ret (v := .tuple #[]) (by simp [results, Tryz.results140, go_sem]) rfl ?_
    exact ⟨rfl, ⟨K, _, _, _, HP.out, HS.out, ⟨_, _, rfl, rfl, X⟩, O2⟩, KR⟩
  refine AllReadyH.cons rfl (fun K' hK => ?_) AllReadyH.nil
  go_simp
  refine hK.out _ _ trivial (fun _ => ?_)
  clear hK K'
  try (change wpAnyH _ _ _ _ _ _ _ (Act.put _ (some 9) _) _; dsimp only [Act.put])
  refine wpAnyH_ready (rs := [4, 6]) (by kernel_rfl) (by simp) ?_
  refine AllReadyH.cons rfl (fun K' hK => ?_) ?_
  · skip
    have hC := X.C
    go_simp
    clear hC
    refine hK.out _ _ trivial (fun _ => ?_)
    clear hK K'
    try (change wpAnyH _ _ _ _ _ _ _ (Act.put _ (some 8) _) _; dsimp only [Act.put])
    refine wpAnyH_ready (rs := [6]) (by kernel_rfl) (by simp) ?_
    refine AllReadyH.cons rfl (fun K' hK => ?_) AllReadyH.nil
    go_simp
    have HN := heap_alloc_new v0 (.cells #[.int .i64 k, .int .i64 a, .int .i64 b] 50)
    have hb := (Below.refl v0.heap.size v0).alloc (Nat.le_refl _) (.cells #[.int .i64 k, .int .i64 a, .int .i64 b] 50)
    replace X := X.go hb
    replace O := O.below hb
    replace K := K.trans (hb.mono K.size)
    replace KR := KR.step hb
    clear hb H3
    obtain ⟨v1, hwv⟩ : ∃ W, v0.alloc (.cells #[.int .i64 k, .int .i64 a, .int .i64 b] 50) = W := ⟨_, rfl⟩
    rw [hwv] at HN X O K KR ⊢
    clear hwv
    obtain ⟨R8, hR8⟩ : ∃ R, v0.heap.size = R := ⟨_, rfl⟩
    rw [hR8] at HN ⊢
    clear hR8
    refine hK.out _ _ trivial (fun _ => ?_)
    clear hK K'
    try (change wpAnyH _ _ _ _ _ _ _ (Act.put _ (some 10) _) _; dsimp only [Act.put])
    refine wpAnyH_ready (rs := [7]) (by kernel_rfl) (by simp) ?_
    refine AllReadyH.cons rfl (fun K' hK => ?_) AllReadyH.nil
    refine step_append_lies _ rfl (.tmp 8) (.tmp 10) 60 rfl w0.heap.size 50 i0 (.agg #[.int .i64 0, .int .i64 0, .int .i64 0]) 3 24 Tryz.underlying60 hi hz0 hz1 hz2 rfl (by decide) (.slice A l.length c) l.length (recVs l) rfl O ⟨R8, 0, none⟩ 1 1 [.int .i64 k, .int .i64 a, .int .i64 b] rfl rfl (World.news_of_block HN) (by simp [Value.oneCell']) (by decide) (by unfold maxLen; omega) (by omega) K.size _ rfl ?_
    rintro g2 cap v2 hown hgrow - -
    have kp : Keeps (fun b => (Value.slice A l.length c).ownBlock = some b) v1 v2 := ⟨hgrow.os, hgrow.tape, hgrow.output, hgrow.size, fun b hb hn => hgrow.block b hb fun e => hn e.symm⟩
    replace K := K.trans ((Below.refl _ _).grown hgrow K.size fun r hr => (O.lt hr).1)
    replace X : BoxTk _ _ _ _ := ownsRow_keeps X kp fun r hr e => absurd (row_type X O hr e) (by decide)
    replace KR := KR.row O (.inr rfl) kp
    have O2 : OR v2 w0.heap.size (.slice (some ⟨g2, 0, none⟩) (l.length + 1) cap) (l ++ [⟨k, a, b⟩]) := by
      unfold OR
      rw [List.length_append, recVs_append]
      exact hown
    clear O HN hgrow kp hown
    refine hK.out _ _ trivial (fun _ => ?_)
    clear hK K'
    try (change wpAnyH _ _ _ _ _ _ _ (Act.put _ (some 11) _) _; dsimp only [Act.put])
    refine wpAnyH_take (i := 8) (v := ?_) rfl (by kernel_rfl) (by kernel_rfl) (by kernel_rfl) (fun _ _ _ h => h) (Or.inl ⟨by rfl, ?_⟩) trivial ?_
    rotate_left 1
    · intro w hSw
      clear hSw
      go_simp
      try with_reducible rfl
    change wpAnyH _ _ _ _ _ _ _ (Act.put _ (some 12) _) _
    dsimp only [Act.put]
    refine wpAnyH_take (i := 9) (v := ?_) rfl (by kernel_rfl) (by kernel_rfl) (by kernel_rfl) (fun _ _ _ h => h) (Or.inl ⟨by rfl, ?_⟩) trivial ?_
    rotate_left 1
    · intro w hSw
      clear hSw
      go_simp
      try with_reducible rfl
    change wpAnyH _ _ _ _ _ _ _ (Act.put _ (some 13) _) _
    dsimp only [Act.put]
    refine wpAnyH_ready (rs := [10]) (by kernel_rfl) (by simp) ?_
    refine AllReadyH.cons rfl (fun K' hK => ?_) AllReadyH.nil
    have hC := X.C
    have hF := X.frozen
    go_simp
    clear hC hF
    have kp : Keeps (fun b => (Value.slice (some ⟨g, 0, none⟩) 1 1).ownBlock = some b) v2 (v2.setCell ⟨g, 20, none⟩ (.slice (some ⟨g2, 0, none⟩) (l.length + 1) cap)) := (keeps_setT v2 g 20 _).mono fun b e => by rw [e]; rfl
    replace K := K.setCell (p := ⟨g, 20, none⟩) X.lt.1 (.slice (some ⟨g2, 0, none⟩) (l.length + 1) cap)
    replace KR := KR.row X (.inl rfl) kp
    replace O2 : OR _ _ _ _ := ownsRow_keeps O2 kp fun r hr e => absurd (row_type O2 X hr e) (by decide)
    replace X := (World.ownsRow.stored X 20 (.slice (some ⟨g2, 0, none⟩) (l.length + 1) cap)).1
    clear kp
    generalize v2.setCell ⟨g, 20, none⟩ (.slice (some ⟨g2, 0, none⟩) (l.length + 1) cap) = v3 at X O2 K KR ⊢
    refine hK.out _ _ trivial (fun _ => ?_)
    clear hK K'
    try (change wpAnyH _ _ _ _ _ _ _ (Act.put _ none _) _; dsimp only [Act.put])
    refine wpAnyH_done (by kernel_rfl) ?_ _
    refine NoPanic.normal ?_
    go_wp2_with fail
    refine bodyPost_ret (v := .tuple #[]) (by simp [results, Tryz.results140, go_sem]) rfl ?_
    exact ⟨rfl, ⟨K, _, _, _, HP.out, HS.out, ⟨_, _, rfl, rfl, X⟩, O2⟩, KR⟩
  refine AllReadyH.cons rfl (fun K' hK => ?_) AllReadyH.nil
  go_simp
  have HN := heap_alloc_new v0 (.cells #[.int .i64 k, .int .i64 a, .int .i64 b] 50)
  have hb := (Below.refl v0.heap.size v0).alloc (Nat.le_refl _) (.cells #[.int .i64 k, .int .i64 a, .int .i64 b] 50)
  replace X := X.go hb
  replace O := O.below hb
  replace K := K.trans (hb.mono K.size)
  replace KR := KR.step hb
  clear hb H3
  obtain ⟨v1, hwv⟩ : ∃ W, v0.alloc (.cells #[.int .i64 k, .int .i64 a, .int .i64 b] 50) = W := ⟨_, rfl⟩
  rw [hwv] at HN X O K KR ⊢
  clear hwv
  obtain ⟨R8, hR8⟩ : ∃ R, v0.heap.size = R := ⟨_, rfl⟩
  rw [hR8] at HN ⊢
  clear hR8
  refine hK.out _ _ trivial (fun _ => ?_)
  clear hK K'
  try (change wpAnyH _ _ _ _ _ _ _ (Act.put _ (some 10) _) _; dsimp only [Act.put])
  refine wpAnyH_ready (rs := [4]) (by kernel_rfl) (by simp) ?_
  refine AllReadyH.cons rfl (fun K' hK => ?_) AllReadyH.nil
  have hC := X.C
  go_simp
  clear hC
  refine hK.out _ _ trivial (fun _ => ?_)
  clear hK K'
  try (change wpAnyH _ _ _ _ _ _ _ (Act.put _ (some 8) _) _; dsimp only [Act.put])
  refine wpAnyH_ready (rs := [7]) (by kernel_rfl) (by simp) ?_
  refine AllReadyH.cons rfl (fun K' hK => ?_) AllReadyH.nil
  refine step_append_lies _ rfl (.tmp 8) (.tmp 10) 60 rfl w0.heap.size 50 i0 (.agg #[.int .i64 0, .int .i64 0, .int .i64 0]) 3 24 Tryz.underlying60 hi hz0 hz1 hz2 rfl (by decide) (.slice A l.length c) l.length (recVs l) rfl O ⟨R8, 0, none⟩ 1 1 [.int .i64 k, .int .i64 a, .int .i64 b] rfl rfl (World.news_of_block HN) (by simp [Value.oneCell']) (by decide) (by unfold maxLen; omega) (by omega) K.size _ rfl ?_
  rintro g2 cap v2 hown hgrow - -
  have kp : Keeps (fun b => (Value.slice A l.length c).ownBlock = some b) v1 v2 := ⟨hgrow.os, hgrow.tape, hgrow.output, hgrow.size, fun b hb hn => hgrow.block b hb fun e => hn e.symm⟩
  replace K := K.trans ((Below.refl _ _).grown hgrow K.size fun r hr => (O.lt hr).1)
  replace X : BoxTk _ _ _ _ := ownsRow_keeps X kp fun r hr e => absurd (row_type X O hr e) (by decide)
  replace KR := KR.row O (.inr rfl) kp
  have O2 : OR v2 w0.heap.size (.slice (some ⟨g2, 0, none⟩) (l.length + 1) cap) (l ++ [⟨k, a, b⟩]) := by
    unfold OR
    rw [List.length_append, recVs_append]
    exact hown
  clear O HN hgrow kp hown
  refine hK.out _ _ trivial (fun _ => ?_)
  clear hK K'
  try (change wpAnyH _ _ _ _ _ _ _ (Act.put _ (some 11) _) _; dsimp only [Act.put])
  refine wpAnyH_take (i := 8) (v := ?_) rfl (by kernel_rfl) (by kernel_rfl) (by kernel_rfl) (fun _ _ _ h => h) (Or.inl ⟨by rfl, ?_⟩) trivial ?_
  rotate_left 1
  · intro w hSw
    clear hSw
    go_simp
    try with_reducible rfl
  change wpAnyH _ _ _ _ _ _ _ (Act.put _ (some 12) _) _
  dsimp only [Act.put]
  refine wpAnyH_take (i := 9) (v := ?_) rfl (by kernel_rfl) (by kernel_rfl) (by kernel_rfl) (fun _ _ _ h => h) (Or.inl ⟨by rfl, ?_⟩) trivial ?_
  rotate_left 1
  · intro w hSw
    clear hSw
    go_simp
    try with_reducible rfl
  change wpAnyH _ _ _ _ _ _ _ (Act.put _ (some 13) _) _
  dsimp only [Act.put]
  refine wpAnyH_ready (rs := [10]) (by kernel_rfl) (by simp) ?_
  refine AllReadyH.cons rfl (fun K' hK => ?_) AllReadyH.nil
  have hC := X.C
  have hF := X.frozen
  go_simp
  clear hC hF
  have kp : Keeps (fun b => (Value.slice (some ⟨g, 0, none⟩) 1 1).ownBlock = some b) v2 (v2.setCell ⟨g, 20, none⟩ (.slice (some ⟨g2, 0, none⟩) (l.length + 1) cap)) := (keeps_setT v2 g 20 _).mono fun b e => by rw [e]; rfl
  replace K := K.setCell (p := ⟨g, 20, none⟩) X.lt.1 (.slice (some ⟨g2, 0, none⟩) (l.length + 1) cap)
  replace KR := KR.row X (.inl rfl) kp
  replace O2 : OR _ _ _ _ := ownsRow_keeps O2 kp fun r hr e => absurd (row_type O2 X hr e) (by decide)
  replace X := (World.ownsRow.stored X 20 (.slice (some ⟨g2, 0, none⟩) (l.length + 1) cap)).1
  clear kp
  generalize v2.setCell ⟨g, 20, none⟩ (.slice (some ⟨g2, 0, none⟩) (l.length + 1) cap) = v3 at X O2 K KR ⊢
  refine hK.out _ _ trivial (fun _ => ?_)
  clear hK K'
  try (change wpAnyH _ _ _ _ _ _ _ (Act.put _ none _) _; dsimp only [Act.put])
  refine wpAnyH_done (by kernel_rfl) ?_ _
  refine NoPanic.normal ?_
  go_wp2_with fail
  refine bodyPost_ret (v := .tuple #[]) (by simp [results, Tryz.results140, go_sem]) rfl ?_
  exact ⟨rfl, ⟨K, _, _, _, HP.out, HS.out, ⟨_, _, rfl, rfl, X⟩, O2⟩, KR⟩
end Go.Proofs.YtdphpjnecjofeaaGreatDoor
