/-
  What the program's changes do to a state in a box.
-/
import Derived.Test.YtmgckdmglnmnnaaGreatDoorMZ10
import Derived.Test.YtmgckdmglnmnnaaGreatDoorMZ5
import Derived.Test.YtmgckdmglnmnnaaGreatDoorMZ6
import Derived.Test.YtmgckdmglnmnnaaGreatDoorMZ3
import Derived.Deep.RegionHeld3
import Derived.Test.YtmgckdmglnmnnaaGreatDoorMZ8
import Derived.Test.YtmgckdmglnmnnaaGreatDoorMZxUt
/- Wf -/
set_option linter.unusedVariables false
namespace Go.Proofs.YtmgckdmglnmnnaaGreatDoor
open Go.RowKit

theorem Two.drewN {w w1 : World} {cs os : Array Value} (h : Two w w1 cs os) (n : Nat) : Two w (w1.drewN n) cs os := ⟨h.A.drewN n, h.O.drewN n⟩
theorem all_yes {n : Nat} {f : Nat → Bool} (h : ∀ j, j < n → f j = true) : (List.range n).all f = true := by simpa using h
theorem all_not {n k : Nat} {f : Nat → Bool} (hk : k < n) (h : f k = false) : (List.range n).all f = false := by
  rw [List.all_eq_false]
  exact ⟨k, by simpa using hk, by simp [h]⟩
def kidB (d : PlanD) (s : StD) (i j : Nat) : Bool := !(decide (mpar d j = i) && (mntA s.mnts j).1)

set_option maxRecDepth 4000 in
set_option maxHeartbeats 4000000 in
theorem l9Free_any (pv sv : Value) (d : PlanD) (s : StD) (i : Nat) (w : World) (hp : IsPlan w w.heap.size pv d) (hs : IsSt w w.heap.size sv s) (hok : StOk d s) (hi : i < d.n2) :
    Calls Tryz.prog 129 #[pv, sv, .int .i64 i] w fun e w' => e = .returned (.bool (freeB d s i)) ∧ Below w.heap.size w w' := by
  have HP := Lib.hid hp
  have HS := Lib.hid hs
  obtain ⟨⟨P0, P1, P2, P3, k0, k1, k2, k3, rfl, s0, s1, s2, s3⟩, b0, b1, b2, b3⟩ := hp
  obtain ⟨⟨A0, A1, A2, A3, c0, c1, c2, c3, rfl, t0, t1, t2, t3⟩, f0, f1, f2, f3⟩ := hs
  have S0 := Lib.hid s0
  have S1 := Lib.hid s1
  have S2 := Lib.hid s2
  have S3 := Lib.hid s3
  have R0 := Lib.hid t0
  have R1 := Lib.hid t1
  have R2 := Lib.hid t2
  have R3 := Lib.hid t3
  unfold maxLen at b0 b1 b2 b3 f0 f1 f2 f3
  clear s0 s1 s2 s3 t0 t1 t2 t3
  have T0 := Two.start w (planC P0 P1 P2 P3 d.n0 k0 d.n1 k1 d.n2 k2 d.n3 k3 d.l d.p d.t) (stC A0 A1 A2 A3 s.pods.length c0 s.mnts.length c1 s.devs.length c2 s.lks.length c3 s.ph s.co s.ck s.bo s.ba s.lb s.gd s.pr) 29 34
  have OK := Lib.hid hok
  have hD := T0.O.C
  have hC := T0.A.C
  have HLN := Lib.hid hok.nm
  obtain ⟨m, hm, hml, hmp⟩ := mount_pod hok.plan hi
  have hlm : m < s.pods.length := by rw [hok.np]; exact hml
  have S2' := S2
  have R1' := R1
  obtain ⟨b, off, hPe, hb, q0, -⟩ := (S2.out.own T0.A).cell2 hi
  obtain ⟨b', off', hAe, hb', hc⟩ := (R1.out.below T0.A.K (Nat.le_refl _)).cell (i := i) (by rw [HLN.out]; exact hi)
  have p0 := (hc 0 (by decide)).trans (mntCs_at s.mnts (i := i) (by rw [HLN.out]; exact hi)).1
  obtain ⟨b2_, off2, rfl, hb2, hc2⟩ := (R0.out.below T0.A.K (Nat.le_refl _)).cell hlm
  have r0 := (hc2 0 (by decide)).trans (podCs_at s.pods hlm).1
  rw [Nat.add_zero] at r0 p0
  subst hPe hAe
  clear hc hc2 hok
  rw [hm] at q0
  have GB : Hid (freeB d s i = ((mntA s.mnts i).1 && !aliveB (podA s.pods m).1 && (List.range d.n2).all (kidB d s i))) := Lib.hid (by unfold freeB; rw [hmp]; rfl)
  generalize freeB d s i = ans at GB
  have hlti : i < s.mnts.length := by rw [HLN.out]; exact hi
  generalize hX : (mntA s.mnts i).1 = x at p0 GB
  generalize (podA s.pods m).1 = y at r0 GB
  clear hX
  cases x
  · go_enter Tryz.func129, Tryz.ntmps129
    go_wp2_with fail
    go_quiet ((go_at_call 11; exact Calls.quiet_of_same ((alive_any _ _).mono fun e w' h => ⟨h.1, h.2.symm⟩)))
    go_wp2
    all_goals (go_ret; exact ⟨ret_bool (by rw [GB.out]; rfl), (T0.A.drewN _).K⟩)
  · cases ha : aliveB y
    · go_enter Tryz.func129, Tryz.ntmps129
      go_wp2_with fail
      go_quiet ((go_at_call 11; exact Calls.quiet_of_same ((alive_any _ _).mono fun e w' h => ⟨h.1, h.2.symm⟩)))
      have T1 := T0.drewN nq
      have HA := Lib.hid ha
      clear ha
      go_wp2_with fail
      go_loopw [7] (fun j wr => ∃ k : Nat, k ≤ d.n2 ∧ j = .int .i64 k ∧ (∀ j, j < k → kidB d s i j = true) ∧ Two w wr (planC P0 P1 (some ⟨b, off, none⟩) P3 d.n0 k0 d.n1 k1 d.n2 k2 d.n3 k3 d.l d.p d.t) (stC (some ⟨b2_, off2, none⟩) (some ⟨b', off', none⟩) A2 A3 s.pods.length c0 s.mnts.length c1 s.devs.length c2 s.lks.length c3 s.ph s.co s.ck s.bo s.ba s.lb s.gd s.pr)) (fun j _ => d.n2 - (intOf j).toNat)
      case atStart => exact ⟨0, Nat.zero_le _, rfl, fun j hj => absurd hj (by omega), T1⟩
      case round =>
        clear hC hD T1 p0 q0 r0
        obtain ⟨k, hk, rfl, hall, T⟩ := hrel
        have HALL := Lib.hid hall
        clear hall
        have hC := T.A.C
        have hD := T.O.C
        by_cases hlt : k < d.n2
        · have hlp : k < s.mnts.length := by rw [HLN.out]; exact hlt
          obtain ⟨b3_, off3, e3, hb3, -, q1⟩ := (S2'.out.own T.A).cell2 hlt
          injection e3 with e3
          injection e3 with e3 e4 _
          subst e3 e4
          obtain ⟨b4_, off4, e3, hb4, hc⟩ := (R1'.out.below T.A.K (Nat.le_refl _)).cell hlp
          injection e3 with e3
          injection e3 with e3 e4 _
          subst e3 e4
          have r0 := (hc 0 (by decide)).trans (mntCs_at s.mnts (i := k) hlp).1
          rw [Nat.add_zero] at r0
          clear hc
          have KB : Hid (kidB d s i k = !(decide (d.x2 (k * 2 + 1) = i) && (mntA s.mnts k).1)) := Lib.hid rfl
          have HFALSE : Hid (kidB d s i k = false → ans = false) := Lib.hid fun h => by rw [GB.out, all_not hlt h]; simp
          have HSTEP : Hid (kidB d s i k = true → ∀ j, j < k + 1 → kidB d s i j = true) := Lib.hid fun h => step_all HALL.out h
          generalize kidB d s i k = kb at KB HFALSE HSTEP
          generalize (mntA s.mnts k).1 = z at r0 KB
          cases hv : (d.x2 (k * 2 + 1) == (i : Int))
          · have CF : Hid (kb = true) := Lib.hid (by rw [KB.out]; simp at hv; simp [hv])
            go_wp2
            refine ⟨⟨k + 1, by omega, by go_num, HSTEP.out CF.out, T⟩, by simp [intOf]; omega⟩
          · cases z
            · have CF : Hid (kb = true) := Lib.hid (by rw [KB.out]; simp)
              go_wp2
              refine ⟨⟨k + 1, by omega, by go_num, HSTEP.out CF.out, T⟩, by simp [intOf]; omega⟩
            · have CF : Hid (kb = false) := Lib.hid (by rw [KB.out]; simp at hv; simp [hv])
              go_wp2
              all_goals (go_ret; exact ⟨ret_bool (by rw [HFALSE.out CF.out]), T.A.K⟩)
        · obtain rfl : k = d.n2 := by omega
          go_wp2
          all_goals (go_ret; exact ⟨ret_bool (by rw [GB.out, HA.out, all_yes HALL.out]; rfl), T.A.K⟩)
    · go_enter Tryz.func129, Tryz.ntmps129
      go_wp2_with fail
      go_quiet ((go_at_call 11; exact Calls.quiet_of_same ((alive_any _ _).mono fun e w' h => ⟨h.1, h.2.symm⟩)))
      have HA := Lib.hid ha
      go_wp2
      all_goals (go_ret; exact ⟨ret_bool (by rw [GB.out, HA.out]; rfl), (T0.A.drewN _).K⟩)

end Go.Proofs.YtmgckdmglnmnnaaGreatDoor
/- Wg -/
set_option linter.unusedVariables false
namespace Go.Proofs.YtmgckdmglnmnnaaGreatDoor
open Go.RowKit

theorem contains_at {l : List Int} {j : Nat} {a : Int} (hj : j < l.length) (h : lkA l j = a) : l.contains a = true := by
  subst h
  simp [lkA, List.getD, List.getElem?_eq_getElem hj]
theorem contains_no {l : List Int} {a : Int} (h : ∀ j, j < l.length → lkA l j ≠ a) : l.contains a = false := by
  rw [Bool.eq_false_iff]
  intro hc
  rw [List.contains_iff_mem, List.mem_iff_getElem] at hc
  obtain ⟨j, hj, e⟩ := hc
  exact h j hj (by simp [lkA, List.getD, List.getElem?_eq_getElem hj, e])
set_option maxRecDepth 4000 in
set_option maxHeartbeats 4000000 in
theorem mayEvict_any (pv sv : Value) (d : PlanD) (s : StD) (a : Int) (w : World) (hp : IsPlan w w.heap.size pv d) (hs : IsSt w w.heap.size sv s) :
    Calls Tryz.prog 122 #[pv, sv, .int .i64 a] w fun e w' => e = .returned (.bool (stOkB d s && mayEvictB d s a)) ∧ Below w.heap.size w w' := by
  have HP := Lib.hid hp
  have HS := Lib.hid hs
  obtain ⟨⟨P0, P1, P2, P3, k0, k1, k2, k3, rfl, s0, s1, s2, s3⟩, b0, b1, b2, b3⟩ := hp
  obtain ⟨⟨A0, A1, A2, A3, c0, c1, c2, c3, rfl, t0, t1, t2, t3⟩, f0, f1, f2, f3⟩ := hs
  have S0 := Lib.hid s0
  have S1 := Lib.hid s1
  have S2 := Lib.hid s2
  have S3 := Lib.hid s3
  have R0 := Lib.hid t0
  have R1 := Lib.hid t1
  have R2 := Lib.hid t2
  have R3 := Lib.hid t3
  unfold maxLen at b0 b1 b2 b3 f0 f1 f2 f3
  clear s0 s1 s2 s3 t0 t1 t2 t3
  have T0 := Two.start w (planC P0 P1 P2 P3 d.n0 k0 d.n1 k1 d.n2 k2 d.n3 k3 d.l d.p d.t) (stC A0 A1 A2 A3 s.pods.length c0 s.mnts.length c1 s.devs.length c2 s.lks.length c3 s.ph s.co s.ck s.bo s.ba s.lb s.gd s.pr) 29 34
  obtain ⟨ans, hans⟩ : ∃ ans, (stOkB d s && mayEvictB d s a) = ans := ⟨_, rfl⟩
  rw [hans]
  have HANS := Lib.hid hans
  clear hans
  go_enter Tryz.func122, Tryz.ntmps122
  go_wp2_with fail
  refine (specStateOk_any _ _ d s _ ((HP.out.below T0.A.K (Nat.le_refl _)).more T0.A.K.size) ((HS.out.below T0.A.K (Nat.le_refl _)).more T0.A.K.size)).mono ?_
  rintro e w1 ⟨rfl, hb⟩
  have T1 := T0.step hb
  have hC := T1.A.C
  have hD := T1.O.C
  clear hb T0
  cases hok : stOkB d s
  · have OKB := Lib.hid hok
    clear hok
    go_wp2
    all_goals (go_ret; exact ⟨ret_bool (by rw [← HANS.out, OKB.out]; rfl), T1.A.K⟩)
  · have OK := Lib.hid (stOkB_iff.1 hok)
    have OKB := Lib.hid hok
    clear hok
    cases hph : (s.ph != 2)
    case true =>
      have HPH : Hid (¬ s.ph = 2) := Lib.hid (by simpa using hph)
      go_wp2
      all_goals (go_ret; exact ⟨ret_bool (by rw [← HANS.out, OKB.out]; simp [mayEvictB, HPH.out]), T1.A.K⟩)
    case false =>
      have HPH : Hid (s.ph = 2) := Lib.hid (by simpa using hph)
      go_wp2_with fail
      refine (in_any _ _ _ _).mono ?_
      rintro e w2 ⟨rfl, rfl⟩
      cases hin : inB a 0 (d.n0 - 1)
      · have HIN := Lib.hid hin
        clear hin
        go_wp2
        all_goals (go_ret; exact ⟨ret_bool (by rw [← HANS.out, OKB.out]; simp [mayEvictB, HIN.out]), T1.A.K⟩)
      · have HIN := Lib.hid hin
        obtain ⟨i, rfl, hi⟩ := index_nat (a := a) (n := d.n0) (by rw [hin]; decide)
        clear hin
        have hlp : i < s.pods.length := by rw [OK.out.np]; exact hi
        obtain ⟨b', off', rfl, hb', hc⟩ := (R0.out.below T1.A.K (Nat.le_refl _)).cell hlp
        have p0 := (hc 0 (by decide)).trans (podCs_at s.pods (i := i) hlp).1
        rw [Nat.add_zero] at p0
        clear hc
        obtain ⟨m, hm, hml⟩ := pod_group OK.out.plan hi
        have HANS2 : Hid (ans = (decide ((podA s.pods i).1 = 0) && decide (d.x1 m < healthyN d s m))) := Lib.hid (by
          rw [← HANS.out, OKB.out, mayEvictB, HIN.out, HPH.out, Int.toNat_natCast, hm, Int.toNat_natCast]
          simp [podAt, podA])
        generalize (podA s.pods i).1 = x at p0 HANS2
        by_cases hx : x = 0
        · subst hx
          obtain ⟨b, off, rfl, hb, q0, -, -, -⟩ := (S0.out.own T1.A).cell4 hi
          obtain ⟨b1_, off1, rfl, hb1, r0⟩ := (S1.out.below T1.A.K (Nat.le_refl _)).cell1 hml
          rw [hm] at q0
          have HG : Hid ((if stOkB d s && inB (m : Int) 0 (d.n1 - 1) then healthyN d s m else -1) = healthyN d s m) := Lib.hid (by
            rw [OKB.out, show inB (m : Int) 0 (d.n1 - 1) = true from by rw [inB_true]; omega]; rfl)
          clear hm HPH
          go_wp2_with fail
          have hlt1 : b1_ < w1.heap.size := Nat.lt_of_lt_of_le hb1 T1.A.K.size
          have Q0 : (∀ o, w1.cell? ⟨w.heap.size, o, none⟩ = (planC (some ⟨b, off, none⟩) (some ⟨b1_, off1, none⟩) P2 P3 d.n0 k0 d.n1 k1 d.n2 k2 d.n3 k3 d.l d.p d.t)[o]?) ∧ (∀ o, w1.cell? ⟨w.heap.size + 1, o, none⟩ = (stC (some ⟨b', off', none⟩) A1 A2 A3 s.pods.length c0 s.mnts.length c1 s.devs.length c2 s.lks.length c3 s.ph s.co s.ck s.bo s.ba s.lb s.gd s.pr)[o]?) ∧ w1.cell? ⟨b1_, off1 + m, none⟩ = some (.int .i64 (d.x1 m)) ∧ Below w1.heap.size w1 w1 := ⟨T1.A.C, T1.O.C, r0, Below.refl _ _⟩
          go_region_held3 (fun w' => (∀ o, w'.cell? ⟨w.heap.size, o, none⟩ = (planC (some ⟨b, off, none⟩) (some ⟨b1_, off1, none⟩) P2 P3 d.n0 k0 d.n1 k1 d.n2 k2 d.n3 k3 d.l d.p d.t)[o]?) ∧ (∀ o, w'.cell? ⟨w.heap.size + 1, o, none⟩ = (stC (some ⟨b', off', none⟩) A1 A2 A3 s.pods.length c0 s.mnts.length c1 s.devs.length c2 s.lks.length c3 s.ph s.co s.ck s.bo s.ba s.lb s.gd s.pr)[o]?) ∧ w'.cell? ⟨b1_, off1 + m, none⟩ = some (.int .i64 (d.x1 m)) ∧ Below w1.heap.size w1 w')
            (first | exact Q2 | exact Q0 | exact ⟨Q0.1, Q0.2.1, Q0.2.2.1, Q0.2.2.2.drew⟩)
            (first
              | (go_at_call 131
                 have K0 : Below w1.heap.size w1 w1.drew := (Below.refl _ _).drew
                 refine (healthyIn_any _ _ d s _ _ ((HP.out.below (T1.step K0).A.K (Nat.le_refl _)).more (T1.step K0).A.K.size) ((HS.out.below (T1.step K0).A.K (Nat.le_refl _)).more (T1.step K0).A.K.size)).mono ?_
                 rw [HG.out]
                 rintro e w3 ⟨rfl, hb3⟩
                 have K1 : Below w1.heap.size w1 w3 := K0.trans hb3
                 have Q2 := And.intro (T1.step K1).A.C (And.intro (T1.step K1).O.C (And.intro ((K1.cell (p := ⟨b1_, off1 + m, none⟩) hlt1).trans r0) K1))))
          have T3 := T1.step K1
          go_wp2
          all_goals (go_ret; exact ⟨ret_bool (by rw [HANS2.out]; simp), T3.A.K⟩)
        · go_wp2
          all_goals (go_ret; exact ⟨ret_bool (by rw [HANS2.out]; simp [hx]), T1.A.K⟩)

set_option maxHeartbeats 1000000 in
theorem l10Phase_any (sv : Value) (s : StD) (f t : Int) (w : World) (hs : IsSt w w.heap.size sv s) :
    Calls Tryz.prog 112 #[sv, .int .i64 f, .int .i64 t] w (RecsA w (phaseD s f t)) := by
  obtain ⟨⟨A0, A1, A2, A3, c0, c1, c2, c3, rfl, -, -, -, -⟩, -, -, -, -⟩ := hs
  obtain ⟨ans, hans⟩ : ∃ ans, phaseD s f t = ans := ⟨_, rfl⟩
  rw [hans]
  have HANS := Lib.hid hans
  clear hans
  have X := Own.box w (stC A0 A1 A2 A3 s.pods.length c0 s.mnts.length c1 s.devs.length c2 s.lks.length c3 s.ph s.co s.ck s.bo s.ba s.lb s.gd s.pr) 34
  cases hph : (s.ph != f)
  · have HPH : Hid (s.ph = f) := Lib.hid (by simpa using hph)
    go_enter Tryz.func112, Tryz.ntmps112
    go_wp2_with fail
    refine (l10One_any 1 t 0 _).mono ?_
    rintro e w9 hR
    obtain ⟨v9, rfl, O9, K9⟩ := hR.back X.K
    go_wp2
    all_goals (go_ret2; rw [← HANS.out, phaseD, if_pos HPH.out]; exact ⟨v9, rfl, O9, K9⟩)
  · have HPH : Hid (¬ s.ph = f) := Lib.hid (by simpa using hph)
    go_enter Tryz.func112, Tryz.ntmps112
    go_wp2_with fail
    refine (l10No_any 3 _).mono ?_
    rintro e w9 hR
    obtain ⟨v9, rfl, O9, K9⟩ := hR.back X.K
    go_wp2
    all_goals (go_ret2; rw [← HANS.out, phaseD, if_neg HPH.out]; exact ⟨v9, rfl, O9, K9⟩)

set_option maxHeartbeats 1000000 in
theorem l10Holds_any (sv : Value) (s : StD) (a : Int) (w : World) (hs : IsSt w w.heap.size sv s) :
    Calls Tryz.prog 124 #[sv, .int .i64 a] w fun e w' => e = .returned (.bool (s.lks.contains a)) ∧ Below w.heap.size w w' := by
  obtain ⟨⟨A0, A1, A2, A3, c0, c1, c2, c3, rfl, -, -, -, t3⟩, -, -, -, f3⟩ := hs
  have R3 := Lib.hid t3
  unfold maxLen at f3
  clear t3
  obtain ⟨ans, hans⟩ : ∃ ans, s.lks.contains a = ans := ⟨_, rfl⟩
  rw [hans]
  have HANS := Lib.hid hans
  clear hans
  have X0 := Own.box w (stC A0 A1 A2 A3 s.pods.length c0 s.mnts.length c1 s.devs.length c2 s.lks.length c3 s.ph s.co s.ck s.bo s.ba s.lb s.gd s.pr) 34
  go_enter Tryz.func124, Tryz.ntmps124
  go_wp2_with fail
  go_loopw [5] (fun j wr => ∃ k : Nat, k ≤ s.lks.length ∧ j = .int .i64 k ∧ (∀ j, j < k → lkA s.lks j ≠ a) ∧ Own w wr w.heap.size (stC A0 A1 A2 A3 s.pods.length c0 s.mnts.length c1 s.devs.length c2 s.lks.length c3 s.ph s.co s.ck s.bo s.ba s.lb s.gd s.pr)) (fun j _ => s.lks.length - (intOf j).toNat)
  case atStart => exact ⟨0, Nat.zero_le _, rfl, fun j hj => absurd hj (by omega), X0⟩
  case round =>
    clear X0
    obtain ⟨k, hk, rfl, hall, X⟩ := hrel
    have HALL := Lib.hid hall
    clear hall
    have hC := X.C
    by_cases hlt : k < s.lks.length
    · obtain ⟨b', off', rfl, hb', hc⟩ := (R3.out.below X.K (Nat.le_refl _)).cell hlt
      have p0 := (hc 0 (by decide)).trans (lkCs_at s.lks (i := k * 1 + 0) (by omega))
      rw [Nat.add_zero, Nat.mul_one] at p0
      clear hc
      have HYES : Hid (lkA s.lks k = a → ans = true) := Lib.hid fun h => by rw [← HANS.out]; exact contains_at hlt h
      have HNO : Hid (lkA s.lks k ≠ a → ∀ j, j < k + 1 → lkA s.lks j ≠ a) := Lib.hid fun h j hj => by
        by_cases e : j = k
        · rw [e]; exact h
        · exact HALL.out j (by omega)
      generalize lkA s.lks k = x at p0 HYES HNO
      cases hx : (x == a)
      · have HX : Hid (x ≠ a) := Lib.hid (by simpa using hx)
        go_wp2
        refine ⟨⟨k + 1, by omega, by go_num, HNO.out HX.out, X⟩, by simp [intOf]; omega⟩
      · have HX : Hid (x = a) := Lib.hid (by simpa using hx)
        go_wp2
        all_goals (go_ret; exact ⟨ret_bool (HYES.out HX.out).symm, X.K⟩)
    · obtain rfl : k = s.lks.length := by omega
      go_wp2
      all_goals (go_ret; exact ⟨ret_bool (by rw [← HANS.out, contains_no HALL.out]), X.K⟩)

end Go.Proofs.YtmgckdmglnmnnaaGreatDoor
/- Zd -/
set_option linter.unusedVariables false
namespace Go.Proofs.YtmgckdmglnmnnaaGreatDoor
open Go.RowKit

/-- The cells of an agent. -/
abbrev agC (p0 p1 p2 p3 : Value) (l p t ph : Int) (co : Bool) (ck bo ba lb : Int) (s0 s1 s2 s3 : Value) (gd pr : Int) (b : Value) : Array Value :=
  #[p0, p1, p2, p3, .int .i64 l, .int .i64 p, .int .i64 t, .int .i64 ph, .bool co, .int .i64 ck, .int .i64 bo, .int .i64 ba, .int .i64 lb, s0, s1, s2, s3, .int .i64 gd, .int .i64 pr, b]
/-- An agent that can be read below block B. -/
structure IsAg (w : World) (B : Nat) (v : Value) (d : PlanD) (s : StD) (st : List Nat) : Prop where
  it : ∃ p0 p1 p2 p3 s0 s1 s2 s3 b, v = .agg (agC p0 p1 p2 p3 d.l d.p d.t s.ph s.co s.ck s.bo s.ba s.lb s0 s1 s2 s3 s.gd s.pr b) ∧ IsPlR w B (.agg #[p0, p1, p2, p3, .int .i64 d.l, .int .i64 d.p, .int .i64 d.t]) d ∧ IsStR w B (.agg #[.int .i64 s.ph, .bool s.co, .int .i64 s.ck, .int .i64 s.bo, .int .i64 s.ba, .int .i64 s.lb, s0, s1, s2, s3, .int .i64 s.gd, .int .i64 s.pr]) s ∧ Bt w B b st ∧ Real b
theorem IsAg.below {w w' : World} {B B' : Nat} {v : Value} {d : PlanD} {s : StD} {st : List Nat} (h : IsAg w B v d s st) (hb : Below B' w w') (hB : B ≤ B') : IsAg w' B v d s st := by
  obtain ⟨p0, p1, p2, p3, s0, s1, s2, s3, b, hv, h0, h1, h2, h3⟩ := h.it
  exact ⟨p0, p1, p2, p3, s0, s1, s2, s3, b, hv, h0.below hb hB, h1.below hb hB, h2.below hb hB, h3⟩
theorem IsAg.more {w : World} {B B' : Nat} {v : Value} {d : PlanD} {s : StD} {st : List Nat} (h : IsAg w B v d s st) (hB : B ≤ B') : IsAg w B' v d s st := by
  obtain ⟨p0, p1, p2, p3, s0, s1, s2, s3, b, hv, h0, h1, h2, h3⟩ := h.it
  exact ⟨p0, p1, p2, p3, s0, s1, s2, s3, b, hv, h0.more hB, h1.more hB, h2.more hB, h3⟩
theorem IsAg.go {w w' : World} {v : Value} {d : PlanD} {s : StD} {st : List Nat} (h : IsAg w w.heap.size v d s st) (hb : Below w.heap.size w w') : IsAg w' w'.heap.size v d s st := (h.below hb (Nat.le_refl _)).more hb.size
/-- Two rows of one type lie in blocks of their own. -/
def Apart (u v : Value) : Prop := ∀ r, u.ownBlock = some r → v.ownBlock = some r → False
/-- An agent of the call's own. -/
structure OwnAg (w : World) (B : Nat) (v : Value) (d : PlanD) (s : StD) (st : List Nat) : Prop where
  it : ∃ p0 p1 p2 p3 s0 s1 s2 s3 b, v = .agg (agC p0 p1 p2 p3 d.l d.p d.t s.ph s.co s.ck s.bo s.ba s.lb s0 s1 s2 s3 s.gd s.pr b) ∧ Lists w B p0 p1 p2 p3 d ∧ OwnSt w B (.agg #[.int .i64 s.ph, .bool s.co, .int .i64 s.ck, .int .i64 s.bo, .int .i64 s.ba, .int .i64 s.lb, s0, s1, s2, s3, .int .i64 s.gd, .int .i64 s.pr]) s ∧ OB w B b st ∧ Apart p1 s3
theorem OwnAg.below {w w' : World} {B : Nat} {v : Value} {d : PlanD} {s : StD} {st : List Nat} (h : OwnAg w B v d s st) (hb : Below w.heap.size w w') : OwnAg w' B v d s st := by
  obtain ⟨p0, p1, p2, p3, s0, s1, s2, s3, b, hv, h0, h1, h2, h4⟩ := h.it
  exact ⟨p0, p1, p2, p3, s0, s1, s2, s3, b, hv, h0.below hb, h1.below hb, h2.below hb, h4⟩
theorem OwnAg.base {w : World} {B B' : Nat} {v : Value} {d : PlanD} {s : StD} {st : List Nat} (h : OwnAg w B v d s st) (hB : B' ≤ B) : OwnAg w B' v d s st := by
  obtain ⟨p0, p1, p2, p3, s0, s1, s2, s3, b, hv, h0, h1, h2, h4⟩ := h.it
  exact ⟨p0, p1, p2, p3, s0, s1, s2, s3, b, hv, h0.base hB, h1.base hB, h2.base hB, h4⟩
theorem OwnAg.is {w : World} {B : Nat} {v : Value} {d : PlanD} {s : StD} {st : List Nat} (h : OwnAg w B v d s st) (hd : PlFits d) (hs : StFits s 1048576) : IsAg w w.heap.size v d s st := by
  obtain ⟨p0, p1, p2, p3, s0, s1, s2, s3, b, hv, h0, h1, h2, h4⟩ := h.it
  exact ⟨p0, p1, p2, p3, s0, s1, s2, s3, b, hv, h0.plR hd, h1.isR hs, h2.bt, h2.real⟩
theorem row_grown {w w' : World} {B e k n B' e' k' n' : Nat} {v v' : Value} {xs xs' : List Value} (h : w.ownsRow B e k v n xs) (h' : w.ownsRow B' e' k' v' n' xs') (hne : e' ≠ e) (hg : w.grownBy w' v'.ownBlock) : w'.ownsRow B e k v n xs :=
  ownsRow_keeps (S := fun b => v'.ownBlock = some b) h ⟨hg.os, hg.tape, hg.output, hg.size, fun b hb hn => hg.block b hb fun e => hn e.symm⟩ fun r hr hs => hne (row_type h' h hs hr)
theorem Lists.grown {w w' : World} {B B' : Nat} {v0 v1 v2 v3 u : Value} {d : PlanD} {M : List Nat} (h : Lists w B v0 v1 v2 v3 d) (h' : OB w B' u M) (hg : w.grownBy w' u.ownBlock) : Lists w' B v0 v1 v2 v3 d := by
  obtain ⟨⟨a, ha, ha'⟩, ⟨b, hb1, hb2⟩, ⟨c, hc, hc'⟩, ⟨e, he, he'⟩⟩ := h
  exact ⟨⟨a, row_grown ha h'.own (by decide) hg, ha'⟩, ⟨b, row_grown hb1 h'.own (by decide) hg, hb2⟩, ⟨c, row_grown hc h'.own (by decide) hg, hc'⟩, ⟨e, row_grown he h'.own (by decide) hg, he'⟩⟩
theorem OwnSt.grown {w w' : World} {B B' : Nat} {v u : Value} {s : StD} {M : List Nat} (h : OwnSt w B v s) (h' : OB w B' u M) (hg : w.grownBy w' u.ownBlock) : OwnSt w' B v s := by
  obtain ⟨v0, v1, v2, v3, hv, h0, h1, h2, h3⟩ := h.it
  exact ⟨v0, v1, v2, v3, hv, row_grown h0 h'.own (by decide) hg, row_grown h1 h'.own (by decide) hg, row_grown h2 h'.own (by decide) hg, row_grown h3 h'.own (by decide) hg⟩
theorem OI.lt {w : World} {B e k n : Nat} {v : Value} {x : Nat → Int} (h : OI w B e k v n x) {r : Nat} (hr : v.ownBlock = some r) : r < w.heap.size := by
  obtain ⟨cs, hb⟩ := h.block hr
  exact (Array.getElem?_eq_some_iff.1 hb).1
theorem apart_of {w W : World} {B e k n e' k' n' : Nat} {u v : Value} {x : Nat → Int} {xs : List Value} (h : OI w B e k u n x) (h' : W.ownsRow w.heap.size e' k' v n' xs) : Apart u v := fun r h1 h2 => by
  have := h.lt h1
  have := (h'.lt r h2).1
  omega
/-- A world reached from the one at hand. -/
def From {w wc : World} (_ : Below w.heap.size w wc) (W : World) : Prop := Below wc.heap.size wc W
abbrev endOf {w wc : World} (_ : Below w.heap.size w wc) : World := wc
theorem From.same {w wc : World} (K : Below w.heap.size w wc) : From K wc := Below.refl _ _
theorem From.drew {w wc : World} (K : Below w.heap.size w wc) : From K wc.drew := (Below.refl _ _).drew
theorem From.alloc {w wc : World} (K : Below w.heap.size w wc) (ob : Obj) : From K (wc.alloc ob) := (Below.refl _ _).alloc (Nat.le_refl _) ob
theorem From.it {w wc W : World} {K : Below w.heap.size w wc} (h : From K W) : Below wc.heap.size wc W := h
theorem From.all {w wc W : World} {K : Below w.heap.size w wc} (h : From K W) : Below w.heap.size w W := K.trans ((From.it h).mono K.size)
theorem calls_from {P : Program} {f : FuncId} {args : Array Value} {Q : Ending → World → Prop} {W : World} (R : World → Prop) (h : R W) (k : ∀ W', R W' → Calls P f args W' Q) : Calls P f args W Q := k W h
theorem step_from {P : Program} {ops : Array Oper} {o : Oper} {a : Act} {K : Act → World → Prop} {Q : Exit → Act → World → Prop} {W : World} (R : World → Prop) (h : R W)
    (k : ∀ W', R W' → if Region.wanted o (yielded ops a.tmps) = true then Oper.wp P o a W' K Q else K (a.put o.dst undef) W') : if Region.wanted o (yielded ops a.tmps) = true then Oper.wp P o a W K Q else K (a.put o.dst undef) W := k W h
theorem cell_far {W : World} {p : Addr} {v : Value} {g o : Nat} (h : p.block ≠ g) : (W.setCell p v).cell? ⟨g, o, none⟩ = W.cell? ⟨g, o, none⟩ := World.cell?_setCell_other _ _ _ _ (fun e => h (by rw [e]))
section
variable (W : World) (g : Nat) (x0 x1 x2 x3 x4 x5 x6 x7 x8 x9 x10 x11 x12 x13 x14 x15 x16 x17 x18 x19 : Value)
end
/-- At a step of a region that draws: bytes that lie somewhere appended to bytes of the call's own. -/
theorem step_append_bt {w : World} {ops : Array Oper} {o : Oper} {a : Act} {K : Act → World → Prop} {Q : Exit → Act → World → Prop} {E : Prop} (hgd : o.guard = none) (s x : Operand)
    (ho : o.op = .call { callee := .builtin .append, args := #[s, x], argTypes := #[22, 22] }) (base : Nat) (v : Value) (M : List Nat) (hs : a.eval s = v) (hown : OB w base v M)
    (u : Value) (L : List Nat) (hx : a.eval x = u) {B : Nat} (hb : Bt w B u L) (hr : Real u) (hlen : M.length + L.length ≤ 8388608) (hbase : base ≤ w.heap.size)
    (h : ∀ v' w', OB w' base v' (M ++ L) → w.grownBy w' v.ownBlock → K (a.put o.dst v') w') : if Region.wanted o (yielded ops a.tmps) = true then Oper.wp Tryz.prog o a w K Q else E := by
  have hw : Region.wanted o (yielded ops a.tmps) = true := by simp [Region.wanted, hgd]
  rw [if_pos hw]
  obtain ⟨i0, hi, hz0, hz1, hz2⟩ := info_parts info_u8
  rcases hr with rfl | ⟨ad, m, c, rfl⟩
  · have hL : L = [] := List.eq_nil_of_length_eq_zero hb.slice_len.1
    subst hL
    have hrun := run_append_owned_none (P := Tryz.prog) (w := w) base 22 o.type 5 i0 1 Tryz.underlying22 hi v M.length _ hown.own
    unfold Oper.wp
    simp [execOp, ho, resolve, invoke, builtin, hs, hx, hrun, Result.andThen]
    exact h v w (by rw [List.append_nil]; exact hown) ⟨rfl, rfl, rfl, Nat.le_refl _, fun _ _ _ => rfl⟩
  · obtain ⟨hm, hmc⟩ := hb.slice_len
    refine wp_append_own w s x 22 ho base 5 i0 (.int .u8 0) 1 1 Tryz.underlying22 hi hz0 hz1 hz2 rfl (by decide) v M.length _ hs hown.own ad m c (L.map byteV) hx (by rw [List.length_map, hm, Nat.mul_one]) ?_ one_bytes (by unfold maxLen; omega) (by omega) hbase ?_
    · intro j y hy
      have hj : j < L.length := by
        have := (List.getElem?_eq_some_iff.1 hy).1
        simpa using this
      rw [byteV_get hj] at hy
      cases hy
      obtain ⟨b, off, e, hb1, q⟩ := hb.cell hj
      cases e
      have ha : (⟨b, off, none⟩ : Addr).add j = ⟨b, off + j, none⟩ := by unfold Addr.add; split <;> simp_all
      rw [ha]
      exact q
    · intro v' w' h1 h2 _
      exact h v' w' ⟨by rw [List.length_append, List.map_append, hm]; exact h1, hown.small.append hb.small⟩ h2
end Go.Proofs.YtmgckdmglnmnnaaGreatDoor
/- Xe -/
set_option linter.unusedVariables false
namespace Go.Proofs.YtmgckdmglnmnnaaGreatDoor
open Go.RowKit

/-- A state in a box, the call's own, its lists as well. -/
def BxS (w : World) (B g : Nat) (v : Value) (s : StD) : Prop := OwnSt w B v s ∧ ∃ cs : Array Value, v = .agg cs ∧ BoxS w B g cs.toList
/-- What a change answers. -/
def Chg (w : World) (B g : Nat) (v : Value) (t : StD) (e : Ending) (w' : World) : Prop := e = .returned (.tuple #[]) ∧ (∃ v', BxS w' B g v' t) ∧ Keeps (fun b => b = g ∨ rowsOf v b) w w'
theorem keep_other {w w' : World} {B B' e e' k k' n n' g : Nat} {v v' : Value} {xs xs' : List Value} (h : w.ownsRow B e k v n xs) (h' : w.ownsRow B' e' k' v' n' xs') (hv' : v'.ownBlock = some g) (hne : e ≠ e') (kp : Keeps (· = g) w w') : w'.ownsRow B e k v n xs :=
  ownsRow_keeps h kp fun r hr e => hne (row_type h h' (e ▸ hr) hv')
theorem keeps_set (w : World) (g o : Nat) (u : Value) : Keeps (· = g) w (w.setCell ⟨g, o, none⟩ u) := (Keeps.refl (· = g) w).set rfl u
theorem box_apart {w : World} {B B' e k n g : Nat} {v : Value} {xs xs' : List Value} (h : w.ownsRow B e k v n xs) (X : BoxS w B' g xs') (hne : e ≠ 34) : v.ownBlock ≠ some g := fun hv => hne (row_type h X hv rfl)

set_option maxRecDepth 4000 in
set_option maxHeartbeats 2000000 in
theorem chg_clock (v : Value) (s : StD) (a b : Int) (w : World) (B g : Nat) (h : BxS w B g v s) :
    Calls Tryz.prog 50 #[.pointer (some ⟨g, 0, none⟩), .int .i64 a, .int .i64 b] w (Chg w B g v (applyR s ⟨8, a, b⟩)) := by
  obtain ⟨O, cs, hv, X⟩ := h
  obtain ⟨v0, v1, v2, v3, rfl, h0, h1, h2, h3⟩ := O.it
  injection hv with hv
  subst hv
  have H0 := Lib.hid h0
  have H1 := Lib.hid h1
  have H2 := Lib.hid h2
  have H3 := Lib.hid h3
  have HX := Lib.hid X
  have hC := X.C
  have hF := X.frozen
  obtain ⟨ph, co, ck, bo, ba, lb, l0, l1, l2, l3, gd, pr⟩ := s
  dsimp only at *
  clear X O h0 h1 h2 h3
  go_enter Tryz.func50, Tryz.ntmps50
  go_wp2
  refine bodyPost_ret (v := .tuple #[]) (by simp [results, Tryz.results50, go_sem]) rfl ?_
  have X0 := HX.out
  have k0 := Keeps.refl (· = g) w
  have X1 := (World.ownsRow.stored X0 2 (.int .i64 a)).1
  have k1 := k0.set (p := ⟨g, 2, none⟩) rfl (.int .i64 a)
  refine ⟨rfl, ⟨_, ⟨v0, v1, v2, v3, rfl, keep_other H0.out HX.out rfl (by decide) k1, keep_other H1.out HX.out rfl (by decide) k1, keep_other H2.out HX.out rfl (by decide) k1, keep_other H3.out HX.out rfl (by decide) k1⟩, _, rfl, X1⟩, k1.mono fun b hb => Or.inl hb⟩

set_option maxRecDepth 4000 in
set_option maxHeartbeats 2000000 in
theorem chg_band (v : Value) (s : StD) (a b : Int) (w : World) (B g : Nat) (h : BxS w B g v s) :
    Calls Tryz.prog 51 #[.pointer (some ⟨g, 0, none⟩), .int .i64 a, .int .i64 b] w (Chg w B g v (applyR s ⟨9, a, b⟩)) := by
  obtain ⟨O, cs, hv, X⟩ := h
  obtain ⟨v0, v1, v2, v3, rfl, h0, h1, h2, h3⟩ := O.it
  injection hv with hv
  subst hv
  have H0 := Lib.hid h0
  have H1 := Lib.hid h1
  have H2 := Lib.hid h2
  have H3 := Lib.hid h3
  have HX := Lib.hid X
  have hC := X.C
  have hF := X.frozen
  obtain ⟨ph, co, ck, bo, ba, lb, l0, l1, l2, l3, gd, pr⟩ := s
  dsimp only at *
  clear X O h0 h1 h2 h3
  go_enter Tryz.func51, Tryz.ntmps51
  go_wp2
  refine bodyPost_ret (v := .tuple #[]) (by simp [results, Tryz.results51, go_sem]) rfl ?_
  have X0 := HX.out
  have k0 := Keeps.refl (· = g) w
  have X1 := (World.ownsRow.stored X0 4 (.int .i64 a)).1
  have k1 := k0.set (p := ⟨g, 4, none⟩) rfl (.int .i64 a)
  refine ⟨rfl, ⟨_, ⟨v0, v1, v2, v3, rfl, keep_other H0.out HX.out rfl (by decide) k1, keep_other H1.out HX.out rfl (by decide) k1, keep_other H2.out HX.out rfl (by decide) k1, keep_other H3.out HX.out rfl (by decide) k1⟩, _, rfl, X1⟩, k1.mono fun b hb => Or.inl hb⟩

set_option maxRecDepth 4000 in
set_option maxHeartbeats 2000000 in
theorem chg_boot (v : Value) (s : StD) (a b : Int) (w : World) (B g : Nat) (h : BxS w B g v s) :
    Calls Tryz.prog 52 #[.pointer (some ⟨g, 0, none⟩), .int .i64 a, .int .i64 b] w (Chg w B g v (applyR s ⟨10, a, b⟩)) := by
  obtain ⟨O, cs, hv, X⟩ := h
  obtain ⟨v0, v1, v2, v3, rfl, h0, h1, h2, h3⟩ := O.it
  injection hv with hv
  subst hv
  have H0 := Lib.hid h0
  have H1 := Lib.hid h1
  have H2 := Lib.hid h2
  have H3 := Lib.hid h3
  have HX := Lib.hid X
  have hC := X.C
  have hF := X.frozen
  obtain ⟨ph, co, ck, bo, ba, lb, l0, l1, l2, l3, gd, pr⟩ := s
  dsimp only at *
  clear X O h0 h1 h2 h3
  go_enter Tryz.func52, Tryz.ntmps52
  go_wp2
  refine bodyPost_ret (v := .tuple #[]) (by simp [results, Tryz.results52, go_sem]) rfl ?_
  have X0 := HX.out
  have k0 := Keeps.refl (· = g) w
  have X1 := (World.ownsRow.stored X0 3 (.int .i64 a)).1
  have k1 := k0.set (p := ⟨g, 3, none⟩) rfl (.int .i64 a)
  refine ⟨rfl, ⟨_, ⟨v0, v1, v2, v3, rfl, keep_other H0.out HX.out rfl (by decide) k1, keep_other H1.out HX.out rfl (by decide) k1, keep_other H2.out HX.out rfl (by decide) k1, keep_other H3.out HX.out rfl (by decide) k1⟩, _, rfl, X1⟩, k1.mono fun b hb => Or.inl hb⟩

set_option maxRecDepth 4000 in
set_option maxHeartbeats 2000000 in
theorem chg_lockBy (v : Value) (s : StD) (a b : Int) (w : World) (B g : Nat) (h : BxS w B g v s) :
    Calls Tryz.prog 53 #[.pointer (some ⟨g, 0, none⟩), .int .i64 a, .int .i64 b] w (Chg w B g v (applyR s ⟨11, a, b⟩)) := by
  obtain ⟨O, cs, hv, X⟩ := h
  obtain ⟨v0, v1, v2, v3, rfl, h0, h1, h2, h3⟩ := O.it
  injection hv with hv
  subst hv
  have H0 := Lib.hid h0
  have H1 := Lib.hid h1
  have H2 := Lib.hid h2
  have H3 := Lib.hid h3
  have HX := Lib.hid X
  have hC := X.C
  have hF := X.frozen
  obtain ⟨ph, co, ck, bo, ba, lb, l0, l1, l2, l3, gd, pr⟩ := s
  dsimp only at *
  clear X O h0 h1 h2 h3
  go_enter Tryz.func53, Tryz.ntmps53
  go_wp2
  refine bodyPost_ret (v := .tuple #[]) (by simp [results, Tryz.results53, go_sem]) rfl ?_
  have X0 := HX.out
  have k0 := Keeps.refl (· = g) w
  have X1 := (World.ownsRow.stored X0 5 (.int .i64 a)).1
  have k1 := k0.set (p := ⟨g, 5, none⟩) rfl (.int .i64 a)
  refine ⟨rfl, ⟨_, ⟨v0, v1, v2, v3, rfl, keep_other H0.out HX.out rfl (by decide) k1, keep_other H1.out HX.out rfl (by decide) k1, keep_other H2.out HX.out rfl (by decide) k1, keep_other H3.out HX.out rfl (by decide) k1⟩, _, rfl, X1⟩, k1.mono fun b hb => Or.inl hb⟩

set_option maxRecDepth 4000 in
set_option maxHeartbeats 2000000 in
theorem chg_probe (v : Value) (s : StD) (a b : Int) (w : World) (B g : Nat) (h : BxS w B g v s) :
    Calls Tryz.prog 54 #[.pointer (some ⟨g, 0, none⟩), .int .i64 a, .int .i64 b] w (Chg w B g v (applyR s ⟨12, a, b⟩)) := by
  obtain ⟨O, cs, hv, X⟩ := h
  obtain ⟨v0, v1, v2, v3, rfl, h0, h1, h2, h3⟩ := O.it
  injection hv with hv
  subst hv
  have H0 := Lib.hid h0
  have H1 := Lib.hid h1
  have H2 := Lib.hid h2
  have H3 := Lib.hid h3
  have HX := Lib.hid X
  have hC := X.C
  have hF := X.frozen
  obtain ⟨ph, co, ck, bo, ba, lb, l0, l1, l2, l3, gd, pr⟩ := s
  dsimp only at *
  clear X O h0 h1 h2 h3
  go_enter Tryz.func54, Tryz.ntmps54
  go_wp2
  refine bodyPost_ret (v := .tuple #[]) (by simp [results, Tryz.results54, go_sem]) rfl ?_
  have X0 := HX.out
  have k0 := Keeps.refl (· = g) w
  have X1 := (World.ownsRow.stored X0 10 (.int .i64 a)).1
  have k1 := k0.set (p := ⟨g, 10, none⟩) rfl (.int .i64 a)
  have X2 := (World.ownsRow.stored X1 11 (.int .i64 b)).1
  have k2 := k1.set (p := ⟨g, 11, none⟩) rfl (.int .i64 b)
  refine ⟨rfl, ⟨_, ⟨v0, v1, v2, v3, rfl, keep_other H0.out HX.out rfl (by decide) k2, keep_other H1.out HX.out rfl (by decide) k2, keep_other H2.out HX.out rfl (by decide) k2, keep_other H3.out HX.out rfl (by decide) k2⟩, _, rfl, X2⟩, k2.mono fun b hb => Or.inl hb⟩
end Go.Proofs.YtmgckdmglnmnnaaGreatDoor
