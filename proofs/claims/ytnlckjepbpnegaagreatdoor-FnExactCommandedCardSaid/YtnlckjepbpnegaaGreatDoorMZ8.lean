/-
  The program's chapter 8: leftIn, a map that pods are struck out of; HealthyIn, MayEvict.
-/
import Derived.Test.YtnlckjepbpnegaaGreatDoorMZ6
import Derived.Test.YtnlckjepbpnegaaGreatDoorMZxUi
import Derived.Test.YtnlckjepbpnegaaGreatDoorMZ3
import Derived.Deep.RegionHeld3
import Derived.Deep.RegionLaw
import Derived.StillTailTactics
import Derived.Test.YtnlckjepbpnegaaGreatDoorMZ2
import Derived.BigQuiet
import Derived.Test.YtnlckjepbpnegaaGreatDoorMZ5
import Derived.Test.YtnlckjepbpnegaaGreatDoorMZ4
import Derived.Test.YtnlckjepbpnegaaGreatDoorMZ7
/- Wc -/
set_option linter.unusedVariables false
namespace Go.Proofs.YtnlckjepbpnegaaGreatDoor
open Go.RowKit

end Go.Proofs.YtnlckjepbpnegaaGreatDoor
/- We -/
set_option linter.unusedVariables false
namespace Go.Proofs.YtnlckjepbpnegaaGreatDoor
open Go.RowKit

def hP (d : PlanD) (s : StD) (g : Int) (i : Nat) : Bool := decide (d.x0 (i * 4) = g) && decide ((podA s.pods i).1 = 0)
theorem healthyN_count (d : PlanD) (s : StD) (g : Int) : healthyN d s g = ((List.range d.n0).countP (hP d s g) : Nat) := rfl
theorem count_next (p : Nat → Bool) (k : Nat) : (List.range (k + 1)).countP p = (List.range k).countP p + if p k then 1 else 0 := by
  rw [List.range_succ, List.countP_append]
  simp [List.countP_cons]
theorem count_le (p : Nat → Bool) (k : Nat) : (List.range k).countP p ≤ k := by
  have := List.countP_le_length (p := p) (l := List.range k)
  simpa using this
theorem pod_group {d : PlanD} (h : planOkB d = true) {i : Nat} (hi : i < d.n0) : ∃ m : Nat, d.x0 (i * 4) = m ∧ m < d.n1 := by
  simp only [planOkB, Bool.and_eq_true] at h
  obtain ⟨⟨⟨⟨-, hm⟩, -⟩, -⟩, -⟩ := h
  have := allB_true.1 hm i hi
  simp only [podB, Bool.and_eq_true, inB_true] at this
  exact ⟨(d.x0 (i * 4)).toNat, by omega, by omega⟩

set_option maxRecDepth 4000 in
set_option maxHeartbeats 4000000 in
theorem healthyIn_any (pv sv : Value) (d : PlanD) (s : StD) (g : Int) (w : World) (hp : IsPlan w w.heap.size pv d) (hs : IsSt w w.heap.size sv s) :
    Calls Tryz.prog 86 #[pv, sv, .int .i64 g] w fun e w' => e = .returned (.int .i64 (if stOkB d s && inB g 0 (d.n1 - 1) then healthyN d s g else -1)) ∧ Below w.heap.size w w' := by
  have HP := Lib.hid hp
  have HS := Lib.hid hs
  obtain ⟨⟨P0, P1, P2, P3, k0, k1, k2, k3, rfl, s0, s1, s2, s3⟩, b0, b1, b2, b3⟩ := hp
  obtain ⟨⟨A0, A1, A2, A3, c0, c1, c2, c3, rfl, t0, t1, t2, t3⟩, f0, f1, f2, f3⟩ := hs
  have S0 := Lib.hid s0
  have S1 := Lib.hid s1
  have S2 := Lib.hid s2
  have S3 := Lib.hid s3
  have R0 := Lib.hid t0
  have R1 := Lib.hid t1
  have R2 := Lib.hid t2
  have R3 := Lib.hid t3
  unfold maxLen at b0 b1 b2 b3 f0 f1 f2 f3
  clear s0 s1 s2 s3 t0 t1 t2 t3
  have T0 := Two.start w (planC P0 P1 P2 P3 d.n0 k0 d.n1 k1 d.n2 k2 d.n3 k3 d.l d.p d.t) (stC A0 A1 A2 A3 s.pods.length c0 s.mnts.length c1 s.devs.length c2 s.lks.length c3 s.ph s.co s.ck s.bo s.ba s.lb s.gd s.pr) 42 47
  obtain ⟨ans, hans⟩ : ∃ ans, (if stOkB d s && inB g 0 (d.n1 - 1) then healthyN d s g else -1) = ans := ⟨_, rfl⟩
  rw [hans]
  have HANS := Lib.hid hans
  clear hans
  go_enter Tryz.func86, Tryz.ntmps86
  go_wp2_with fail
  refine (specStateOk_any _ _ d s _ ((HP.out.below T0.A.K (Nat.le_refl _)).more T0.A.K.size) ((HS.out.below T0.A.K (Nat.le_refl _)).more T0.A.K.size)).mono ?_
  rintro e w1 ⟨rfl, hb⟩
  have T1 := T0.step hb
  have hC := T1.A.C
  clear hb T0
  cases hok : stOkB d s
  · have OKB := Lib.hid hok
    clear hok
    go_wp2
    all_goals (go_ret; exact ⟨ret_int (by rw [← HANS.out, OKB.out]; rfl), T1.A.K⟩)
  · have OK := Lib.hid (stOkB_iff.1 hok)
    have OKB := Lib.hid hok
    clear hok
    go_wp2_with fail
    refine (in_any _ _ _ _).mono ?_
    rintro e w2 ⟨rfl, rfl⟩
    cases hin : inB g 0 (d.n1 - 1)
    · have HIN := Lib.hid hin
      clear hin
      go_wp2
      all_goals (go_ret; exact ⟨ret_int (by rw [← HANS.out, OKB.out, HIN.out]; rfl), T1.A.K⟩)
    · have HIN := Lib.hid hin
      clear hin
      go_wp2_with fail
      go_loopw [7, 8] (fun n i wr => ∃ k : Nat, k ≤ d.n0 ∧ i = .int .i64 k ∧ n = .int .i64 ((List.range k).countP (hP d s g) : Nat) ∧ Two w wr (planC P0 P1 P2 P3 d.n0 k0 d.n1 k1 d.n2 k2 d.n3 k3 d.l d.p d.t) (stC A0 A1 A2 A3 s.pods.length c0 s.mnts.length c1 s.devs.length c2 s.lks.length c3 s.ph s.co s.ck s.bo s.ba s.lb s.gd s.pr)) (fun _ i _ => d.n0 - (intOf i).toNat)
      case atStart => exact ⟨0, Nat.zero_le _, rfl, rfl, T1⟩
      case round =>
        clear hC T1
        obtain ⟨k, hk, rfl, rfl, T⟩ := hrel
        have hC := T.A.C
        have hD := T.O.C
        by_cases hlt : k < d.n0
        · obtain ⟨b, off, rfl, hb, q0, -, -, -⟩ := (S0.out.own T.A).cell4 hlt
          have hlp : k < s.pods.length := by rw [OK.out.np]; exact hlt
          obtain ⟨b', off', rfl, hb', hc⟩ := (R0.out.below T.A.K (Nat.le_refl _)).cell hlp
          have p0 := (hc 0 (by decide)).trans (podCs_at s.pods (i := k) hlp).1
          rw [Nat.add_zero] at p0
          clear hc
          have hle := count_le (hP d s g) k
          have CN := Lib.hid (count_next (hP d s g) k)
          have CP : Hid (hP d s g k = (decide (d.x0 (k * 4) = g) && decide ((podA s.pods k).1 = 0))) := Lib.hid rfl
          generalize (List.range k).countP (hP d s g) = m at CN hle ⊢
          generalize hP d s g k = hp at CP CN
          generalize podA s.pods k = r at p0 CP
          obtain ⟨x, y⟩ := r
          dsimp only at p0 CP
          cases hv : (d.x0 (k * 4) == g)
          · have CF : Hid (hp = false) := Lib.hid (by rw [CP.out]; simp at hv; simp [hv])
            go_wp2
            refine ⟨⟨k + 1, by omega, by go_num, by rw [CN.out, CF.out]; rfl, T⟩, by simp [intOf]; omega⟩
          · by_cases hx : x = 0
            · have CF : Hid (hp = true) := Lib.hid (by rw [CP.out]; simp at hv; simp [hv, hx])
              subst hx
              go_wp2
              refine ⟨⟨k + 1, by omega, by go_num, by rw [CN.out, CF.out]; go_num, T⟩, by simp [intOf]; omega⟩
            · have CF : Hid (hp = false) := Lib.hid (by rw [CP.out]; simp [hx])
              go_wp2
              refine ⟨⟨k + 1, by omega, by go_num, by rw [CN.out, CF.out]; rfl, T⟩, by simp [intOf]; omega⟩
        · obtain rfl : k = d.n0 := by omega
          go_wp2
          all_goals (go_ret; exact ⟨ret_int (by rw [← HANS.out, OKB.out, HIN.out]; rfl), T.A.K⟩)

end Go.Proofs.YtnlckjepbpnegaaGreatDoor
/- Wf -/
set_option linter.unusedVariables false
namespace Go.Proofs.YtnlckjepbpnegaaGreatDoor
open Go.RowKit

theorem Two.drewN {w w1 : World} {cs os : Array Value} (h : Two w w1 cs os) (n : Nat) : Two w (w1.drewN n) cs os := ⟨h.A.drewN n, h.O.drewN n⟩
end Go.Proofs.YtnlckjepbpnegaaGreatDoor
/- Wg -/
set_option linter.unusedVariables false
namespace Go.Proofs.YtnlckjepbpnegaaGreatDoor
open Go.RowKit

theorem contains_at {l : List Int} {j : Nat} {a : Int} (hj : j < l.length) (h : lkA l j = a) : l.contains a = true := by
  subst h
  simp [lkA, List.getD, List.getElem?_eq_getElem hj]
theorem contains_no {l : List Int} {a : Int} (h : ∀ j, j < l.length → lkA l j ≠ a) : l.contains a = false := by
  rw [Bool.eq_false_iff]
  intro hc
  rw [List.contains_iff_mem, List.mem_iff_getElem] at hc
  obtain ⟨j, hj, e⟩ := hc
  exact h j hj (by simp [lkA, List.getD, List.getElem?_eq_getElem hj, e])
set_option maxRecDepth 4000 in
set_option maxHeartbeats 4000000 in
theorem mayEvict_any (pv sv : Value) (d : PlanD) (s : StD) (a : Int) (w : World) (hp : IsPlan w w.heap.size pv d) (hs : IsSt w w.heap.size sv s) :
    Calls Tryz.prog 62 #[pv, sv, .int .i64 a] w fun e w' => e = .returned (.bool (stOkB d s && mayEvictB d s a)) ∧ Below w.heap.size w w' := by
  have HP := Lib.hid hp
  have HS := Lib.hid hs
  obtain ⟨⟨P0, P1, P2, P3, k0, k1, k2, k3, rfl, s0, s1, s2, s3⟩, b0, b1, b2, b3⟩ := hp
  obtain ⟨⟨A0, A1, A2, A3, c0, c1, c2, c3, rfl, t0, t1, t2, t3⟩, f0, f1, f2, f3⟩ := hs
  have S0 := Lib.hid s0
  have S1 := Lib.hid s1
  have S2 := Lib.hid s2
  have S3 := Lib.hid s3
  have R0 := Lib.hid t0
  have R1 := Lib.hid t1
  have R2 := Lib.hid t2
  have R3 := Lib.hid t3
  unfold maxLen at b0 b1 b2 b3 f0 f1 f2 f3
  clear s0 s1 s2 s3 t0 t1 t2 t3
  have T0 := Two.start w (planC P0 P1 P2 P3 d.n0 k0 d.n1 k1 d.n2 k2 d.n3 k3 d.l d.p d.t) (stC A0 A1 A2 A3 s.pods.length c0 s.mnts.length c1 s.devs.length c2 s.lks.length c3 s.ph s.co s.ck s.bo s.ba s.lb s.gd s.pr) 42 47
  obtain ⟨ans, hans⟩ : ∃ ans, (stOkB d s && mayEvictB d s a) = ans := ⟨_, rfl⟩
  rw [hans]
  have HANS := Lib.hid hans
  clear hans
  go_enter Tryz.func62, Tryz.ntmps62
  go_wp2_with fail
  refine (specStateOk_any _ _ d s _ ((HP.out.below T0.A.K (Nat.le_refl _)).more T0.A.K.size) ((HS.out.below T0.A.K (Nat.le_refl _)).more T0.A.K.size)).mono ?_
  rintro e w1 ⟨rfl, hb⟩
  have T1 := T0.step hb
  have hC := T1.A.C
  have hD := T1.O.C
  clear hb T0
  cases hok : stOkB d s
  · have OKB := Lib.hid hok
    clear hok
    go_wp2
    all_goals (go_ret; exact ⟨ret_bool (by rw [← HANS.out, OKB.out]; rfl), T1.A.K⟩)
  · have OK := Lib.hid (stOkB_iff.1 hok)
    have OKB := Lib.hid hok
    clear hok
    cases hph : (s.ph != 2)
    case true =>
      have HPH : Hid (¬ s.ph = 2) := Lib.hid (by simpa using hph)
      go_wp2
      all_goals (go_ret; exact ⟨ret_bool (by rw [← HANS.out, OKB.out]; simp [mayEvictB, HPH.out]), T1.A.K⟩)
    case false =>
      have HPH : Hid (s.ph = 2) := Lib.hid (by simpa using hph)
      go_wp2_with fail
      refine (in_any _ _ _ _).mono ?_
      rintro e w2 ⟨rfl, rfl⟩
      cases hin : inB a 0 (d.n0 - 1)
      · have HIN := Lib.hid hin
        clear hin
        go_wp2
        all_goals (go_ret; exact ⟨ret_bool (by rw [← HANS.out, OKB.out]; simp [mayEvictB, HIN.out]), T1.A.K⟩)
      · have HIN := Lib.hid hin
        obtain ⟨i, rfl, hi⟩ := index_nat (a := a) (n := d.n0) (by rw [hin]; decide)
        clear hin
        have hlp : i < s.pods.length := by rw [OK.out.np]; exact hi
        obtain ⟨b', off', rfl, hb', hc⟩ := (R0.out.below T1.A.K (Nat.le_refl _)).cell hlp
        have p0 := (hc 0 (by decide)).trans (podCs_at s.pods (i := i) hlp).1
        rw [Nat.add_zero] at p0
        clear hc
        obtain ⟨m, hm, hml⟩ := pod_group OK.out.plan hi
        have HANS2 : Hid (ans = (decide ((podA s.pods i).1 = 0) && decide (d.x1 m < healthyN d s m))) := Lib.hid (by
          rw [← HANS.out, OKB.out, mayEvictB, HIN.out, HPH.out, Int.toNat_natCast, hm, Int.toNat_natCast]
          simp [podAt, podA])
        generalize (podA s.pods i).1 = x at p0 HANS2
        by_cases hx : x = 0
        · subst hx
          obtain ⟨b, off, rfl, hb, q0, -, -, -⟩ := (S0.out.own T1.A).cell4 hi
          obtain ⟨b1_, off1, rfl, hb1, r0⟩ := (S1.out.below T1.A.K (Nat.le_refl _)).cell1 hml
          rw [hm] at q0
          have HG : Hid ((if stOkB d s && inB (m : Int) 0 (d.n1 - 1) then healthyN d s m else -1) = healthyN d s m) := Lib.hid (by
            rw [OKB.out, show inB (m : Int) 0 (d.n1 - 1) = true from by rw [inB_true]; omega]; rfl)
          clear hm HPH
          go_wp2_with fail
          have hlt1 : b1_ < w1.heap.size := Nat.lt_of_lt_of_le hb1 T1.A.K.size
          have Q0 : (∀ o, w1.cell? ⟨w.heap.size, o, none⟩ = (planC (some ⟨b, off, none⟩) (some ⟨b1_, off1, none⟩) P2 P3 d.n0 k0 d.n1 k1 d.n2 k2 d.n3 k3 d.l d.p d.t)[o]?) ∧ (∀ o, w1.cell? ⟨w.heap.size + 1, o, none⟩ = (stC (some ⟨b', off', none⟩) A1 A2 A3 s.pods.length c0 s.mnts.length c1 s.devs.length c2 s.lks.length c3 s.ph s.co s.ck s.bo s.ba s.lb s.gd s.pr)[o]?) ∧ w1.cell? ⟨b1_, off1 + m, none⟩ = some (.int .i64 (d.x1 m)) ∧ Below w1.heap.size w1 w1 := ⟨T1.A.C, T1.O.C, r0, Below.refl _ _⟩
          go_region_held3 (fun w' => (∀ o, w'.cell? ⟨w.heap.size, o, none⟩ = (planC (some ⟨b, off, none⟩) (some ⟨b1_, off1, none⟩) P2 P3 d.n0 k0 d.n1 k1 d.n2 k2 d.n3 k3 d.l d.p d.t)[o]?) ∧ (∀ o, w'.cell? ⟨w.heap.size + 1, o, none⟩ = (stC (some ⟨b', off', none⟩) A1 A2 A3 s.pods.length c0 s.mnts.length c1 s.devs.length c2 s.lks.length c3 s.ph s.co s.ck s.bo s.ba s.lb s.gd s.pr)[o]?) ∧ w'.cell? ⟨b1_, off1 + m, none⟩ = some (.int .i64 (d.x1 m)) ∧ Below w1.heap.size w1 w')
            (first | exact Q2 | exact Q0 | exact ⟨Q0.1, Q0.2.1, Q0.2.2.1, Q0.2.2.2.drew⟩)
            (first
              | (go_at_call 86
                 have K0 : Below w1.heap.size w1 w1.drew := (Below.refl _ _).drew
                 refine (healthyIn_any _ _ d s _ _ ((HP.out.below (T1.step K0).A.K (Nat.le_refl _)).more (T1.step K0).A.K.size) ((HS.out.below (T1.step K0).A.K (Nat.le_refl _)).more (T1.step K0).A.K.size)).mono ?_
                 rw [HG.out]
                 rintro e w3 ⟨rfl, hb3⟩
                 have K1 : Below w1.heap.size w1 w3 := K0.trans hb3
                 have Q2 := And.intro (T1.step K1).A.C (And.intro (T1.step K1).O.C (And.intro ((K1.cell (p := ⟨b1_, off1 + m, none⟩) hlt1).trans r0) K1))))
          have T3 := T1.step K1
          go_wp2
          all_goals (go_ret; exact ⟨ret_bool (by rw [HANS2.out]; simp), T3.A.K⟩)
        · go_wp2
          all_goals (go_ret; exact ⟨ret_bool (by rw [HANS2.out]; simp [hx]), T1.A.K⟩)

set_option maxHeartbeats 1000000 in
theorem l10Phase_any (sv : Value) (s : StD) (f t : Int) (w : World) (hs : IsSt w w.heap.size sv s) :
    Calls Tryz.prog 26 #[sv, .int .i64 f, .int .i64 t] w (RecsA w (phaseD s f t)) := by
  obtain ⟨⟨A0, A1, A2, A3, c0, c1, c2, c3, rfl, -, -, -, -⟩, -, -, -, -⟩ := hs
  obtain ⟨ans, hans⟩ : ∃ ans, phaseD s f t = ans := ⟨_, rfl⟩
  rw [hans]
  have HANS := Lib.hid hans
  clear hans
  have X := Own.box w (stC A0 A1 A2 A3 s.pods.length c0 s.mnts.length c1 s.devs.length c2 s.lks.length c3 s.ph s.co s.ck s.bo s.ba s.lb s.gd s.pr) 47
  cases hph : (s.ph != f)
  · have HPH : Hid (s.ph = f) := Lib.hid (by simpa using hph)
    go_enter Tryz.func26, Tryz.ntmps26
    go_wp2_with fail
    refine (l10One_any 1 t 0 _).mono ?_
    rintro e w9 hR
    obtain ⟨v9, rfl, O9, K9⟩ := hR.back X.K
    go_wp2
    all_goals (go_ret2; rw [← HANS.out, phaseD, if_pos HPH.out]; exact ⟨v9, rfl, O9, K9⟩)
  · have HPH : Hid (¬ s.ph = f) := Lib.hid (by simpa using hph)
    go_enter Tryz.func26, Tryz.ntmps26
    go_wp2_with fail
    refine (l10No_any 3 _).mono ?_
    rintro e w9 hR
    obtain ⟨v9, rfl, O9, K9⟩ := hR.back X.K
    go_wp2
    all_goals (go_ret2; rw [← HANS.out, phaseD, if_neg HPH.out]; exact ⟨v9, rfl, O9, K9⟩)

set_option maxHeartbeats 1000000 in
theorem l10Holds_any (sv : Value) (s : StD) (a : Int) (w : World) (hs : IsSt w w.heap.size sv s) :
    Calls Tryz.prog 65 #[sv, .int .i64 a] w fun e w' => e = .returned (.bool (s.lks.contains a)) ∧ Below w.heap.size w w' := by
  obtain ⟨⟨A0, A1, A2, A3, c0, c1, c2, c3, rfl, -, -, -, t3⟩, -, -, -, f3⟩ := hs
  have R3 := Lib.hid t3
  unfold maxLen at f3
  clear t3
  obtain ⟨ans, hans⟩ : ∃ ans, s.lks.contains a = ans := ⟨_, rfl⟩
  rw [hans]
  have HANS := Lib.hid hans
  clear hans
  have X0 := Own.box w (stC A0 A1 A2 A3 s.pods.length c0 s.mnts.length c1 s.devs.length c2 s.lks.length c3 s.ph s.co s.ck s.bo s.ba s.lb s.gd s.pr) 47
  go_enter Tryz.func65, Tryz.ntmps65
  go_wp2_with fail
  go_loopw [5] (fun j wr => ∃ k : Nat, k ≤ s.lks.length ∧ j = .int .i64 k ∧ (∀ j, j < k → lkA s.lks j ≠ a) ∧ Own w wr w.heap.size (stC A0 A1 A2 A3 s.pods.length c0 s.mnts.length c1 s.devs.length c2 s.lks.length c3 s.ph s.co s.ck s.bo s.ba s.lb s.gd s.pr)) (fun j _ => s.lks.length - (intOf j).toNat)
  case atStart => exact ⟨0, Nat.zero_le _, rfl, fun j hj => absurd hj (by omega), X0⟩
  case round =>
    clear X0
    obtain ⟨k, hk, rfl, hall, X⟩ := hrel
    have HALL := Lib.hid hall
    clear hall
    have hC := X.C
    by_cases hlt : k < s.lks.length
    · obtain ⟨b', off', rfl, hb', hc⟩ := (R3.out.below X.K (Nat.le_refl _)).cell hlt
      have p0 := (hc 0 (by decide)).trans (lkCs_at s.lks (i := k * 1 + 0) (by omega))
      rw [Nat.add_zero, Nat.mul_one] at p0
      clear hc
      have HYES : Hid (lkA s.lks k = a → ans = true) := Lib.hid fun h => by rw [← HANS.out]; exact contains_at hlt h
      have HNO : Hid (lkA s.lks k ≠ a → ∀ j, j < k + 1 → lkA s.lks j ≠ a) := Lib.hid fun h j hj => by
        by_cases e : j = k
        · rw [e]; exact h
        · exact HALL.out j (by omega)
      generalize lkA s.lks k = x at p0 HYES HNO
      cases hx : (x == a)
      · have HX : Hid (x ≠ a) := Lib.hid (by simpa using hx)
        go_wp2
        refine ⟨⟨k + 1, by omega, by go_num, HNO.out HX.out, X⟩, by simp [intOf]; omega⟩
      · have HX : Hid (x = a) := Lib.hid (by simpa using hx)
        go_wp2
        all_goals (go_ret; exact ⟨ret_bool (HYES.out HX.out).symm, X.K⟩)
    · obtain rfl : k = s.lks.length := by omega
      go_wp2
      all_goals (go_ret; exact ⟨ret_bool (by rw [← HANS.out, contains_no HALL.out]), X.K⟩)

end Go.Proofs.YtnlckjepbpnegaaGreatDoor
/- Ul -/
set_option linter.unusedVariables false
namespace Go.Proofs.YtnlckjepbpnegaaGreatDoor
open Go.RowKit

theorem IsPlan.go {w w' : World} {v : Value} {d : PlanD} (h : IsPlan w w.heap.size v d) (hb : Below w.heap.size w w') : IsPlan w' w'.heap.size v d := (h.below hb (Nat.le_refl _)).more hb.size

end Go.Proofs.YtnlckjepbpnegaaGreatDoor
/- Ya -/
set_option linter.unusedVariables false
namespace Go.Proofs.YtnlckjepbpnegaaGreatDoor
open Go.RowKit

set_option maxRecDepth 100000 in
set_option maxHeartbeats 2000000 in
theorem markPlan_num (d : PlanD) (g0 g1 g2 g3 : Nat) (w0 w : World) (h : NewPlan w0 w d g0 g1 g2 g3) (h0 : d.n0 ≤ 1048576) (h1 : d.n1 ≤ 1048576) (h2 : d.n2 ≤ 1048576) (h3 : d.n3 ≤ 1048576) :
    Calls Tryz.prog 13 #[newPlanV d g0 g1 g2 g3, .int .i64 1] w fun e w' => e = .returned (.int .i64 (1 + 4 * d.n0 + d.n1 + 2 * d.n2 + d.n3)) ∧ Keeps (fun b => g0 ≤ b ∧ b ≤ g3) w w' := by
  obtain ⟨l0, l1, l2, l3, l4, R0, R1, R2, R3⟩ := h
  obtain ⟨n0, n1, n2, n3, x0, x1, x2, x3, l, p, t⟩ := d
  dsimp only at *
  have H0 := Lib.hid h0
  have H1 := Lib.hid h1
  have H2 := Lib.hid h2
  have H3 := Lib.hid h3
  clear h0 h1 h2 h3
  have b0 : (n0 : Int) ≤ 1048576 := by have := H0.out; omega
  have b1 : (n1 : Int) ≤ 1048576 := by have := H1.out; omega
  have b2 : (n2 : Int) ≤ 1048576 := by have := H2.out; omega
  have b3 : (n3 : Int) ≤ 1048576 := by have := H3.out; omega
  go_enter Tryz.func13, Tryz.ntmps13
  go_wp2_with fail
  have X := cell_new w (planC (some ⟨g0, 0, none⟩) (some ⟨g1, 0, none⟩) (some ⟨g2, 0, none⟩) (some ⟨g3, 0, none⟩) n0 n0 n1 n1 n2 n2 n3 n3 l p t) 42
  have A1 := (Below.refl w.heap.size w).alloc (Nat.le_refl _) (.cells (planC (some ⟨g0, 0, none⟩) (some ⟨g1, 0, none⟩) (some ⟨g2, 0, none⟩) (some ⟨g3, 0, none⟩) n0 n0 n1 n1 n2 n2 n3 n3 l p t) 42)
  have K1 : Keeps (fun b => g0 ≤ b ∧ b ≤ g3) w _ := Keeps.of_below A1
  have R0 := R0.below A1 (by omega)
  have R1 := R1.below A1 (by omega)
  have R2 := R2.below A1 (by omega)
  have R3 := R3.below A1 (by omega)
  have z1 : w.heap.size < (w.alloc (.cells (planC (some ⟨g0, 0, none⟩) (some ⟨g1, 0, none⟩) (some ⟨g2, 0, none⟩) (some ⟨g3, 0, none⟩) n0 n0 n1 n1 n2 n2 n3 n3 l p t) 42)).heap.size := by simp
  refine (markPodS_any _ n0 _ g0 _ x0 _ (fun _ => rfl) R0 H0.out (by omega) (by omega)).mono ?_
  rintro e w2 ⟨rfl, k⟩
  have hC2 : ∀ o, w2.cell? ⟨w.heap.size, o, none⟩ = _ := fun o => (k.cell (p := ⟨w.heap.size, o, none⟩) z1 (by show ¬ w.heap.size = g0; omega)).trans (X o)
  have R1 := R1.keeps k (by omega) (by omega)
  have R2 := R2.keeps k (by omega) (by omega)
  have R3 := R3.keeps k (by omega) (by omega)
  have K2 := K1.trans (k.mono (T := fun b => g0 ≤ b ∧ b ≤ g3) (by rintro b rfl; omega))
  have z2 := Nat.lt_of_lt_of_le z1 k.size
  clear X A1 K1 R0 z1 k
  go_wp2_with fail
  refine (markInt64S_any _ n1 _ g1 _ x1 _ (fun _ => rfl) R1 H1.out (by omega) (by omega)).mono ?_
  rintro e w3 ⟨rfl, -, k⟩
  have hC3 : ∀ o, w3.cell? ⟨w.heap.size, o, none⟩ = _ := fun o => (k.cell (p := ⟨w.heap.size, o, none⟩) z2 (by show ¬ w.heap.size = g1; omega)).trans (hC2 o)
  have R2 := R2.keeps k (by omega) (by omega)
  have R3 := R3.keeps k (by omega) (by omega)
  have K3 := K2.trans (k.mono (T := fun b => g0 ≤ b ∧ b ≤ g3) (by rintro b rfl; omega))
  have z3 := Nat.lt_of_lt_of_le z2 k.size
  clear hC2 K2 R1 z2 k
  go_wp2_with fail
  refine (markMountS_any _ n2 _ g2 _ x2 _ (fun _ => rfl) R2 H2.out (by omega) (by omega)).mono ?_
  rintro e w4 ⟨rfl, k⟩
  have hC4 : ∀ o, w4.cell? ⟨w.heap.size, o, none⟩ = _ := fun o => (k.cell (p := ⟨w.heap.size, o, none⟩) z3 (by show ¬ w.heap.size = g2; omega)).trans (hC3 o)
  have R3 := R3.keeps k (by omega) (by omega)
  have K4 := K3.trans (k.mono (T := fun b => g0 ≤ b ∧ b ≤ g3) (by rintro b rfl; omega))
  have z4 := Nat.lt_of_lt_of_le z3 k.size
  clear hC3 K3 R2 z3 k
  go_wp2_with fail
  refine (markDeviceS_any _ n3 _ g3 _ x3 _ (fun _ => rfl) R3 H3.out (by omega) (by omega)).mono ?_
  rintro e w5 ⟨rfl, k⟩
  have K5 := K4.trans (k.mono (T := fun b => g0 ≤ b ∧ b ≤ g3) (by rintro b rfl; omega))
  clear hC4 K4 R3 z4 k
  go_wp2_with fail
  go_ret
  exact ⟨ret_int (by omega), K5⟩
theorem NewSt.rowsIn {w w' : World} {s : StD} {g0 g1 g2 g3 : Nat} (h : NewSt w w' s g0 g1 g2 g3) : RowsIn w' (newStV s g0 g1 g2 g3) s w.heap.size w'.heap.size := by
  have R := h.rows
  obtain ⟨l0, l1, l2, l3, l4, R0, R1, R2, R3⟩ := h
  exact ⟨g0, g1, g2, g3, R, ⟨l0, by omega, by omega, by omega⟩, fun _ => by omega, fun _ => by omega, fun _ => by omega, fun _ => by omega⟩
theorem BoxS.own {w W : World} {B g : Nat} {cs : Array Value} (h : BoxS W B g cs.toList) (K : Below w.heap.size w W) : Own w W g cs := ⟨K, h.lt.2, h.C, fun o => h.frozen o⟩
/-- A row in a block of the heap. -/
structure RowB (w : World) (g N : Nat) (x : Nat → Int) : Prop where
  R : RowF w g N x
  z : g < w.heap.size
theorem RowB.go {w w' : World} {g N : Nat} {x : Nat → Int} (h : RowB w g N x) (hb : Below w.heap.size w w') : RowB w' g N x := ⟨h.R.below hb h.z, Nat.lt_of_lt_of_le h.z hb.size⟩
theorem RowB.keeps {S : Nat → Prop} {w w' : World} {g N : Nat} {x : Nat → Int} (h : RowB w g N x) (k : Keeps S w w') (hn : ¬ S g) : RowB w' g N x := ⟨h.R.keeps k h.z hn, Nat.lt_of_lt_of_le h.z k.size⟩
theorem Two.keeps {S : Nat → Prop} {w w1 w2 : World} {cs os : Array Value} (h : Two w w1 cs os) (k : Keeps S w1 w2) (hS : ∀ b, S b → w.heap.size + 1 < b) : Two w w2 cs os :=
  ⟨h.A.keeps k (fun b hb => by have := hS b hb; omega) (fun hb => by have := hS _ hb; omega), h.O.keeps k (fun b hb => by have := hS b hb; omega) (fun hb => by have := hS _ hb; omega)⟩
theorem tot_half {s : StD} {m : Int} (h : (s.pods.length + s.mnts.length + s.devs.length + s.lks.length : Nat) ≤ m) : (totS s : Int) ≤ 2 * m := by unfold totS; omega
end Go.Proofs.YtnlckjepbpnegaaGreatDoor
/- Jc -/
set_option linter.unusedVariables false
namespace Go.Proofs.YtnlckjepbpnegaaGreatDoor
open Go.RowKit

theorem index_any (L : List Int) (A : Option Addr) (c : Nat) (a : Int) (w : World) (h : SlV w w.heap.size 1 A L.length (lkCs L)) (hl : L.length ≤ maxLen) :
    Calls Tryz.prog 130 #[.slice A L.length c, .int .i64 a] w fun e w' => (∃ k : Nat, e = .returned (.int .i64 k) ∧ k ≤ 9223372036854775807 ∧ L.contains a = true ∨ e = .returned (.int .i64 (-1)) ∧ L.contains a = false) ∧ w = w' := by
  unfold maxLen at hl
  have H := Lib.hid h
  clear h
  obtain ⟨ans, hans⟩ : ∃ ans, L.contains a = ans := ⟨_, rfl⟩
  rw [hans]
  have HANS := Lib.hid hans
  clear hans
  go_enter Tryz.func130, Tryz.ntmps130
  go_wp2_with fail
  go_loopw [8] (fun j wr => ∃ k : Nat, k ≤ L.length ∧ j = .int .i64 k ∧ (∀ j, j < k → lkA L j ≠ a) ∧ w = wr) (fun j _ => L.length - (intOf j).toNat)
  case atStart => exact ⟨0, Nat.zero_le _, rfl, fun j hj => absurd hj (by omega), rfl⟩
  case round =>
    obtain ⟨k, hk, rfl, hall, rfl⟩ := hrel
    have HALL := Lib.hid hall
    clear hall
    by_cases hlt : k < L.length
    · obtain ⟨b', off', rfl, hb', hc⟩ := H.out.cell hlt
      have p0 := (hc 0 (by decide)).trans (lkCs_at L (i := k * 1 + 0) (by omega))
      rw [Nat.add_zero, Nat.mul_one] at p0
      clear hc
      have HYES : Hid (lkA L k = a → ans = true) := Lib.hid fun h => by rw [← HANS.out]; exact contains_at hlt h
      have HNO : Hid (lkA L k ≠ a → ∀ j, j < k + 1 → lkA L j ≠ a) := Lib.hid fun h j hj => by
        by_cases e : j = k
        · rw [e]; exact h
        · exact HALL.out j (by omega)
      generalize lkA L k = x at p0 HYES HNO
      cases hx : (a == x)
      · have HX : Hid (x ≠ a) := Lib.hid (by intro e; rw [e] at hx; simp at hx)
        go_wp2
        refine ⟨⟨k + 1, by omega, by go_num, HNO.out HX.out, by trivial⟩, by simp [intOf]; omega⟩
      · have HX : Hid (x = a) := Lib.hid (by have h : a = x := by simpa using hx
                                             exact h.symm)
        go_wp2
        all_goals (go_ret; exact ⟨⟨k, .inl ⟨rfl, by omega, HYES.out HX.out⟩⟩, rfl⟩)
    · obtain rfl : k = L.length := by omega
      go_wp2
      all_goals (go_ret; exact ⟨⟨0, .inr ⟨rfl, by rw [← HANS.out, contains_no HALL.out]⟩⟩, rfl⟩)
theorem contains_any (L : List Int) (A : Option Addr) (c : Nat) (a : Int) (w : World) (h : SlV w w.heap.size 1 A L.length (lkCs L)) (hl : L.length ≤ maxLen) :
    Calls Tryz.prog 124 #[.slice A L.length c, .int .i64 a] w fun e w' => e = .returned (.bool (L.contains a)) ∧ w = w' := by
  have H := Lib.hid h
  clear h
  obtain ⟨ans, hans⟩ : ∃ ans, L.contains a = ans := ⟨_, rfl⟩
  rw [hans]
  have HANS := Lib.hid hans
  clear hans
  go_enter Tryz.func124, Tryz.ntmps124
  go_wp2_with fail
  refine (index_any L A c a w H.out hl).mono ?_
  rw [HANS.out]
  rintro e w1 ⟨⟨k, ⟨rfl, hk, hc⟩ | ⟨rfl, hc⟩⟩, rfl⟩
  · have HC := Lib.hid hc
    clear hc
    go_wp2
    all_goals (go_ret; exact ⟨by rw [HC.out]; rfl, rfl⟩)
  · have HC := Lib.hid hc
    clear hc
    go_wp2
    all_goals (go_ret; exact ⟨by rw [HC.out]; rfl, rfl⟩)
end Go.Proofs.YtnlckjepbpnegaaGreatDoor
/- Mb -/
set_option linter.unusedVariables false
namespace Go.Proofs.YtnlckjepbpnegaaGreatDoor
open Go.RowKit Go.Maps

theorem mem_hits {n : Nat} {f : Nat → Int} {b x : Int} : x ∈ hits n f b ↔ (0 ≤ x ∧ x < n) ∧ f x.toNat = b := by
  constructor
  · intro h
    obtain ⟨i, hi, rfl, e⟩ := hits_mem h
    exact ⟨by omega, by simpa using e⟩
  · rintro ⟨⟨h0, h1⟩, e⟩
    have := hits_in (f := f) (n := n) (i := x.toNat) (by omega)
    rw [e] at this
    rwa [Int.toNat_of_nonneg h0] at this
theorem hits_rise (n : Nat) (f : Nat → Int) (b : Int) : (hits n f b).Pairwise (· < ·) := picks_rise n fun i => f i == b
theorem take_one {L : List Int} {k : Nat} (hk : k < L.length) : L.take (k + 1) = L.take k ++ [L.getD k 0] := by
  rw [List.take_add_one]
  simp [List.getD, hk]
theorem not_taken {L : List Int} (hp : L.Pairwise (· < ·)) {k : Nat} (hk : k < L.length) : L.getD k 0 ∉ L.take k := by
  intro hm
  have e := take_one hk
  have h2 : (L.take (k + 1)).Pairwise (· < ·) := hp.sublist (List.take_sublist _ _)
  rw [e, List.pairwise_append] at h2
  have := h2.2.2 _ hm _ (List.mem_singleton.2 rfl)
  omega
theorem SetD.one {D : DataW Unit} {L : List Int} (hp : L.Pairwise (· < ·)) {k : Nat} (hk : k < L.length) (h : SetD D (fun i => decide (i ∈ L.take k)) k) :
    SetD (D.put (.int .i64 (L.getD k 0)) (.lit (.bool true))) (fun i => decide (i ∈ L.take (k + 1))) (k + 1) := by
  refine (h.put (L.getD k 0) (by simpa using not_taken hp hk)).congr (fun i => ?_) rfl
  rw [take_one hk]
  simp [List.mem_append]

def leftQ (d : PlanD) (s : StD) (g : Int) (k i : Nat) : Bool := decide (d.x0 (i * 4) = g) && (decide (k ≤ i) || decide ((podA s.pods i).1 = 0))
def leftF (d : PlanD) (s : StD) (g : Int) (k : Nat) (i : Int) : Bool := (decide (0 ≤ i) && decide (i < d.n0)) && leftQ d s g k i.toNat
def leftN (d : PlanD) (s : StD) (g : Int) (k : Nat) : Nat := (List.range d.n0).countP (leftQ d s g k)
theorem left_start {D : DataW Unit} {d : PlanD} {s : StD} {g : Int} {L : List Int} (hL : L = hits d.n0 (fun i => d.x0 (i * 4)) g) (h : SetD D (fun i => decide (i ∈ L.take L.length)) L.length) : SetD D (leftF d s g 0) (leftN d s g 0) := by
  subst hL
  refine h.congr (fun i => ?_) ?_
  · rw [List.take_length]
    unfold leftF leftQ
    rw [Bool.eq_iff_iff]
    simp [mem_hits]
  · unfold leftN leftQ
    simp [hits, List.countP_eq_length_filter, BEq.beq]
theorem leftQ_next {d : PlanD} {s : StD} {g : Int} {k i : Nat} (h : i = k → (podA s.pods k).1 = 0) : leftQ d s g k i = leftQ d s g (k + 1) i := by
  unfold leftQ
  by_cases e : i = k
  · subst e
    simp [h rfl]
  · have : (k ≤ i) ↔ (k + 1 ≤ i) := by omega
    simp only [this]
theorem left_stay {D : DataW Unit} {d : PlanD} {s : StD} {g : Int} {k : Nat} (h : SetD D (leftF d s g k) (leftN d s g k)) (hr : (podA s.pods k).1 = 0) : SetD D (leftF d s g (k + 1)) (leftN d s g (k + 1)) := by
  have e : leftQ d s g k = leftQ d s g (k + 1) := funext fun i => leftQ_next fun _ => hr
  refine h.congr (fun i => ?_) ?_
  · unfold leftF; rw [e]
  · unfold leftN; rw [e]
theorem left_drop {D : DataW Unit} {d : PlanD} {s : StD} {g : Int} {k : Nat} (h : SetD D (leftF d s g k) (leftN d s g k)) (hk : k < d.n0) (hr : (podA s.pods k).1 ≠ 0) : SetD (D.del (.int .i64 k)) (leftF d s g (k + 1)) (leftN d s g (k + 1)) := by
  have h0 : leftQ d s g (k + 1) k = false := by
    unfold leftQ
    have : ¬ (k + 1 ≤ k) := by omega
    simp [this, hr]
  refine (h.del k).congr (fun i => ?_) ?_
  · unfold leftF
    by_cases e : i = (k : Int)
    · subst e
      rw [Int.toNat_natCast, h0]
      simp
    · by_cases e2 : 0 ≤ i
      · rw [leftQ_next (k := k) (i := i.toNat) (fun e3 => absurd (by omega) e)]
        simp [e]
      · simp [e2]
  · have hF : leftF d s g k k = leftQ d s g k k := by
      unfold leftF
      rw [Int.toNat_natCast]
      have : (k : Int) < d.n0 := by omega
      simp [this]
    rw [hF]
    unfold leftN
    cases hq : leftQ d s g k k
    · have e : ∀ i, leftQ d s g k i = leftQ d s g (k + 1) i := fun i => by
        by_cases e : i = k
        · rw [e, hq, h0]
        · exact leftQ_next fun e2 => absurd e2 e
      rw [show leftQ d s g k = leftQ d s g (k + 1) from funext e]
      simp
    · have := count_flip hq h0 (fun j hj => leftQ_next fun e2 => absurd e2 hj) d.n0
      rw [if_pos hk] at this
      rw [this]
      simp
theorem left_end {D : DataW Unit} {d : PlanD} {s : StD} {g : Int} (h : SetD D (leftF d s g d.n0) (leftN d s g d.n0)) : (∀ i : Nat, i < d.n0 → D.atKey (.int .i64 i) (.lit (.bool false)) = .lit (.bool (hP d s g i))) ∧ (Go.Maps.size D : Int) = healthyN d s g := by
  have e : ∀ i, i < d.n0 → leftQ d s g d.n0 i = hP d s g i := fun i hi => by
    unfold leftQ hP
    have : ¬ (d.n0 ≤ i) := by omega
    simp [this]
  refine ⟨fun i hi => ?_, ?_⟩
  · rw [h.at_]
    unfold leftF
    rw [Int.toNat_natCast, e i hi]
    have : (i : Int) < d.n0 := by omega
    simp [this]
  · rw [h.size_, healthyN_count]
    unfold leftN
    congr 1
    exact List.countP_congr fun i hi => by rw [e i (List.mem_range.1 hi)]
end Go.Proofs.YtnlckjepbpnegaaGreatDoor
/- Mc -/
set_option linter.unusedVariables false
namespace Go.Proofs.YtnlckjepbpnegaaGreatDoor
open Go.RowKit Go.Maps

theorem law64 : Keyed Tryz.prog 2 := int_keyed Tryz.underlying2
theorem zero_bool (w : World) : (zeroValue 4).run Tryz.prog w = .ok (.bool false) w := by kernel_rfl
theorem Keeps.of_grownM {w w' : World} {b : Nat} (h : w.grownBy w' (some b)) : Keeps (fun x => x = b) w w' := by
  obtain ⟨h1, h2, h3, h4, h5⟩ := h
  exact ⟨h1, h2, h3, h4, fun i hi hn => h5 i hi (fun e => hn (by cases e; rfl))⟩
theorem Two.keepB {w w1 w2 : World} {cs os : Array Value} {b : Nat} (h : Two w w1 cs os) (hg : w1.grownBy w2 (some b)) (hb : w.heap.size + 2 ≤ b) : Two w w2 cs os :=
  ⟨h.A.keeps (Keeps.of_grownM hg) (by intro x hx; omega) (by omega), h.O.keeps (Keeps.of_grownM hg) (by intro x hx; omega) (by omega)⟩
/-- What leftIn answers: a map of the call's own. -/
def LeftIn (w : World) (d : PlanD) (s : StD) (g : Int) (e : Ending) (w' : World) : Prop :=
  ∃ B n D, e = .returned (.map (some B)) ∧ w'.ownsMap Tryz.prog 2 (plainElem (H := Unit) Tryz.prog 4) B n D ∧ (∀ i : Nat, i < d.n0 → D.atKey (.int .i64 i) (.lit (.bool false)) = .lit (.bool (hP d s g i))) ∧
    (Go.Maps.size D : Int) = healthyN d s g ∧ Below w.heap.size w w'

set_option maxRecDepth 100000 in
set_option maxHeartbeats 4000000 in
theorem implLeftIn_any (pv sv : Value) (d : PlanD) (s : StD) (g : Int) (w : World) (hp : IsPlan w w.heap.size pv d) (hs : IsSt w w.heap.size sv s) (hok : StOk d s) :
    Calls Tryz.prog 127 #[pv, sv, .int .i64 g] w (LeftIn w d s g) := by
  have HP := Lib.hid hp
  have HS := Lib.hid hs
  have OK := Lib.hid hok
  have HL := Lib.hid (planOk_lock hok.plan)
  obtain ⟨⟨P0, P1, P2, P3, k0, k1, k2, k3, rfl, -, -, -, -⟩, b0, b1, b2, b3⟩ := hp
  obtain ⟨⟨A0, A1, A2, A3, c0, c1, c2, c3, rfl, t0, -, -, -⟩, f0, f1, f2, f3⟩ := hs
  have R0 := Lib.hid t0
  clear t0 hok
  unfold maxLen at b0 b1 b2 b3 f0 f1 f2 f3
  have T0 := Two.start w (planC P0 P1 P2 P3 d.n0 k0 d.n1 k1 d.n2 k2 d.n3 k3 d.l d.p d.t) (stC A0 A1 A2 A3 s.pods.length c0 s.mnts.length c1 s.devs.length c2 s.lks.length c3 s.ph s.co s.ck s.bo s.ba s.lb s.gd s.pr) 42 47
  have hmm := @run_makeMap Tryz.prog
  go_enter Tryz.func127, Tryz.ntmps127
  go_wp2_with fail
  have T1 := T0.step ((Below.refl _ _).alloc (Nat.le_refl _) (.map #[] 0))
  have M1 := World.ownsMap_made ((w.alloc (.cells (planC P0 P1 P2 P3 d.n0 k0 d.n1 k1 d.n2 k2 d.n3 k3 d.l d.p d.t) 42)).alloc (.cells (stC A0 A1 A2 A3 s.pods.length c0 s.mnts.length c1 s.devs.length c2 s.lks.length c3 s.ph s.co s.ck s.bo s.ba s.lb s.gd s.pr) 47)) Tryz.prog 2 (plainElem (H := Unit) Tryz.prog 4)
  simp only [heap_size_alloc_] at M1
  refine (implPodsIn_any _ d g _ ((HP.out.below T1.A.K (Nat.le_refl _)).more T1.A.K.size) (by have := HL.out; omega)).mono ?_
  rintro e w2 ⟨v, rfl, O, hb⟩
  rw [found_yes OK.out.plan] at O
  obtain ⟨L, hL⟩ : ∃ L, hits d.n0 (fun i => d.x0 (i * 4)) g = L := ⟨_, rfl⟩
  rw [hL] at O
  obtain ⟨Q, c, r0, rfl, hQ, hB, hz, R⟩ := open_list O
  have T2 := T1.step hb
  have M2 := M1.kept (row := none) ⟨hb.os, hb.tape, hb.output, hb.size, fun k hk _ => hb.block k hk⟩ (by simp)
  have HQ := Lib.hid hQ
  have HR := Lib.hid R
  have HB := Lib.hid hB
  have HLn : Hid (L.length ≤ 12) := Lib.hid (by rw [← hL]; have := hits_le d.n0 (fun i => d.x0 (i * 4)) g; have := HL.out; omega)
  have HLR : Hid (L.Pairwise (· < ·)) := Lib.hid (by rw [← hL]; exact hits_rise _ _ _)
  have HLW : Hid (∀ k, k < L.length → (Lit.int .i64 (L.getD k 0)).wf = true) := Lib.hid fun k hk => by
    have hm : L.getD k 0 ∈ hits d.n0 (fun i => d.x0 (i * 4)) g := by
      rw [hL]
      simp [List.getD, hk]
    have := mem_hits.1 hm
    have := HL.out
    exact WalkArith.wf_i64 (by omega)
  have HLL := Lib.hid hL.symm
  simp only [heap_size_alloc_] at hB
  have HB := Lib.hid hB
  have HZ := Lib.hid hz
  have HR := Lib.hid R
  clear hL hQ hB hz R O M1 T1 T0 hb
  have hln := HLn.out
  go_wp2_with fail
  go_loopw [17] (fun i wr => ∃ (k : Nat) (D : DataW Unit), k ≤ L.length ∧ i = .int .i64 k ∧ wr.ownsMap Tryz.prog 2 (plainElem Tryz.prog 4) (w.heap.size + 1 + 1) k D ∧ SetD D (fun i => decide (i ∈ L.take k)) k ∧ Keeps (fun x => x = w.heap.size + 1 + 1) w2 wr ∧ Two w wr (planC P0 P1 P2 P3 d.n0 k0 d.n1 k1 d.n2 k2 d.n3 k3 d.l d.p d.t) (stC A0 A1 A2 A3 s.pods.length c0 s.mnts.length c1 s.devs.length c2 s.lks.length c3 s.ph s.co s.ck s.bo s.ba s.lb s.gd s.pr)) (fun i _ => L.length - (intOf i).toNat)
  case atStart => exact ⟨0, _, Nat.zero_le _, rfl, M2, SetD.empty.congr (fun i => by simp) rfl, Keeps.refl _ _, T2⟩
  case round =>
    clear M2 T2
    obtain ⟨k, D, hk, rfl, M, hS, hK, T⟩ := hrel
    have HM := Lib.hid M
    have HSD := Lib.hid hS
    have HK := Lib.hid hK
    clear M hS hK
    have hC := T.A.C
    have hD := T.O.C
    by_cases hlt : k < L.length
    · have e0 := HQ.out (by omega)
      subst e0
      have q0 := ((HR.out.goK HZ.out HK.out (fun hn e => by have := HB.out; omega)) k hlt).1
      have hkey : keyOf Tryz.prog 2 (.int .i64 (L.getD k 0)) = some (.int .i64 (L.getD k 0)) := keyOf_int_mk Tryz.underlying2 (HLW.out k hlt)
      have HKEY := Lib.hid hkey
      have HSN := Lib.hid (HSD.out.one HLR.out hlt)
      clear hkey
      generalize L.getD k 0 = x at *
      go_wp2_with (first
        | (at_mapUpdate; refine wpList_mapUpdate_own _ rfl _ _ _ 184 rfl 2 4 law64 Tryz.underlying184 _ (w.heap.size + 1 + 1) k _ rfl HM.out (by unfold maxLen; omega) _ _ _ rfl rfl HKEY.out _ [] (plainElem_bool Tryz.underlying4 true) ?_; intro w1 hown1 hgrow1))
      refine ⟨⟨k + 1, _, by omega, by go_num, hown1, HSN.out, HK.out.trans (Keeps.of_grownM hgrow1), T.keepB hgrow1 (by omega)⟩, by simp [intOf]; omega⟩
    · obtain rfl : k = L.length := by omega
      have HST := Lib.hid (left_start (s := s) HLL.out HSD.out)
      clear HSD HK HR HQ HZ HB
      obtain ⟨hp, hnp⟩ : s.pods.length ≤ 12 ∧ s.pods.length = d.n0 := by have := OK.out.np; have := HL.out; omega
      have HNP := Lib.hid hnp
      clear hnp
      go_wp2_with fail
      go_loopw [27] (fun i wr => ∃ (k : Nat) (D : DataW Unit), k ≤ s.pods.length ∧ i = .int .i64 k ∧ wr.ownsMap Tryz.prog 2 (plainElem Tryz.prog 4) (w.heap.size + 1 + 1) L.length D ∧ SetD D (leftF d s g k) (leftN d s g k) ∧ Two w wr (planC P0 P1 P2 P3 d.n0 k0 d.n1 k1 d.n2 k2 d.n3 k3 d.l d.p d.t) (stC A0 A1 A2 A3 s.pods.length c0 s.mnts.length c1 s.devs.length c2 s.lks.length c3 s.ph s.co s.ck s.bo s.ba s.lb s.gd s.pr)) (fun i _ => s.pods.length - (intOf i).toNat)
      case atStart => exact ⟨0, _, Nat.zero_le _, rfl, HM.out, HST.out, T⟩
      case round =>
        clear HM HST T hC hD
        obtain ⟨k, D, hk, rfl, M, hS, T⟩ := hrel
        have HM := Lib.hid M
        have HSD := Lib.hid hS
        clear M hS
        have hC := T.A.C
        have hD := T.O.C
        by_cases hlt : k < s.pods.length
        · obtain ⟨b, off, rfl, hb, hc⟩ := (R0.out.below T.A.K (Nat.le_refl _)).cell hlt
          have hp := podCs_at s.pods (i := k) hlt
          have q0 := (hc 0 (by decide)).trans hp.1
          have q1 := (hc 1 (by decide)).trans hp.2
          rw [Nat.add_zero] at q0
          clear hc hp
          have hk0 : k < d.n0 := by have := HNP.out; omega
          have hkey : keyOf Tryz.prog 2 (.int .i64 k) = some (.int .i64 k) := keyOf_int_mk Tryz.underlying2 (WalkArith.wf_i64 (by omega))
          have HKEY := Lib.hid hkey
          clear hkey
          by_cases hx : (podA s.pods k).1 = 0
          · have HN := Lib.hid (left_stay HSD.out hx)
            generalize podA s.pods k = r at q0 q1 hx
            obtain ⟨x, y⟩ := r
            dsimp only at q0 q1 hx
            subst hx
            go_wp2_with fail
            refine ⟨⟨k + 1, D, by omega, by go_num, HM.out.alloc _, HN.out, T.step ((Below.refl _ _).alloc (Nat.le_refl _) _)⟩, by simp [intOf]; omega⟩
          · have HN := Lib.hid (left_drop HSD.out hk0 hx)
            generalize podA s.pods k = r at q0 q1 hx
            obtain ⟨x, y⟩ := r
            dsimp only at q0 q1 hx
            go_wp2_with (first
              | (at_delete; refine wpList_delete_own _ rfl _ _ 184 2 rfl 4 law64 Tryz.underlying184 _ (w.heap.size + 1 + 1) L.length D rfl (HM.out.alloc _) _ _ rfl HKEY.out ?_; intro w1 hown1 hturn1))
            refine ⟨⟨k + 1, _, by omega, by go_num, hown1, HN.out, (T.step ((Below.refl _ _).alloc (Nat.le_refl _) _)).keepB hturn1.grown (by omega)⟩, by simp [intOf]; omega⟩
        · obtain rfl : k = s.pods.length := by omega
          have HE := Lib.hid (left_end (by have := HSD.out; rw [HNP.out] at this; exact this))
          clear HSD
          go_wp2_with fail
          go_ret
          exact ⟨_, _, D, rfl, HM.out, HE.out.1, HE.out.2, T.A.K⟩

set_option maxRecDepth 100000 in
set_option maxHeartbeats 4000000 in
theorem implMayEvict_any (pv sv : Value) (d : PlanD) (s : StD) (a : Int) (w : World) (hp : IsPlan w w.heap.size pv d) (hs : IsSt w w.heap.size sv s) :
    Calls Tryz.prog 121 #[pv, sv, .int .i64 a] w fun e w' => e = .returned (.bool (stOkB d s && mayEvictB d s a)) ∧ Below w.heap.size w w' := by
  have HP := Lib.hid hp
  have HS := Lib.hid hs
  obtain ⟨⟨P0, P1, P2, P3, k0, k1, k2, k3, rfl, s0, s1, -, -⟩, b0, b1, b2, b3⟩ := hp
  obtain ⟨⟨A0, A1, A2, A3, c0, c1, c2, c3, rfl, -, -, -, -⟩, f0, f1, f2, f3⟩ := hs
  have S0 := Lib.hid s0
  have S1 := Lib.hid s1
  unfold maxLen at b0 b1 b2 b3 f0 f1 f2 f3
  clear s0 s1
  have T0 := Two.start w (planC P0 P1 P2 P3 d.n0 k0 d.n1 k1 d.n2 k2 d.n3 k3 d.l d.p d.t) (stC A0 A1 A2 A3 s.pods.length c0 s.mnts.length c1 s.devs.length c2 s.lks.length c3 s.ph s.co s.ck s.bo s.ba s.lb s.gd s.pr) 42 47
  obtain ⟨ans, hans⟩ : ∃ ans, (stOkB d s && mayEvictB d s a) = ans := ⟨_, rfl⟩
  rw [hans]
  have HANS := Lib.hid hans
  clear hans
  go_enter Tryz.func121, Tryz.ntmps121
  go_wp2_with fail
  refine (implStateOk_any _ _ d s _ ((HP.out.below T0.A.K (Nat.le_refl _)).more T0.A.K.size) ((HS.out.below T0.A.K (Nat.le_refl _)).more T0.A.K.size)).mono ?_
  rintro e w1 ⟨rfl, hb⟩
  have T1 := T0.step hb
  have hC := T1.A.C
  have hD := T1.O.C
  clear hb T0
  cases hok : stOkB d s
  · have OKB := Lib.hid hok
    clear hok
    go_wp2
    all_goals (go_ret; exact ⟨ret_bool (by rw [← HANS.out, OKB.out]; rfl), T1.A.K⟩)
  · have OK := Lib.hid (stOkB_iff.1 hok)
    have OKB := Lib.hid hok
    clear hok
    cases hph : (s.ph != 2)
    case true =>
      have HPH : Hid (¬ s.ph = 2) := Lib.hid (by simpa using hph)
      go_wp2
      all_goals (go_ret; exact ⟨ret_bool (by rw [← HANS.out, OKB.out]; simp [mayEvictB, HPH.out]), T1.A.K⟩)
    case false =>
      have HPH : Hid (s.ph = 2) := Lib.hid (by simpa using hph)
      go_wp2_with fail
      refine (isIndex_any _ _ _).mono ?_
      rintro e w2 ⟨rfl, rfl⟩
      cases hin : inB a 0 (d.n0 - 1)
      · have HIN := Lib.hid hin
        clear hin
        go_wp2
        all_goals (go_ret; exact ⟨ret_bool (by rw [← HANS.out, OKB.out]; simp [mayEvictB, HIN.out]), T1.A.K⟩)
      · have HIN := Lib.hid hin
        obtain ⟨i, rfl, hi⟩ := index_nat (a := a) (n := d.n0) (by rw [hin]; decide)
        clear hin hph
        obtain ⟨m, hm, hml⟩ := pod_group OK.out.plan hi
        have HANS2 : Hid (ans = (hP d s m i && decide (d.x1 m < healthyN d s m))) := Lib.hid (by
          rw [← HANS.out, OKB.out, mayEvictB, HIN.out, HPH.out, Int.toNat_natCast, hm, Int.toNat_natCast]
          simp [podAt, podA, hP, hm])
        obtain ⟨b, off, rfl, hb, q0, -, -, -⟩ := (S0.out.own T1.A).cell4 hi
        rw [hm] at q0
        clear hm
        go_wp2_with fail
        refine (implLeftIn_any _ _ d s m _ ((HP.out.below T1.A.K (Nat.le_refl _)).more T1.A.K.size) ((HS.out.below T1.A.K (Nat.le_refl _)).more T1.A.K.size) OK.out).mono ?_
        rintro e w3 ⟨B, n, D, rfl, hown, hat, hsz, hb3⟩
        have T3 := T1.step hb3
        obtain ⟨b1_, off1, rfl, hb1, r0⟩ := (S1.out.below T3.A.K (Nat.le_refl _)).cell1 hml
        have hi12 : i < 1000 := by have := planOk_lock OK.out.plan; omega
        have hkey : keyOf Tryz.prog 2 (.int .i64 i) = some (.int .i64 i) := keyOf_int_mk Tryz.underlying2 (WalkArith.wf_i64 (by omega))
        have hlk : ∀ q, (Instr.lookup 184 (.map (some B)) (.int .i64 i) false).run Tryz.prog (w3.drewN q) = .ok (.bool (hP d s m i)) (w3.drewN q) := fun q => by
          have hown' : (w3.drewN q).ownsMap Tryz.prog 2 (plainElem (H := Unit) Tryz.prog 4) B n D := hown.kept (row := none) ⟨(below_drewN (Below.refl w3.heap.size w3) q).os, (below_drewN (Below.refl w3.heap.size w3) q).tape, (below_drewN (Below.refl w3.heap.size w3) q).output, (below_drewN (Below.refl w3.heap.size w3) q).size, fun k hk _ => (below_drewN (Below.refl w3.heap.size w3) q).block k hk⟩ (by simp)
          obtain ⟨v, ps, hrun, hv⟩ := hown'.lookup law64 Tryz.underlying184 (zero_bool _) (plainElem_bool Tryz.underlying4 false) hkey
          obtain ⟨x, rfl, hx⟩ := plainElem_bool_is Tryz.underlying4 hv
          rw [hat i hi] at hx
          simp only [Prod.mk.injEq, DataW.lit.injEq, Lit.bool.injEq] at hx
          rw [hx.1]
          exact hrun
        have hlen : ∀ q ty, (Builtin.len_ #[184] ty #[.map (some B)]).run Tryz.prog (w3.drewN q) = .ok (.int .i64 (healthyN d s m)) (w3.drewN q) := fun q ty => by
          have hown' : (w3.drewN q).ownsMap Tryz.prog 2 (plainElem (H := Unit) Tryz.prog 4) B n D := hown.kept (row := none) ⟨(below_drewN (Below.refl w3.heap.size w3) q).os, (below_drewN (Below.refl w3.heap.size w3) q).tape, (below_drewN (Below.refl w3.heap.size w3) q).output, (below_drewN (Below.refl w3.heap.size w3) q).size, fun k hk _ => (below_drewN (Below.refl w3.heap.size w3) q).block k hk⟩ (by simp)
          rw [← hsz]
          exact hown'.len Tryz.underlying184 ty
        clear hown hat hsz hkey hb3 T1 hC hD q0 hb
        have hC := T3.A.C
        have hD := T3.O.C
        generalize healthyN d s m = hn at *
        cases hp : hP d s m i
        · rw [hp] at hlk HANS2
          go_wp2_with fail
          go_quiet (fail)
          go_wp2
          all_goals (go_ret; exact ⟨ret_bool (by rw [HANS2.out]; rfl), below_drewN T3.A.K _⟩)
        · rw [hp] at hlk HANS2
          go_wp2_with fail
          go_quiet (fail)
          go_wp2
          all_goals (go_ret; exact ⟨ret_bool (by rw [HANS2.out]; simp), below_drewN T3.A.K _⟩)
end Go.Proofs.YtnlckjepbpnegaaGreatDoor
