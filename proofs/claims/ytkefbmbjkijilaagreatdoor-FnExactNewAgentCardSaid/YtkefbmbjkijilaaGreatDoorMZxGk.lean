/-
  SameState decides whether two states hold the same: the model's and the program's.
-/
import Derived.Test.YtkefbmbjkijilaaGreatDoorMZ13
import Derived.Test.YtkefbmbjkijilaaGreatDoorMZxVx
import Derived.BigQuiet
import Derived.RegionTactic
import Derived.BigRegion
/- Gk -/
set_option linter.unusedVariables false
namespace Go.Proofs.YtkefbmbjkijilaaGreatDoor
open Go.RowKit

set_option maxRecDepth 100000 in
set_option maxHeartbeats 16000000 in
theorem specSame_any (pv sv : Value) (t s : StD) (w : World) (hp : IsSt w w.heap.size pv t) (hs : IsSt w w.heap.size sv s) : Calls Tryz.prog 29 #[pv, sv] w fun e w' => e = .returned (.bool (decide (t = s))) ∧ Below w.heap.size w w' := by
  obtain ⟨⟨A0, A1, A2, A3, c0, c1, c2, c3, rfl, s0, s1, s2, s3⟩, b0, b1, b2, b3⟩ := hp
  obtain ⟨⟨B0, B1, B2, B3, d0, d1, d2, d3, rfl, t0, t1, t2, t3⟩, f0, f1, f2, f3⟩ := hs
  obtain ⟨ph, co, ck, bo, ba, lb, l0, l1, l2, l3, gd, pr⟩ := t
  obtain ⟨ph', co', ck', bo', ba', lb', m0, m1, m2, m3, gd', pr'⟩ := s
  dsimp only at *
  obtain ⟨ans, hans⟩ : ∃ ans, decide (StD.mk ph co ck bo ba lb l0 l1 l2 l3 gd pr = StD.mk ph' co' ck' bo' ba' lb' m0 m1 m2 m3 gd' pr') = ans := ⟨_, rfl⟩
  rw [hans]
  have HANS := Lib.hid hans
  clear hans
  have S0 := Lib.hid s0
  have T0 := Lib.hid t0
  have hn0 : l0.length ≤ 2 ^ 63 - 1 := by unfold maxLen at b0; omega
  have hm0 : m0.length ≤ 2 ^ 63 - 1 := by unfold maxLen at f0; omega
  clear s0 t0 b0 f0
  generalize hq0 : l0.length = n0 at *
  generalize hp0 : m0.length = k0 at *
  have Q0 := Lib.hid hq0
  have P0 := Lib.hid hp0
  clear hq0 hp0
  have S1 := Lib.hid s1
  have T1 := Lib.hid t1
  have hn1 : l1.length ≤ 2 ^ 63 - 1 := by unfold maxLen at b1; omega
  have hm1 : m1.length ≤ 2 ^ 63 - 1 := by unfold maxLen at f1; omega
  clear s1 t1 b1 f1
  generalize hq1 : l1.length = n1 at *
  generalize hp1 : m1.length = k1 at *
  have Q1 := Lib.hid hq1
  have P1 := Lib.hid hp1
  clear hq1 hp1
  have S2 := Lib.hid s2
  have T2 := Lib.hid t2
  have hn2 : l2.length ≤ 2 ^ 63 - 1 := by unfold maxLen at b2; omega
  have hm2 : m2.length ≤ 2 ^ 63 - 1 := by unfold maxLen at f2; omega
  clear s2 t2 b2 f2
  generalize hq2 : l2.length = n2 at *
  generalize hp2 : m2.length = k2 at *
  have Q2 := Lib.hid hq2
  have P2 := Lib.hid hp2
  clear hq2 hp2
  have S3 := Lib.hid s3
  have T3 := Lib.hid t3
  have hn3 : l3.length ≤ 2 ^ 63 - 1 := by unfold maxLen at b3; omega
  have hm3 : m3.length ≤ 2 ^ 63 - 1 := by unfold maxLen at f3; omega
  clear s3 t3 b3 f3
  generalize hq3 : l3.length = n3 at *
  generalize hp3 : m3.length = k3 at *
  have Q3 := Lib.hid hq3
  have P3 := Lib.hid hp3
  clear hq3 hp3
  have X := (Own.box w (stC A0 A1 A2 A3 n0 c0 n1 c1 n2 c2 n3 c3 ph co ck bo ba lb gd pr) 46).alloc (.cells (stC B0 B1 B2 B3 k0 d0 k1 d1 k2 d2 k3 d3 ph' co' ck' bo' ba' lb' gd' pr') 46)
  have Y := Own.box2 ((Below.refl _ _).alloc (Nat.le_refl _) (.cells (stC A0 A1 A2 A3 n0 c0 n1 c1 n2 c2 n3 c3 ph co ck bo ba lb gd pr) 46)) (stC B0 B1 B2 B3 k0 d0 k1 d1 k2 d2 k3 d3 ph' co' ck' bo' ba' lb' gd' pr') 46 (w := w)
  rw [heap_size_alloc_] at Y
  go_enter Tryz.func29, Tryz.ntmps29
  by_cases hx : ph = ph'
  case neg =>
    have HF : Hid (ans = false) := Lib.hid (by rw [← HANS.out]; exact decide_eq_false (fun e => hx (congrArg StD.ph e)))
    have e0 : (ph == ph') = false := by simpa using hx
    have e1 : (ph != ph') = true := by simpa using hx
    clear hx
    go_wp2
    all_goals (go_ret; exact ⟨by rw [HF.out]; rfl, X.K⟩)
  subst hx
  by_cases hx : co = co'
  case neg =>
    have HF : Hid (ans = false) := Lib.hid (by rw [← HANS.out]; exact decide_eq_false (fun e => hx (congrArg StD.co e)))
    have e0 : (co == co') = false := by simpa using hx
    have e1 : (co != co') = true := by simpa using hx
    clear hx
    go_wp2
    all_goals (go_ret; exact ⟨by rw [HF.out]; rfl, X.K⟩)
  subst hx
  by_cases hx : ck = ck'
  case neg =>
    have HF : Hid (ans = false) := Lib.hid (by rw [← HANS.out]; exact decide_eq_false (fun e => hx (congrArg StD.ck e)))
    have e0 : (ck == ck') = false := by simpa using hx
    have e1 : (ck != ck') = true := by simpa using hx
    clear hx
    go_wp2
    all_goals (go_ret; exact ⟨by rw [HF.out]; rfl, X.K⟩)
  subst hx
  by_cases hx : bo = bo'
  case neg =>
    have HF : Hid (ans = false) := Lib.hid (by rw [← HANS.out]; exact decide_eq_false (fun e => hx (congrArg StD.bo e)))
    have e0 : (bo == bo') = false := by simpa using hx
    have e1 : (bo != bo') = true := by simpa using hx
    clear hx
    go_wp2
    all_goals (go_ret; exact ⟨by rw [HF.out]; rfl, X.K⟩)
  subst hx
  by_cases hx : ba = ba'
  case neg =>
    have HF : Hid (ans = false) := Lib.hid (by rw [← HANS.out]; exact decide_eq_false (fun e => hx (congrArg StD.ba e)))
    have e0 : (ba == ba') = false := by simpa using hx
    have e1 : (ba != ba') = true := by simpa using hx
    clear hx
    go_wp2
    all_goals (go_ret; exact ⟨by rw [HF.out]; rfl, X.K⟩)
  subst hx
  by_cases hx : lb = lb'
  case neg =>
    have HF : Hid (ans = false) := Lib.hid (by rw [← HANS.out]; exact decide_eq_false (fun e => hx (congrArg StD.lb e)))
    have e0 : (lb == lb') = false := by simpa using hx
    have e1 : (lb != lb') = true := by simpa using hx
    clear hx
    go_wp2
    all_goals (go_ret; exact ⟨by rw [HF.out]; rfl, X.K⟩)
  subst hx
  by_cases hx : gd = gd'
  case neg =>
    have HF : Hid (ans = false) := Lib.hid (by rw [← HANS.out]; exact decide_eq_false (fun e => hx (congrArg StD.gd e)))
    have e0 : (gd == gd') = false := by simpa using hx
    have e1 : (gd != gd') = true := by simpa using hx
    clear hx
    go_wp2
    all_goals (go_ret; exact ⟨by rw [HF.out]; rfl, X.K⟩)
  subst hx
  by_cases hx : pr = pr'
  case neg =>
    have HF : Hid (ans = false) := Lib.hid (by rw [← HANS.out]; exact decide_eq_false (fun e => hx (congrArg StD.pr e)))
    have e0 : (pr == pr') = false := by simpa using hx
    have e1 : (pr != pr') = true := by simpa using hx
    clear hx
    go_wp2
    all_goals (go_ret; exact ⟨by rw [HF.out]; rfl, X.K⟩)
  subst hx
  by_cases hx : n0 = k0
  case neg =>
    have HF : Hid (ans = false) := Lib.hid (by rw [← HANS.out]; exact decide_eq_false (fun e => hx (by rw [← Q0.out, ← P0.out]; exact congrArg (fun s => s.pods.length) e)))
    have e0 : ((n0 : Int) == (k0 : Int)) = false := beq_eq_false_iff_ne.2 (fun h => hx (by omega))
    have e1 : ((n0 : Int) != (k0 : Int)) = true := bne_iff_ne.2 (fun h => hx (by omega))
    clear hx
    go_wp2
    all_goals (go_ret; exact ⟨by rw [HF.out]; rfl, X.K⟩)
  subst hx
  by_cases hx : n1 = k1
  case neg =>
    have HF : Hid (ans = false) := Lib.hid (by rw [← HANS.out]; exact decide_eq_false (fun e => hx (by rw [← Q1.out, ← P1.out]; exact congrArg (fun s => s.mnts.length) e)))
    have e0 : ((n1 : Int) == (k1 : Int)) = false := beq_eq_false_iff_ne.2 (fun h => hx (by omega))
    have e1 : ((n1 : Int) != (k1 : Int)) = true := bne_iff_ne.2 (fun h => hx (by omega))
    clear hx
    go_wp2
    all_goals (go_ret; exact ⟨by rw [HF.out]; rfl, X.K⟩)
  subst hx
  by_cases hx : n2 = k2
  case neg =>
    have HF : Hid (ans = false) := Lib.hid (by rw [← HANS.out]; exact decide_eq_false (fun e => hx (by rw [← Q2.out, ← P2.out]; exact congrArg (fun s => s.devs.length) e)))
    have e0 : ((n2 : Int) == (k2 : Int)) = false := beq_eq_false_iff_ne.2 (fun h => hx (by omega))
    have e1 : ((n2 : Int) != (k2 : Int)) = true := bne_iff_ne.2 (fun h => hx (by omega))
    clear hx
    go_wp2
    all_goals (go_ret; exact ⟨by rw [HF.out]; rfl, X.K⟩)
  subst hx
  by_cases hx : n3 = k3
  case neg =>
    have HF : Hid (ans = false) := Lib.hid (by rw [← HANS.out]; exact decide_eq_false (fun e => hx (by rw [← Q3.out, ← P3.out]; exact congrArg (fun s => s.lks.length) e)))
    have e0 : ((n3 : Int) == (k3 : Int)) = false := beq_eq_false_iff_ne.2 (fun h => hx (by omega))
    have e1 : ((n3 : Int) != (k3 : Int)) = true := bne_iff_ne.2 (fun h => hx (by omega))
    clear hx
    go_wp2
    all_goals (go_ret; exact ⟨by rw [HF.out]; rfl, X.K⟩)
  subst hx
  go_wp2_with fail
  generalize (w.alloc (.cells (stC A0 A1 A2 A3 n0 c0 n1 c1 n2 c2 n3 c3 ph co ck bo ba lb gd pr) 46)).alloc (.cells (stC B0 B1 B2 B3 n0 d0 n1 d1 n2 d2 n3 d3 ph co ck bo ba lb gd pr) 46) = w1 at X Y ⊢
  go_loopw [5] (fun i wr => ∃ k : Nat, k ≤ n0 ∧ i = .int .i64 k ∧ Hid (eqUp l0 m0 (0, 0) k) ∧ Own w wr w.heap.size (stC A0 A1 A2 A3 n0 c0 n1 c1 n2 c2 n3 c3 ph co ck bo ba lb gd pr) ∧ Own w wr (w.heap.size + 1) (stC B0 B1 B2 B3 n0 d0 n1 d1 n2 d2 n3 d3 ph co ck bo ba lb gd pr)) (fun i _ => n0 - (intOf i).toNat)
  case atStart => exact ⟨0, Nat.zero_le _, rfl, Lib.hid eqUp_zero, X, Y⟩
  case round =>
  clear X Y
  obtain ⟨k, hk, rfl, HALL, X, Y⟩ := hrel
  have hX := X.C
  have hY := Y.C
  by_cases hlt : k < n0
  case pos =>
    obtain ⟨b, off, rfl, hb, hc⟩ := (S0.out.below X.K (Nat.le_refl _)).cell hlt
    obtain ⟨b', off', rfl, hb', hc'⟩ := (T0.out.below X.K (Nat.le_refl _)).cell hlt
    have hp := podCs_at l0 (i := k) (by rw [Q0.out]; exact hlt)
    have hp' := podCs_at m0 (i := k) (by rw [P0.out]; exact hlt)
    have q0 := (hc 0 (by decide)).trans hp.1
    have q1 := (hc 1 (by decide)).trans hp.2
    have r0 := (hc' 0 (by decide)).trans hp'.1
    have r1 := (hc' 1 (by decide)).trans hp'.2
    rw [Nat.add_zero] at q0 r0
    clear hc hc' hp hp' hb hb'
    have HEQ : Hid (podA l0 k = podA m0 k → eqUp l0 m0 (0, 0) (k + 1)) := Lib.hid fun h => eqUp_next HALL.out h
    have HNE : Hid (¬ podA l0 k = podA m0 k → ans = false) := Lib.hid fun h => by rw [← HANS.out]; exact decide_eq_false (fun e => h (congrArg (fun s => podA s.pods k) e))
    generalize podA l0 k = z at *
    generalize podA m0 k = z' at *
    obtain ⟨x, y⟩ := z
    obtain ⟨x', y'⟩ := z'
    dsimp only at q0 q1 r0 r1
    by_cases hx : x = x'
    case neg =>
      have HF : Hid (ans = false) := Lib.hid (HNE.out fun h => hx (congrArg Prod.fst h))
      have e0 : (x == x') = false := by simpa using hx
      have e1 : (x != x') = true := by simpa using hx
      clear hx HEQ HNE
      go_wp2_with fail
      go_quiet (fail)
      go_wp2
      all_goals (go_ret; exact ⟨by rw [HF.out]; rfl, (X.drewN _).K⟩)
    subst hx
    by_cases hy : y = y'
    case neg =>
      have HF : Hid (ans = false) := Lib.hid (HNE.out fun h => hy (congrArg Prod.snd h))
      have e0 : (y == y') = false := by simpa using hy
      have e1 : (y != y') = true := by simpa using hy
      clear hy HEQ HNE
      go_wp2_with fail
      go_quiet (fail)
      go_wp2
      all_goals (go_ret; exact ⟨by rw [HF.out]; rfl, (X.drewN _).K⟩)
    subst hy
    have HA := Lib.hid (HEQ.out rfl)
    clear HEQ HNE
    go_wp2_with fail
    go_quiet (fail)
    go_wp2_with fail
    exact ⟨⟨k + 1, by omega, by go_num, HA, X.drewN _, Y.drewN _⟩, by simp [intOf]; omega⟩
  obtain rfl : n0 = k := by omega
  clear hlt hk
  have HE0 : Hid (l0 = m0) := Lib.hid (eqUp_all HALL.out Q0.out P0.out)
  clear HALL
  go_wp2_with fail
  go_loopw [6] (fun i wr => ∃ k : Nat, k ≤ n1 ∧ i = .int .i64 k ∧ Hid (eqUp l1 m1 (false, 0) k) ∧ Own w wr w.heap.size (stC A0 A1 A2 A3 n0 c0 n1 c1 n2 c2 n3 c3 ph co ck bo ba lb gd pr) ∧ Own w wr (w.heap.size + 1) (stC B0 B1 B2 B3 n0 d0 n1 d1 n2 d2 n3 d3 ph co ck bo ba lb gd pr)) (fun i _ => n1 - (intOf i).toNat)
  case atStart => exact ⟨0, Nat.zero_le _, rfl, Lib.hid eqUp_zero, X, Y⟩
  case round =>
  clear X Y hX hY
  obtain ⟨k, hk, rfl, HALL, X, Y⟩ := hrel
  have hX := X.C
  have hY := Y.C
  by_cases hlt : k < n1
  case pos =>
    obtain ⟨b, off, rfl, hb, hc⟩ := (S1.out.below X.K (Nat.le_refl _)).cell hlt
    obtain ⟨b', off', rfl, hb', hc'⟩ := (T1.out.below X.K (Nat.le_refl _)).cell hlt
    have hp := mntCs_at l1 (i := k) (by rw [Q1.out]; exact hlt)
    have hp' := mntCs_at m1 (i := k) (by rw [P1.out]; exact hlt)
    have q0 := (hc 0 (by decide)).trans hp.1
    have q1 := (hc 1 (by decide)).trans hp.2
    have r0 := (hc' 0 (by decide)).trans hp'.1
    have r1 := (hc' 1 (by decide)).trans hp'.2
    rw [Nat.add_zero] at q0 r0
    clear hc hc' hp hp' hb hb'
    have HEQ : Hid (mntA l1 k = mntA m1 k → eqUp l1 m1 (false, 0) (k + 1)) := Lib.hid fun h => eqUp_next HALL.out h
    have HNE : Hid (¬ mntA l1 k = mntA m1 k → ans = false) := Lib.hid fun h => by rw [← HANS.out]; exact decide_eq_false (fun e => h (congrArg (fun s => mntA s.mnts k) e))
    generalize mntA l1 k = z at *
    generalize mntA m1 k = z' at *
    obtain ⟨x, y⟩ := z
    obtain ⟨x', y'⟩ := z'
    dsimp only at q0 q1 r0 r1
    by_cases hx : x = x'
    case neg =>
      have HF : Hid (ans = false) := Lib.hid (HNE.out fun h => hx (congrArg Prod.fst h))
      have e0 : (x == x') = false := by simpa using hx
      have e1 : (x != x') = true := by simpa using hx
      clear hx HEQ HNE
      go_wp2_with fail
      go_quiet (fail)
      go_wp2
      all_goals (go_ret; exact ⟨by rw [HF.out]; rfl, (X.drewN _).K⟩)
    subst hx
    by_cases hy : y = y'
    case neg =>
      have HF : Hid (ans = false) := Lib.hid (HNE.out fun h => hy (congrArg Prod.snd h))
      have e0 : (y == y') = false := by simpa using hy
      have e1 : (y != y') = true := by simpa using hy
      clear hy HEQ HNE
      go_wp2_with fail
      go_quiet (fail)
      go_wp2
      all_goals (go_ret; exact ⟨by rw [HF.out]; rfl, (X.drewN _).K⟩)
    subst hy
    have HA := Lib.hid (HEQ.out rfl)
    clear HEQ HNE
    go_wp2_with fail
    go_quiet (fail)
    go_wp2_with fail
    exact ⟨⟨k + 1, by omega, by go_num, HA, X.drewN _, Y.drewN _⟩, by simp [intOf]; omega⟩
  obtain rfl : n1 = k := by omega
  clear hlt hk
  have HE1 : Hid (l1 = m1) := Lib.hid (eqUp_all HALL.out Q1.out P1.out)
  clear HALL
  go_wp2_with fail
  go_loopw [7] (fun i wr => ∃ k : Nat, k ≤ n2 ∧ i = .int .i64 k ∧ Hid (eqUp l2 m2 false k) ∧ Own w wr w.heap.size (stC A0 A1 A2 A3 n0 c0 n1 c1 n2 c2 n3 c3 ph co ck bo ba lb gd pr) ∧ Own w wr (w.heap.size + 1) (stC B0 B1 B2 B3 n0 d0 n1 d1 n2 d2 n3 d3 ph co ck bo ba lb gd pr)) (fun i _ => n2 - (intOf i).toNat)
  case atStart => exact ⟨0, Nat.zero_le _, rfl, Lib.hid eqUp_zero, X, Y⟩
  case round =>
  clear X Y hX hY
  obtain ⟨k, hk, rfl, HALL, X, Y⟩ := hrel
  have hX := X.C
  have hY := Y.C
  by_cases hlt : k < n2
  case pos =>
    obtain ⟨b, off, rfl, hb, hc⟩ := (S2.out.below X.K (Nat.le_refl _)).cell hlt
    obtain ⟨b', off', rfl, hb', hc'⟩ := (T2.out.below X.K (Nat.le_refl _)).cell hlt
    have hp := devCs_at l2 (i := k) (by rw [Q2.out]; exact hlt)
    have hp' := devCs_at m2 (i := k) (by rw [P2.out]; exact hlt)
    have q0 := hc 0 (by decide)
    have r0 := hc' 0 (by decide)
    rw [Nat.add_zero, Nat.mul_one, Nat.add_zero] at q0 r0
    rw [hp] at q0
    rw [hp'] at r0
    clear hc hc' hp hp' hb hb'
    have HEQ : Hid (devA l2 k = devA m2 k → eqUp l2 m2 false (k + 1)) := Lib.hid fun h => eqUp_next HALL.out h
    have HNE : Hid (¬ devA l2 k = devA m2 k → ans = false) := Lib.hid fun h => by rw [← HANS.out]; exact decide_eq_false (fun e => h (congrArg (fun s => devA s.devs k) e))
    generalize devA l2 k = z at *
    generalize devA m2 k = z' at *
    by_cases hx : z = z'
    case neg =>
      have HF : Hid (ans = false) := Lib.hid (HNE.out hx)
      have e0 : (z == z') = false := by simpa using hx
      have e1 : (z != z') = true := by simpa using hx
      clear hx HEQ HNE
      go_wp2_with fail
      go_quiet (fail)
      go_wp2
      all_goals (go_ret; exact ⟨by rw [HF.out]; rfl, (X.drewN _).K⟩)
    subst hx
    have HA := Lib.hid (HEQ.out rfl)
    clear HEQ HNE
    go_wp2_with fail
    go_quiet (fail)
    go_wp2_with fail
    exact ⟨⟨k + 1, by omega, by go_num, HA, X.drewN _, Y.drewN _⟩, by simp [intOf]; omega⟩
  obtain rfl : n2 = k := by omega
  clear hlt hk
  have HE2 : Hid (l2 = m2) := Lib.hid (eqUp_all HALL.out Q2.out P2.out)
  clear HALL
  go_wp2_with fail
  go_loopw [8] (fun i wr => ∃ k : Nat, k ≤ n3 ∧ i = .int .i64 k ∧ Hid (eqUp l3 m3 0 k) ∧ Own w wr w.heap.size (stC A0 A1 A2 A3 n0 c0 n1 c1 n2 c2 n3 c3 ph co ck bo ba lb gd pr) ∧ Own w wr (w.heap.size + 1) (stC B0 B1 B2 B3 n0 d0 n1 d1 n2 d2 n3 d3 ph co ck bo ba lb gd pr)) (fun i _ => n3 - (intOf i).toNat)
  case atStart => exact ⟨0, Nat.zero_le _, rfl, Lib.hid eqUp_zero, X, Y⟩
  case round =>
  clear X Y hX hY
  obtain ⟨k, hk, rfl, HALL, X, Y⟩ := hrel
  have hX := X.C
  have hY := Y.C
  by_cases hlt : k < n3
  case pos =>
    obtain ⟨b, off, rfl, hb, hc⟩ := (S3.out.below X.K (Nat.le_refl _)).cell hlt
    obtain ⟨b', off', rfl, hb', hc'⟩ := (T3.out.below X.K (Nat.le_refl _)).cell hlt
    have hp := lkCs_at l3 (i := k) (by rw [Q3.out]; exact hlt)
    have hp' := lkCs_at m3 (i := k) (by rw [P3.out]; exact hlt)
    have q0 := hc 0 (by decide)
    have r0 := hc' 0 (by decide)
    rw [Nat.add_zero, Nat.mul_one, Nat.add_zero] at q0 r0
    rw [hp] at q0
    rw [hp'] at r0
    clear hc hc' hp hp' hb hb'
    have HEQ : Hid (lkA l3 k = lkA m3 k → eqUp l3 m3 0 (k + 1)) := Lib.hid fun h => eqUp_next HALL.out h
    have HNE : Hid (¬ lkA l3 k = lkA m3 k → ans = false) := Lib.hid fun h => by rw [← HANS.out]; exact decide_eq_false (fun e => h (congrArg (fun s => lkA s.lks k) e))
    generalize lkA l3 k = z at *
    generalize lkA m3 k = z' at *
    by_cases hx : z = z'
    case neg =>
      have HF : Hid (ans = false) := Lib.hid (HNE.out hx)
      have e0 : (z == z') = false := by simpa using hx
      have e1 : (z != z') = true := by simpa using hx
      clear hx HEQ HNE
      go_wp2_with fail
      go_quiet (fail)
      go_wp2
      all_goals (go_ret; exact ⟨by rw [HF.out]; rfl, (X.drewN _).K⟩)
    subst hx
    have HA := Lib.hid (HEQ.out rfl)
    clear HEQ HNE
    go_wp2_with fail
    go_quiet (fail)
    go_wp2_with fail
    exact ⟨⟨k + 1, by omega, by go_num, HA, X.drewN _, Y.drewN _⟩, by simp [intOf]; omega⟩
  obtain rfl : n3 = k := by omega
  clear hlt hk
  have HE3 : Hid (l3 = m3) := Lib.hid (eqUp_all HALL.out Q3.out P3.out)
  clear HALL
  go_wp2_with fail
  have HT : Hid (ans = true) := Lib.hid (by rw [← HANS.out]; exact decide_eq_true (by rw [HE0.out, HE1.out, HE2.out, HE3.out]))
  go_ret
  exact ⟨by rw [HT.out]; rfl, X.K⟩
end Go.Proofs.YtkefbmbjkijilaaGreatDoor
