/-
  Chapter 10 of the program: evict, changePod, busy.
-/
import Derived.Test.YtnefiefimpjhpaaGreatDoorMZxJd
/- Jf -/
set_option linter.unusedVariables false
namespace Go.Proofs.YtnefiefimpjhpaaGreatDoor
open Go.RowKit

set_option maxRecDepth 8000 in
set_option maxHeartbeats 4000000 in
theorem evict_any (K O P S B : Addr) (v : Value) (d : PlanD) (s : StD) (a b : Int) (w : World) (h : IsCmd w w.heap.size v d s a b) (hok : StOk d s) (hE : Errs w K O P S B) :
    Calls Tryz.prog 86 #[v] w (TryA K O P S B w (evictT d s a)) := by
  have OK := Lib.hid hok
  clear hok
  obtain ⟨⟨A0, A1, A2, A3, c0, c1, c2, c3, E0, E1, E2, E3, k0, k1, k2, k3, rfl, ⟨p0, p1, p2, p3⟩, q0, q1, q2, q3⟩, ⟨b0, b1, b2, b3⟩, ⟨f0, f1, f2, f3⟩⟩ := h
  have X := Own.box w (cmdC A0 A1 A2 A3 d.n0 c0 d.n1 c1 d.n2 c2 d.n3 c3 d.l d.p d.t E0 E1 E2 E3 s.pods.length k0 s.mnts.length k1 s.devs.length k2 s.lks.length k3 s.ph s.co s.ck s.bo s.ba s.lb s.gd s.pr a b) 54
  have HP := Lib.hid (((show IsPlan w w.heap.size (planV A0 A1 A2 A3 d.n0 c0 d.n1 c1 d.n2 c2 d.n3 c3 d.l d.p d.t) d from ⟨⟨A0, A1, A2, A3, c0, c1, c2, c3, rfl, p0, p1, p2, p3⟩, b0, b1, b2, b3⟩).below X.K (Nat.le_refl _)).more X.K.size)
  have HS := Lib.hid (((show IsSt w w.heap.size (.agg (stC E0 E1 E2 E3 s.pods.length k0 s.mnts.length k1 s.devs.length k2 s.lks.length k3 s.ph s.co s.ck s.bo s.ba s.lb s.gd s.pr)) s from ⟨⟨E0, E1, E2, E3, k0, k1, k2, k3, rfl, q0, q1, q2, q3⟩, f0, f1, f2, f3⟩).below X.K (Nat.le_refl _)).more X.K.size)
  have Q0 := Lib.hid ((q0.below X.K (Nat.le_refl _)).more X.K.size)
  have Q1 := Lib.hid ((q1.below X.K (Nat.le_refl _)).more X.K.size)
  have Q3 := Lib.hid ((q3.below X.K (Nat.le_refl _)).more X.K.size)
  have F3 := Lib.hid f3
  unfold maxLen at b0 b1 b2 b3 f0 f1 f2 f3
  clear p0 p1 p2 p3 q0 q1 q2 q3
  have HE := Lib.hid (hE.below X.K)
  clear hE
  have HA : Hid ((evictT d s a) = (evictT d s a)) := Lib.hid rfl
  obtain ⟨ans, hans⟩ : ∃ ans, (evictT d s a) = ans := ⟨_, rfl⟩
  rw [hans]
  have HANS := Lib.hid hans
  clear hans HA
  go_enter Tryz.func86, Tryz.ntmps86
  go_upto_region 1 with fail
  generalize w.alloc (.cells (cmdC A0 A1 A2 A3 d.n0 c0 d.n1 c1 d.n2 c2 d.n3 c3 d.l d.p d.t E0 E1 E2 E3 s.pods.length k0 s.mnts.length k1 s.devs.length k2 s.lks.length k3 s.ph s.co s.ck s.bo s.ba s.lb s.gd s.pr a b) 54) = W at X HP HS Q0 Q1 Q3 HE ⊢
  have hC := X.C
  have hg := HE.out.p.1
  have hg1 := HE.out.s.1
  have hg2 := HE.out.b.1
  go_wp2_with fail
  refine (isIndex_any _ _ _).mono ?_
  rintro e w2 ⟨rfl, rfl⟩
  cases hin : inB a 0 (d.n0 - 1)
  · have HIN := Lib.hid hin
    clear hin
    go_wp2_with fail
    go_quiet (fail)
    go_wp2
    all_goals (go_ret2; rw [← HANS.out, evictT, if_pos HIN.out]; exact TryA.no (.missing a) (below_drewN X.K _))
  · have HIN : Hid (¬ inB a 0 (d.n0 - 1) = false) := Lib.hid (by rw [hin]; decide)
    obtain ⟨i, rfl, hi⟩ := index_nat (a := a) (n := d.n0) (by rw [hin]; decide)
    clear hin
    have hil : i < s.pods.length := by have := OK.out.np; omega
    cases hph : (s.ph != 2)
    case true =>
      have HPH : Hid (s.ph ≠ 2) := Lib.hid (by simpa using hph)
      go_wp2_with fail
      go_quiet (fail)
      go_wp2
      all_goals (go_ret2; rw [← HANS.out, evictT, if_neg HIN.out, if_pos HPH.out]; exact TryA.no .phase (below_drewN X.K _))
    case false =>
      have HPH : Hid (¬ s.ph ≠ 2) := Lib.hid (by simpa using hph)
      obtain ⟨b', off', rfl, hb', hc⟩ := Q0.out.cell hil
      have p0 := (hc 0 (by decide)).trans (podCs_at s.pods (i := i) hil).1
      rw [Nat.add_zero] at p0
      clear hc
      have HPA : Hid (podA s.pods i = podAt s (i : Int).toNat) := Lib.hid rfl
      generalize podA s.pods i = pa at p0 HPA
      cases hst : (pa.1 != 0)
      case true =>
        have HST : Hid ((podAt s (i : Int).toNat).1 ≠ 0) := Lib.hid (by rw [← HPA.out]; simpa using hst)
        go_wp2_with fail
        go_quiet (fail)
        go_wp2
        all_goals (go_ret2; rw [← HANS.out, evictT, if_neg HIN.out, if_neg HPH.out, if_pos HST.out]; exact TryA.no .state (below_drewN X.K _))
      case false =>
        have HST : Hid (¬ (podAt s (i : Int).toNat).1 ≠ 0) := Lib.hid (by rw [← HPA.out]; simpa using hst)
        go_wp2_with fail
        refine (implMayEvict_any _ _ d s i _ HP.out HS.out).mono ?_
        rintro e w3 ⟨rfl, hb3⟩
        rw [show stOkB d s = true from stOkB_iff.2 OK.out, Bool.true_and]
        have X3 := X.step hb3
        have HE3 := Lib.hid (HE.out.below hb3)
        have hC := X3.C
        have hg := HE3.out.p.1
        have hg1 := HE3.out.s.1
        have hg2 := HE3.out.b.1
        cases hme : mayEvictB d s i
        · have HME := Lib.hid hme
          clear hme
          go_wp2_with fail
          go_quiet (fail)
          go_wp2
          all_goals (go_ret2; rw [← HANS.out, evictT, if_neg HIN.out, if_neg HPH.out, if_neg HST.out, if_pos HME.out]; exact TryA.no .budget (below_drewN X3.K _))
        · have HME : Hid (¬ mayEvictB d s i = false) := Lib.hid (by rw [hme]; decide)
          clear hme
          go_wp2
          all_goals (go_ret2; rw [← HANS.out, evictT, if_neg HIN.out, if_neg HPH.out, if_neg HST.out, if_neg HME.out]; exact TryA.one 2 i 6 X3.K)

set_option maxRecDepth 8000 in
set_option maxHeartbeats 4000000 in
theorem hook_any (K O P S B : Addr) (v : Value) (d : PlanD) (s : StD) (a b : Int) (w : World) (h : IsCmd w w.heap.size v d s a b) (hok : StOk d s) (hE : Errs w K O P S B) :
    Calls Tryz.prog 91 #[v, .func (.func 92) #[] #[]] w (TryA K O P S B w (toldT d s hookD a)) := by
  have OK := Lib.hid hok
  clear hok
  obtain ⟨⟨A0, A1, A2, A3, c0, c1, c2, c3, E0, E1, E2, E3, k0, k1, k2, k3, rfl, ⟨p0, p1, p2, p3⟩, q0, q1, q2, q3⟩, ⟨b0, b1, b2, b3⟩, ⟨f0, f1, f2, f3⟩⟩ := h
  have X := Own.box w (cmdC A0 A1 A2 A3 d.n0 c0 d.n1 c1 d.n2 c2 d.n3 c3 d.l d.p d.t E0 E1 E2 E3 s.pods.length k0 s.mnts.length k1 s.devs.length k2 s.lks.length k3 s.ph s.co s.ck s.bo s.ba s.lb s.gd s.pr a b) 54
  have HP := Lib.hid (((show IsPlan w w.heap.size (planV A0 A1 A2 A3 d.n0 c0 d.n1 c1 d.n2 c2 d.n3 c3 d.l d.p d.t) d from ⟨⟨A0, A1, A2, A3, c0, c1, c2, c3, rfl, p0, p1, p2, p3⟩, b0, b1, b2, b3⟩).below X.K (Nat.le_refl _)).more X.K.size)
  have HS := Lib.hid (((show IsSt w w.heap.size (.agg (stC E0 E1 E2 E3 s.pods.length k0 s.mnts.length k1 s.devs.length k2 s.lks.length k3 s.ph s.co s.ck s.bo s.ba s.lb s.gd s.pr)) s from ⟨⟨E0, E1, E2, E3, k0, k1, k2, k3, rfl, q0, q1, q2, q3⟩, f0, f1, f2, f3⟩).below X.K (Nat.le_refl _)).more X.K.size)
  have Q0 := Lib.hid ((q0.below X.K (Nat.le_refl _)).more X.K.size)
  have Q1 := Lib.hid ((q1.below X.K (Nat.le_refl _)).more X.K.size)
  have Q3 := Lib.hid ((q3.below X.K (Nat.le_refl _)).more X.K.size)
  have F3 := Lib.hid f3
  unfold maxLen at b0 b1 b2 b3 f0 f1 f2 f3
  clear p0 p1 p2 p3 q0 q1 q2 q3
  have HE := Lib.hid (hE.below X.K)
  clear hE
  have HA : Hid ((toldT d s hookD a) = (toldT d s hookD a)) := Lib.hid rfl
  obtain ⟨ans, hans⟩ : ∃ ans, (toldT d s hookD a) = ans := ⟨_, rfl⟩
  rw [hans]
  have HANS := Lib.hid hans
  clear hans HA
  go_enter Tryz.func91, Tryz.ntmps91
  go_upto_region 1 with fail
  generalize w.alloc (.cells (cmdC A0 A1 A2 A3 d.n0 c0 d.n1 c1 d.n2 c2 d.n3 c3 d.l d.p d.t E0 E1 E2 E3 s.pods.length k0 s.mnts.length k1 s.devs.length k2 s.lks.length k3 s.ph s.co s.ck s.bo s.ba s.lb s.gd s.pr a b) 54) = W at X HP HS Q0 Q1 Q3 HE ⊢
  have hC := X.C
  have hg := HE.out.p.1
  have hg1 := HE.out.s.1
  go_wp2_with fail
  refine (isIndex_any _ _ _).mono ?_
  rintro e w2 ⟨rfl, rfl⟩
  cases hin : inB a 0 (d.n0 - 1)
  · have HIN := Lib.hid hin
    clear hin
    go_wp2_with fail
    go_quiet (fail)
    go_wp2
    all_goals (go_ret2; rw [← HANS.out, toldT, if_pos HIN.out]; exact TryA.no (.missing a) (below_drewN X.K _))
  · have HIN : Hid (¬ inB a 0 (d.n0 - 1) = false) := Lib.hid (by rw [hin]; decide)
    obtain ⟨i, rfl, hi⟩ := index_nat (a := a) (n := d.n0) (by rw [hin]; decide)
    clear hin
    have hil : i < s.pods.length := by have := OK.out.np; omega
    obtain ⟨b', off', rfl, hb', hc⟩ := Q0.out.cell hil
    have p0 := (hc 0 (by decide)).trans (podCs_at s.pods (i := i) hil).1
    rw [Nat.add_zero] at p0
    clear hc
    have HPA : Hid (podA s.pods i = podAt s (i : Int).toNat) := Lib.hid rfl
    generalize podA s.pods i = pa at p0 HPA
    go_wp2_with fail
    refine (implHook_any pa.1 _).mono ?_
    rintro e w3 ⟨rfl, rfl⟩
    have HX : Hid (hookD pa.1 = hookD (podAt s (i : Int).toNat).1) := Lib.hid (by rw [HPA.out])
    generalize hookD pa.1 = x at HX ⊢
    cases hx : (x == -1)
    · have HNX : Hid (¬ hookD (podAt s (i : Int).toNat).1 = -1) := Lib.hid (by rw [← HX.out]; simpa using hx)
      go_wp2
      all_goals (go_ret2; rw [← HANS.out, toldT, if_neg HIN.out, if_neg HNX.out, ← HX.out]; exact TryA.one 2 i x X.K)
    · have HNX : Hid (hookD (podAt s (i : Int).toNat).1 = -1) := Lib.hid (by rw [← HX.out]; simpa using hx)
      go_wp2_with fail
      go_quiet (fail)
      go_wp2
      all_goals (go_ret2; rw [← HANS.out, toldT, if_neg HIN.out, if_pos HNX.out]; exact TryA.no .state (below_drewN X.K _))

set_option maxRecDepth 8000 in
set_option maxHeartbeats 4000000 in
theorem exit_any (K O P S B : Addr) (v : Value) (d : PlanD) (s : StD) (a b : Int) (w : World) (h : IsCmd w w.heap.size v d s a b) (hok : StOk d s) (hE : Errs w K O P S B) :
    Calls Tryz.prog 91 #[v, .func (.func 93) #[] #[]] w (TryA K O P S B w (toldT d s exitD a)) := by
  have OK := Lib.hid hok
  clear hok
  obtain ⟨⟨A0, A1, A2, A3, c0, c1, c2, c3, E0, E1, E2, E3, k0, k1, k2, k3, rfl, ⟨p0, p1, p2, p3⟩, q0, q1, q2, q3⟩, ⟨b0, b1, b2, b3⟩, ⟨f0, f1, f2, f3⟩⟩ := h
  have X := Own.box w (cmdC A0 A1 A2 A3 d.n0 c0 d.n1 c1 d.n2 c2 d.n3 c3 d.l d.p d.t E0 E1 E2 E3 s.pods.length k0 s.mnts.length k1 s.devs.length k2 s.lks.length k3 s.ph s.co s.ck s.bo s.ba s.lb s.gd s.pr a b) 54
  have HP := Lib.hid (((show IsPlan w w.heap.size (planV A0 A1 A2 A3 d.n0 c0 d.n1 c1 d.n2 c2 d.n3 c3 d.l d.p d.t) d from ⟨⟨A0, A1, A2, A3, c0, c1, c2, c3, rfl, p0, p1, p2, p3⟩, b0, b1, b2, b3⟩).below X.K (Nat.le_refl _)).more X.K.size)
  have HS := Lib.hid (((show IsSt w w.heap.size (.agg (stC E0 E1 E2 E3 s.pods.length k0 s.mnts.length k1 s.devs.length k2 s.lks.length k3 s.ph s.co s.ck s.bo s.ba s.lb s.gd s.pr)) s from ⟨⟨E0, E1, E2, E3, k0, k1, k2, k3, rfl, q0, q1, q2, q3⟩, f0, f1, f2, f3⟩).below X.K (Nat.le_refl _)).more X.K.size)
  have Q0 := Lib.hid ((q0.below X.K (Nat.le_refl _)).more X.K.size)
  have Q1 := Lib.hid ((q1.below X.K (Nat.le_refl _)).more X.K.size)
  have Q3 := Lib.hid ((q3.below X.K (Nat.le_refl _)).more X.K.size)
  have F3 := Lib.hid f3
  unfold maxLen at b0 b1 b2 b3 f0 f1 f2 f3
  clear p0 p1 p2 p3 q0 q1 q2 q3
  have HE := Lib.hid (hE.below X.K)
  clear hE
  have HA : Hid ((toldT d s exitD a) = (toldT d s exitD a)) := Lib.hid rfl
  obtain ⟨ans, hans⟩ : ∃ ans, (toldT d s exitD a) = ans := ⟨_, rfl⟩
  rw [hans]
  have HANS := Lib.hid hans
  clear hans HA
  go_enter Tryz.func91, Tryz.ntmps91
  go_upto_region 1 with fail
  generalize w.alloc (.cells (cmdC A0 A1 A2 A3 d.n0 c0 d.n1 c1 d.n2 c2 d.n3 c3 d.l d.p d.t E0 E1 E2 E3 s.pods.length k0 s.mnts.length k1 s.devs.length k2 s.lks.length k3 s.ph s.co s.ck s.bo s.ba s.lb s.gd s.pr a b) 54) = W at X HP HS Q0 Q1 Q3 HE ⊢
  have hC := X.C
  have hg := HE.out.p.1
  have hg1 := HE.out.s.1
  go_wp2_with fail
  refine (isIndex_any _ _ _).mono ?_
  rintro e w2 ⟨rfl, rfl⟩
  cases hin : inB a 0 (d.n0 - 1)
  · have HIN := Lib.hid hin
    clear hin
    go_wp2_with fail
    go_quiet (fail)
    go_wp2
    all_goals (go_ret2; rw [← HANS.out, toldT, if_pos HIN.out]; exact TryA.no (.missing a) (below_drewN X.K _))
  · have HIN : Hid (¬ inB a 0 (d.n0 - 1) = false) := Lib.hid (by rw [hin]; decide)
    obtain ⟨i, rfl, hi⟩ := index_nat (a := a) (n := d.n0) (by rw [hin]; decide)
    clear hin
    have hil : i < s.pods.length := by have := OK.out.np; omega
    obtain ⟨b', off', rfl, hb', hc⟩ := Q0.out.cell hil
    have p0 := (hc 0 (by decide)).trans (podCs_at s.pods (i := i) hil).1
    rw [Nat.add_zero] at p0
    clear hc
    have HPA : Hid (podA s.pods i = podAt s (i : Int).toNat) := Lib.hid rfl
    generalize podA s.pods i = pa at p0 HPA
    go_wp2_with fail
    refine (implExit_any pa.1 _).mono ?_
    rintro e w3 ⟨rfl, rfl⟩
    have HX : Hid (exitD pa.1 = exitD (podAt s (i : Int).toNat).1) := Lib.hid (by rw [HPA.out])
    generalize exitD pa.1 = x at HX ⊢
    cases hx : (x == -1)
    · have HNX : Hid (¬ exitD (podAt s (i : Int).toNat).1 = -1) := Lib.hid (by rw [← HX.out]; simpa using hx)
      go_wp2
      all_goals (go_ret2; rw [← HANS.out, toldT, if_neg HIN.out, if_neg HNX.out, ← HX.out]; exact TryA.one 2 i x X.K)
    · have HNX : Hid (exitD (podAt s (i : Int).toNat).1 = -1) := Lib.hid (by rw [← HX.out]; simpa using hx)
      go_wp2_with fail
      go_quiet (fail)
      go_wp2
      all_goals (go_ret2; rw [← HANS.out, toldT, if_neg HIN.out, if_pos HNX.out]; exact TryA.no .state (below_drewN X.K _))

set_option maxRecDepth 8000 in
set_option maxHeartbeats 4000000 in
theorem busy_any (K O P S B : Addr) (v : Value) (d : PlanD) (s : StD) (a b : Int) (w : World) (h : IsCmd w w.heap.size v d s a b) (hok : StOk d s) (hE : Errs w K O P S B) :
    Calls Tryz.prog 94 #[v] w (TryA K O P S B w (busyT d s a b)) := by
  have OK := Lib.hid hok
  clear hok
  obtain ⟨⟨A0, A1, A2, A3, c0, c1, c2, c3, E0, E1, E2, E3, k0, k1, k2, k3, rfl, ⟨p0, p1, p2, p3⟩, q0, q1, q2, q3⟩, ⟨b0, b1, b2, b3⟩, ⟨f0, f1, f2, f3⟩⟩ := h
  have X := Own.box w (cmdC A0 A1 A2 A3 d.n0 c0 d.n1 c1 d.n2 c2 d.n3 c3 d.l d.p d.t E0 E1 E2 E3 s.pods.length k0 s.mnts.length k1 s.devs.length k2 s.lks.length k3 s.ph s.co s.ck s.bo s.ba s.lb s.gd s.pr a b) 54
  have HP := Lib.hid (((show IsPlan w w.heap.size (planV A0 A1 A2 A3 d.n0 c0 d.n1 c1 d.n2 c2 d.n3 c3 d.l d.p d.t) d from ⟨⟨A0, A1, A2, A3, c0, c1, c2, c3, rfl, p0, p1, p2, p3⟩, b0, b1, b2, b3⟩).below X.K (Nat.le_refl _)).more X.K.size)
  have HS := Lib.hid (((show IsSt w w.heap.size (.agg (stC E0 E1 E2 E3 s.pods.length k0 s.mnts.length k1 s.devs.length k2 s.lks.length k3 s.ph s.co s.ck s.bo s.ba s.lb s.gd s.pr)) s from ⟨⟨E0, E1, E2, E3, k0, k1, k2, k3, rfl, q0, q1, q2, q3⟩, f0, f1, f2, f3⟩).below X.K (Nat.le_refl _)).more X.K.size)
  have Q0 := Lib.hid ((q0.below X.K (Nat.le_refl _)).more X.K.size)
  have Q1 := Lib.hid ((q1.below X.K (Nat.le_refl _)).more X.K.size)
  have Q3 := Lib.hid ((q3.below X.K (Nat.le_refl _)).more X.K.size)
  have F3 := Lib.hid f3
  unfold maxLen at b0 b1 b2 b3 f0 f1 f2 f3
  clear p0 p1 p2 p3 q0 q1 q2 q3
  have HE := Lib.hid (hE.below X.K)
  clear hE
  have HA : Hid ((busyT d s a b) = (busyT d s a b)) := Lib.hid rfl
  obtain ⟨ans, hans⟩ : ∃ ans, (busyT d s a b) = ans := ⟨_, rfl⟩
  rw [hans]
  have HANS := Lib.hid hans
  clear hans HA
  go_enter Tryz.func94, Tryz.ntmps94
  go_upto_region 1 with fail
  generalize w.alloc (.cells (cmdC A0 A1 A2 A3 d.n0 c0 d.n1 c1 d.n2 c2 d.n3 c3 d.l d.p d.t E0 E1 E2 E3 s.pods.length k0 s.mnts.length k1 s.devs.length k2 s.lks.length k3 s.ph s.co s.ck s.bo s.ba s.lb s.gd s.pr a b) 54) = W at X HP HS Q0 Q1 Q3 HE ⊢
  have hC := X.C
  have hg := HE.out.p.1
  have hg1 := HE.out.s.1
  have hg2 := HE.out.o.1
  go_wp2_with fail
  refine (isIndex_any _ _ _).mono ?_
  rintro e w2 ⟨rfl, rfl⟩
  cases hin : inB a 0 (d.n2 - 1)
  · have HIN := Lib.hid hin
    clear hin
    go_wp2_with fail
    go_quiet (fail)
    go_wp2
    all_goals (go_ret2; rw [← HANS.out, busyT, if_pos HIN.out]; exact TryA.no (.missing a) (below_drewN X.K _))
  · have HIN : Hid (¬ inB a 0 (d.n2 - 1) = false) := Lib.hid (by rw [hin]; decide)
    obtain ⟨i, rfl, hi⟩ := index_nat (a := a) (n := d.n2) (by rw [hin]; decide)
    clear hin
    have hil : i < s.mnts.length := by have := OK.out.nm; omega
    go_wp2_with fail
    refine (within_any _ _ _ _).mono ?_
    rintro e w2 ⟨rfl, rfl⟩
    cases hb1 : inB b 1 5
    · have HB1 := Lib.hid hb1
      clear hb1
      go_wp2_with fail
      go_quiet (fail)
      go_wp2
      all_goals (go_ret2; rw [← HANS.out, busyT, if_neg HIN.out, if_pos HB1.out]; exact TryA.no .often (below_drewN X.K _))
    · have HB1 : Hid (¬ inB b 1 5 = false) := Lib.hid (by rw [hb1]; decide)
      clear hb1
      by_cases h4 : 4 ≤ s.ph
      · have H4 := Lib.hid h4
        go_wp2_with fail
        go_quiet (fail)
        go_wp2
        all_goals (go_ret2; rw [← HANS.out, busyT, if_neg HIN.out, if_neg HB1.out, if_pos H4.out]; exact TryA.no .phase (below_drewN X.K _))
      · have H4 : Hid (¬ 4 ≤ s.ph) := Lib.hid (by omega)
        obtain ⟨b', off', rfl, hb', hc⟩ := Q1.out.cell hil
        have p0 := (hc 0 (by decide)).trans (mntCs_at s.mnts (i := i) hil).1
        have p1 := (hc 1 (by decide)).trans (mntCs_at s.mnts (i := i) hil).2
        rw [Nat.add_zero] at p0
        clear hc
        have HPA : Hid (mntA s.mnts i = mntAt s (i : Int).toNat) := Lib.hid rfl
        generalize mntA s.mnts i = pa at p0 p1 HPA
        obtain ⟨held, bs⟩ := pa
        dsimp only at p0 p1
        cases held
        · have HH : Hid ((mntAt s (i : Int).toNat).1 = false ∨ (mntAt s (i : Int).toNat).2 ≠ 0) := Lib.hid (by rw [← HPA.out]; exact .inl rfl)
          go_wp2_with fail
          go_quiet (fail)
          go_wp2
          all_goals (go_ret2; rw [← HANS.out, busyT, if_neg HIN.out, if_neg HB1.out, if_neg (show ¬ 4 ≤ s.ph by have := H4.out; omega), if_pos HH.out]; exact TryA.no .state (below_drewN X.K _))
        · cases hbs : (bs != 0)
          · have HH : Hid (¬ ((mntAt s (i : Int).toNat).1 = false ∨ (mntAt s (i : Int).toNat).2 ≠ 0)) := Lib.hid (by rw [← HPA.out]; simpa using hbs)
            go_wp2
            all_goals (go_ret2; rw [← HANS.out, busyT, if_neg HIN.out, if_neg HB1.out, if_neg (show ¬ 4 ≤ s.ph by have := H4.out; omega), if_neg HH.out]; exact TryA.one 3 i b X.K)
          · have HH : Hid ((mntAt s (i : Int).toNat).1 = false ∨ (mntAt s (i : Int).toNat).2 ≠ 0) := Lib.hid (by rw [← HPA.out]; exact .inr (by simpa using hbs))
            go_wp2_with fail
            go_quiet (fail)
            go_wp2
            all_goals (go_ret2; rw [← HANS.out, busyT, if_neg HIN.out, if_neg HB1.out, if_neg (show ¬ 4 ≤ s.ph by have := H4.out; omega), if_pos HH.out]; exact TryA.no .state (below_drewN X.K _))
end Go.Proofs.YtnefiefimpjhpaaGreatDoor
