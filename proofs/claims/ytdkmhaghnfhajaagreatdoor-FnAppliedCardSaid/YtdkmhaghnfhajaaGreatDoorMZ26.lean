/-
  FnApplied's walk.
-/
import Derived.Test.YtdkmhaghnfhajaaGreatDoorMZ3
import Derived.BigQuiet
import Derived.RegionTactic
import Derived.BigRegion
import Derived.Test.YtdkmhaghnfhajaaGreatDoorMZ5
import Derived.Test.YtdkmhaghnfhajaaGreatDoorMZ6
import Derived.Deep.DeepCutAuto
import Derived.Deep.RegionLaw
import Derived.Test.YtdkmhaghnfhajaaGreatDoorMZxXj
import Derived.Test.YtdkmhaghnfhajaaGreatDoorMZ19
import Derived.Test.YtdkmhaghnfhajaaGreatDoorMZ0
/- Dq -/
set_option linter.unusedVariables false
namespace Go.Proofs.YtdkmhaghnfhajaaGreatDoor
open Go.RowKit

set_option maxRecDepth 100000 in
set_option maxHeartbeats 8000000 in
theorem sameState_any (u v : Value) (s : StD) (w : World) (hu : IsSt w w.heap.size u s) (hv : IsSt w w.heap.size v s) : Calls Tryz.prog 16 #[u, v] w fun e w' => e = .returned (.bool true) ∧ Below w.heap.size w w' := by
  obtain ⟨⟨A0, A1, A2, A3, c0, c1, c2, c3, rfl, s0, s1, s2, s3⟩, b0, b1, b2, b3⟩ := hu
  obtain ⟨⟨B0, B1, B2, B3, d0, d1, d2, d3, rfl, t0, t1, t2, t3⟩, -, -, -, -⟩ := hv
  obtain ⟨ph, co, ck, bo, ba, lb, l0, l1, l2, l3, gd, pr⟩ := s
  dsimp only at *
  have S0 := Lib.hid s0
  have T0 := Lib.hid t0
  have hn0 : l0.length ≤ 2 ^ 63 - 1 := by unfold maxLen at b0; omega
  clear s0 t0 b0
  generalize hq0 : l0.length = n0 at *
  have Q0 := Lib.hid hq0
  clear hq0
  have S1 := Lib.hid s1
  have T1 := Lib.hid t1
  have hn1 : l1.length ≤ 2 ^ 63 - 1 := by unfold maxLen at b1; omega
  clear s1 t1 b1
  generalize hq1 : l1.length = n1 at *
  have Q1 := Lib.hid hq1
  clear hq1
  have S2 := Lib.hid s2
  have T2 := Lib.hid t2
  have hn2 : l2.length ≤ 2 ^ 63 - 1 := by unfold maxLen at b2; omega
  clear s2 t2 b2
  generalize hq2 : l2.length = n2 at *
  have Q2 := Lib.hid hq2
  clear hq2
  have S3 := Lib.hid s3
  have T3 := Lib.hid t3
  have hn3 : l3.length ≤ 2 ^ 63 - 1 := by unfold maxLen at b3; omega
  clear s3 t3 b3
  generalize hq3 : l3.length = n3 at *
  have Q3 := Lib.hid hq3
  clear hq3
  have X := (Own.box w (stC A0 A1 A2 A3 n0 c0 n1 c1 n2 c2 n3 c3 ph co ck bo ba lb gd pr) 34).alloc (.cells (stC B0 B1 B2 B3 n0 d0 n1 d1 n2 d2 n3 d3 ph co ck bo ba lb gd pr) 34)
  have Y := Own.box2 ((Below.refl _ _).alloc (Nat.le_refl _) (.cells (stC A0 A1 A2 A3 n0 c0 n1 c1 n2 c2 n3 c3 ph co ck bo ba lb gd pr) 34)) (stC B0 B1 B2 B3 n0 d0 n1 d1 n2 d2 n3 d3 ph co ck bo ba lb gd pr) 34 (w := w)
  rw [heap_size_alloc_] at Y
  go_enter Tryz.func16, Tryz.ntmps16
  go_wp2_with fail
  generalize ((w.alloc (.cells (stC A0 A1 A2 A3 n0 c0 n1 c1 n2 c2 n3 c3 ph co ck bo ba lb gd pr) 34)).alloc (.cells (stC B0 B1 B2 B3 n0 d0 n1 d1 n2 d2 n3 d3 ph co ck bo ba lb gd pr) 34)) = w1 at X Y ⊢
  go_loopw [5] (fun i wr => ∃ k : Nat, k ≤ n0 ∧ i = .int .i64 k ∧ Own w wr w.heap.size (stC A0 A1 A2 A3 n0 c0 n1 c1 n2 c2 n3 c3 ph co ck bo ba lb gd pr) ∧ Own w wr (w.heap.size + 1) (stC B0 B1 B2 B3 n0 d0 n1 d1 n2 d2 n3 d3 ph co ck bo ba lb gd pr)) (fun i _ => n0 - (intOf i).toNat)
  case atStart => exact ⟨0, Nat.zero_le _, rfl, X, Y⟩
  case round =>
    clear X Y
    obtain ⟨k, hk, rfl, X, Y⟩ := hrel
    have hX := X.C
    have hY := Y.C
    by_cases hlt : k < n0
    · obtain ⟨b, off, rfl, hb, hc⟩ := (S0.out.below X.K (Nat.le_refl _)).cell hlt
      obtain ⟨b', off', rfl, hb', hc'⟩ := (T0.out.below X.K (Nat.le_refl _)).cell hlt
      have hp := podCs_at l0 (i := k) (by rw [Q0.out]; exact hlt)
      have q0 := (hc 0 (by decide)).trans hp.1
      have q1 := (hc 1 (by decide)).trans hp.2
      have r0 := (hc' 0 (by decide)).trans hp.1
      have r1 := (hc' 1 (by decide)).trans hp.2
      rw [Nat.add_zero] at q0 r0
      clear hc hc' hp hb hb'
      generalize podA l0 k = z at *
      obtain ⟨x, y⟩ := z
      dsimp only at q0 q1 r0 r1
      go_wp2_with fail
      go_quiet (fail)
      go_wp2_with fail
      exact ⟨⟨k + 1, by omega, by go_num, X.drewN _, Y.drewN _⟩, by simp [intOf]; omega⟩
    · obtain rfl : n0 = k := by omega
      clear hlt hk
      go_wp2_with fail
      go_loopw [6] (fun i wr => ∃ k : Nat, k ≤ n1 ∧ i = .int .i64 k ∧ Own w wr w.heap.size (stC A0 A1 A2 A3 n0 c0 n1 c1 n2 c2 n3 c3 ph co ck bo ba lb gd pr) ∧ Own w wr (w.heap.size + 1) (stC B0 B1 B2 B3 n0 d0 n1 d1 n2 d2 n3 d3 ph co ck bo ba lb gd pr)) (fun i _ => n1 - (intOf i).toNat)
      case atStart => exact ⟨0, Nat.zero_le _, rfl, X, Y⟩
      case round =>
        clear X Y hX hY
        obtain ⟨k, hk, rfl, X, Y⟩ := hrel
        have hX := X.C
        have hY := Y.C
        by_cases hlt : k < n1
        · obtain ⟨b, off, rfl, hb, hc⟩ := (S1.out.below X.K (Nat.le_refl _)).cell hlt
          obtain ⟨b', off', rfl, hb', hc'⟩ := (T1.out.below X.K (Nat.le_refl _)).cell hlt
          have hp := mntCs_at l1 (i := k) (by rw [Q1.out]; exact hlt)
          have q0 := (hc 0 (by decide)).trans hp.1
          have q1 := (hc 1 (by decide)).trans hp.2
          have r0 := (hc' 0 (by decide)).trans hp.1
          have r1 := (hc' 1 (by decide)).trans hp.2
          rw [Nat.add_zero] at q0 r0
          clear hc hc' hp hb hb'
          generalize mntA l1 k = z at *
          obtain ⟨x, y⟩ := z
          dsimp only at q0 q1 r0 r1
          go_wp2_with fail
          go_quiet (fail)
          go_wp2_with fail
          exact ⟨⟨k + 1, by omega, by go_num, X.drewN _, Y.drewN _⟩, by simp [intOf]; omega⟩
        · obtain rfl : n1 = k := by omega
          clear hlt hk
          go_wp2_with fail
          go_loopw [7] (fun i wr => ∃ k : Nat, k ≤ n2 ∧ i = .int .i64 k ∧ Own w wr w.heap.size (stC A0 A1 A2 A3 n0 c0 n1 c1 n2 c2 n3 c3 ph co ck bo ba lb gd pr) ∧ Own w wr (w.heap.size + 1) (stC B0 B1 B2 B3 n0 d0 n1 d1 n2 d2 n3 d3 ph co ck bo ba lb gd pr)) (fun i _ => n2 - (intOf i).toNat)
          case atStart => exact ⟨0, Nat.zero_le _, rfl, X, Y⟩
          case round =>
            clear X Y hX hY
            obtain ⟨k, hk, rfl, X, Y⟩ := hrel
            have hX := X.C
            have hY := Y.C
            by_cases hlt : k < n2
            · obtain ⟨b, off, rfl, hb, hc⟩ := (S2.out.below X.K (Nat.le_refl _)).cell hlt
              obtain ⟨b', off', rfl, hb', hc'⟩ := (T2.out.below X.K (Nat.le_refl _)).cell hlt
              have hp := devCs_at l2 (i := k) (by rw [Q2.out]; exact hlt)
              have q0 := hc 0 (by decide)
              have r0 := hc' 0 (by decide)
              rw [Nat.add_zero, Nat.mul_one, Nat.add_zero, hp] at q0 r0
              clear hc hc' hp hb hb'
              generalize devA l2 k = z at *
              go_wp2_with fail
              go_quiet (fail)
              go_wp2_with fail
              exact ⟨⟨k + 1, by omega, by go_num, X.drewN _, Y.drewN _⟩, by simp [intOf]; omega⟩
            · obtain rfl : n2 = k := by omega
              clear hlt hk
              go_wp2_with fail
              go_loopw [8] (fun i wr => ∃ k : Nat, k ≤ n3 ∧ i = .int .i64 k ∧ Own w wr w.heap.size (stC A0 A1 A2 A3 n0 c0 n1 c1 n2 c2 n3 c3 ph co ck bo ba lb gd pr) ∧ Own w wr (w.heap.size + 1) (stC B0 B1 B2 B3 n0 d0 n1 d1 n2 d2 n3 d3 ph co ck bo ba lb gd pr)) (fun i _ => n3 - (intOf i).toNat)
              case atStart => exact ⟨0, Nat.zero_le _, rfl, X, Y⟩
              case round =>
                clear X Y hX hY
                obtain ⟨k, hk, rfl, X, Y⟩ := hrel
                have hX := X.C
                have hY := Y.C
                by_cases hlt : k < n3
                · obtain ⟨b, off, rfl, hb, hc⟩ := (S3.out.below X.K (Nat.le_refl _)).cell hlt
                  obtain ⟨b', off', rfl, hb', hc'⟩ := (T3.out.below X.K (Nat.le_refl _)).cell hlt
                  have hp := lkCs_at l3 (i := k) (by rw [Q3.out]; exact hlt)
                  have q0 := hc 0 (by decide)
                  have r0 := hc' 0 (by decide)
                  rw [Nat.add_zero, Nat.mul_one, Nat.add_zero, hp] at q0 r0
                  clear hc hc' hp hb hb'
                  generalize lkA l3 k = z at *
                  go_wp2_with fail
                  go_quiet (fail)
                  go_wp2_with fail
                  exact ⟨⟨k + 1, by omega, by go_num, X.drewN _, Y.drewN _⟩, by simp [intOf]; omega⟩
                · obtain rfl : n3 = k := by omega
                  have hend := X.K
                  go_wp2_with fail
                  go_ret
                  exact ⟨rfl, hend⟩

theorem likeState_same (u v : Value) (s : StD) (w : World) (hu : IsSt w w.heap.size u s) (hv : IsSt w w.heap.size v s) : Calls Tryz.prog 26 #[u, v] w fun e w' => e = .returned (.bool true) ∧ Below w.heap.size w w' := by
  have HU := Lib.hid hu
  have HV := Lib.hid hv
  obtain ⟨⟨A0, A1, A2, A3, c0, c1, c2, c3, rfl, -⟩, -⟩ := hu
  obtain ⟨⟨B0, B1, B2, B3, d0, d1, d2, d3, rfl, -⟩, -⟩ := hv
  have K : Below w.heap.size w ((w.alloc (.cells (stC A0 A1 A2 A3 s.pods.length c0 s.mnts.length c1 s.devs.length c2 s.lks.length c3 s.ph s.co s.ck s.bo s.ba s.lb s.gd s.pr) 34)).alloc (.cells (stC B0 B1 B2 B3 s.pods.length d0 s.mnts.length d1 s.devs.length d2 s.lks.length d3 s.ph s.co s.ck s.bo s.ba s.lb s.gd s.pr) 34)) := ((Below.refl _ _).alloc (Nat.le_refl _) _).alloc (by simp) _
  go_enter Tryz.func26, Tryz.ntmps26
  go_wp2_with fail
  refine (sameState_any _ _ s _ ((HU.out.below K (Nat.le_refl _)).more K.size) ((HV.out.below K (Nat.le_refl _)).more K.size)).mono ?_
  rintro e w2 ⟨rfl, hb⟩
  have K2 := K.trans (hb.mono K.size)
  go_wp2_with fail
  go_ret
  exact ⟨rfl, K2⟩
end Go.Proofs.YtdkmhaghnfhajaaGreatDoor
/- Uv -/
set_option linter.unusedVariables false
namespace Go.Proofs.YtdkmhaghnfhajaaGreatDoor
open Go.RowKit

/-- Four blocks of the call's own. -/
structure Four (w w1 : World) (c0 c1 c2 c3 : Array Value) : Prop where
  P : Own w w1 w.heap.size c0
  S : Own w w1 (w.heap.size + 1) c1
  R : Own w w1 (w.heap.size + 2) c2
  O : Own w w1 (w.heap.size + 3) c3
theorem Four.start (w : World) (c0 c1 c2 c3 : Array Value) (t0 t1 t2 t3 : TypeId) : Four w ((((w.alloc (.cells c0 t0)).alloc (.cells c1 t1)).alloc (.cells c2 t2)).alloc (.cells c3 t3)) c0 c1 c2 c3 := by
  have h0 := Own.box w c0 t0
  have h1 := Own.box2 h0.K c1 t1
  have h2 := Own.box2 h1.K c2 t2
  have h3 := Own.box2 h2.K c3 t3
  simp only [heap_size_alloc_] at h1 h2 h3
  exact ⟨((h0.alloc _).alloc _).alloc _, (h1.alloc _).alloc _, h2.alloc _, h3⟩
theorem Four.step {w w1 w2 : World} {c0 c1 c2 c3 : Array Value} (h : Four w w1 c0 c1 c2 c3) (hb : Below w1.heap.size w1 w2) : Four w w2 c0 c1 c2 c3 := ⟨h.P.step hb, h.S.step hb, h.R.step hb, h.O.step hb⟩

/-- What AppliedRec answers. -/
def Appl2 (w : World) (t : StD × Bool) (e : Ending) (w' : World) : Prop := ∃ v', e = .returned (.tuple #[v', .bool t.2]) ∧ OwnSt w' w.heap.size v' t.1 ∧ Below w.heap.size w w'

end Go.Proofs.YtdkmhaghnfhajaaGreatDoor
/- Xk -/
set_option linter.unusedVariables false
namespace Go.Proofs.YtdkmhaghnfhajaaGreatDoor
open Go.RowKit

set_option maxRecDepth 4000 in
set_option maxHeartbeats 4000000 in
theorem specAll_any (pv sv rv : Value) (d : PlanD) (s : StD) (l : List RecD) (w : World) (hp : IsPlan w w.heap.size pv d) (hs : IsStR w w.heap.size sv s) (hr : Rt w w.heap.size rv l) :
    Calls Tryz.prog 22 #[pv, sv, rv] w (MadeSB w (appliedL d s l)) := by
  have HP := Lib.hid hp
  have HS := Lib.hid hs
  have HR := Lib.hid hr
  obtain ⟨⟨P0, P1, P2, P3, k0, k1, k2, k3, rfl, -, -, -, -⟩, -, -, -, -⟩ := hp
  obtain ⟨⟨A0, A1, A2, A3, c0, c1, c2, c3, rfl, -, -⟩, -⟩ := hs
  obtain ⟨⟨L0, cl, rfl, -⟩, hlen⟩ := hr
  unfold maxLen at hlen
  have T0 := TP.start w (planC P0 P1 P2 P3 d.n0 k0 d.n1 k1 d.n2 k2 d.n3 k3 d.l d.p d.t) (stC A0 A1 A2 A3 s.pods.length c0 s.mnts.length c1 s.devs.length c2 s.lks.length c3 s.ph s.co s.ck s.bo s.ba s.lb s.gd s.pr) (stC none none none none 0 0 0 0 0 0 0 0 0 false 0 0 0 0 0 0) 29 34 34
  go_enter Tryz.func22, Tryz.ntmps22
  go_wp2_with fail
  refine (specStateOk_any _ _ d s _ ((HP.out.below T0.A.K (Nat.le_refl _)).more T0.A.K.size) ((HS.out.below T0.A.K (Nat.le_refl _)).more T0.A.K.size).is).mono ?_
  rintro e w1 ⟨rfl, hb⟩
  have T1 := T0.step hb
  clear hb T0
  cases hok : stOkB d s
  · have HE := Lib.hid (appliedL_no (l := l) hok)
    clear hok
    have hD := T1.O.C
    have hG := T1.O.F
    go_wp2
    refine bodyPost_ret (v := .tuple #[.agg (stC none none none none 0 0 0 0 0 0 0 0 0 false 0 0 0 0 0 0), .bool false]) ?_ rfl ?_
    · simp [results, Tryz.results22, go_sem, hD]
    · rw [HE.out]
      refine ⟨_, rfl, OwnSt.zero _ _, ?_⟩
      iterate 12 (refine Below.setCell ?_ (by simp <;> omega) _)
      exact T1.A.K
  · have HE := Lib.hid (appliedL_all (l := l) hok)
    have HOK := Lib.hid (stOkB_iff.1 hok)
    clear hok
    have hC := T1.A.C
    have hS := T1.Z.C
    go_wp2_with fail
    obtain ⟨x, b, hxb⟩ : ∃ x b, appliedL d s l = (x, b) := by
      generalize appliedL d s l = q
      exact ⟨q.1, q.2, rfl⟩
    have hall := l6All_any _ _ _ d s l _ ((HP.out.below T1.A.K (Nat.le_refl _)).more T1.A.K.size) ((HS.out.below T1.A.K (Nat.le_refl _)).more T1.A.K.size) ((HR.out.below T1.A.K (Nat.le_refl _)).more T1.A.K.size) HOK.out
    rw [← HE.out, hxb] at hall
    have HXB := Lib.hid hxb
    clear hxb HE
    refine hall.mono ?_
    rintro e wc ⟨vc, h1, Oc, hb⟩
    dsimp only at h1 Oc
    subst h1
    have Tc := T1.step hb
    have hB2 := T1.O.z
    obtain ⟨u0, u1, u2, u3, rfl, z0, z1, z2, z3⟩ := Oc.it
    obtain ⟨D0, h0, rfl, -⟩ := open_rowR z0
    obtain ⟨D1, h1, rfl, -⟩ := open_rowR z1
    obtain ⟨D2, h2, rfl, -⟩ := open_rowR z2
    obtain ⟨D3, h3, rfl, -⟩ := open_rowR z3
    have HOc := Lib.hid Oc
    clear z0 z1 z2 z3 Oc hS hC
    have hD := Tc.O.C
    have hG := Tc.O.F
    go_wp2
    refine bodyPost_ret (v := .tuple #[.agg (stC D0 D1 D2 D3 x.pods.length h0 x.mnts.length h1 x.devs.length h2 x.lks.length h3 x.ph x.co x.ck x.bo x.ba x.lb x.gd x.pr), .bool b]) ?_ rfl ?_
    · simp [results, Tryz.results22, go_sem, hD]
    · rw [HXB.out]
      refine ⟨_, rfl, (HOc.out.keeps (keeps_put12 ..) fun r hr e => by subst e; have := (HOc.out.blocks hr).1; omega).base (by omega), ?_⟩
      iterate 12 (refine Below.setCell ?_ (by simp <;> omega) _)
      exact Tc.A.K

end Go.Proofs.YtdkmhaghnfhajaaGreatDoor
/- Xl -/
set_option linter.unusedVariables false
namespace Go.Proofs.YtdkmhaghnfhajaaGreatDoor
open Go.RowKit

theorem appliedL_one (d : PlanD) (s : StD) (r : RecD) : appliedL d s [r] = appliedS d s r := by
  unfold appliedL appliedS
  split
  · simp only [runR]
    cases goodR d s r <;> rfl
  · rfl
theorem rt_one {w : World} {g : Nat} {r : RecD} (h : w.heap[g]? = some (.cells #[.int .i64 r.k, .int .i64 r.a, .int .i64 r.b] 52)) {B : Nat} (hB : g < B) : Rt w B (.slice (some ⟨g, 0, none⟩) 1 1) [r] := by
  refine ⟨⟨some ⟨g, 0, none⟩, 1, rfl, fun _ => ⟨g, 0, rfl, hB, fun j hj => ?_⟩⟩, by unfold maxLen; simp⟩
  rw [cell_of_row _ _ _ _ _ _ h]
  rw [Nat.zero_add]
  match j, hj with
  | 0, _ => rfl
  | 1, _ => rfl
  | 2, _ => rfl
  | k + 3, hk => simp at hk; omega

set_option maxRecDepth 4000 in
set_option maxHeartbeats 4000000 in
theorem implRec_any (pv sv : Value) (d : PlanD) (s : StD) (r : RecD) (w : World) (hp : IsPlan w w.heap.size pv d) (hs : IsStR w w.heap.size sv s) (N : Names w) :
    Calls Tryz.prog 24 #[pv, sv, recC r] w (MadeSB w (appliedS d s r)) := by
  have HE := Lib.hid (appliedL_one d s r)
  have HP := Lib.hid hp
  have HS := Lib.hid hs
  have HN := Lib.hid N
  obtain ⟨⟨P0, P1, P2, P3, k0, k1, k2, k3, rfl, -, -, -, -⟩, -, -, -, -⟩ := hp
  obtain ⟨⟨A0, A1, A2, A3, c0, c1, c2, c3, rfl, -, -⟩, -⟩ := hs
  clear N
  unfold recC
  have T0 := Four.start w (planC P0 P1 P2 P3 d.n0 k0 d.n1 k1 d.n2 k2 d.n3 k3 d.l d.p d.t) (stC A0 A1 A2 A3 s.pods.length c0 s.mnts.length c1 s.devs.length c2 s.lks.length c3 s.ph s.co s.ck s.bo s.ba s.lb s.gd s.pr) #[.int .i64 r.k, .int .i64 r.a, .int .i64 r.b] (stC none none none none 0 0 0 0 0 0 0 0 0 false 0 0 0 0 0 0) 29 34 52 34
  go_enter Tryz.func24, Tryz.ntmps24
  go_wp2_with fail
  have hs4 : ((((w.alloc (.cells (planC P0 P1 P2 P3 d.n0 k0 d.n1 k1 d.n2 k2 d.n3 k3 d.l d.p d.t) 29)).alloc (.cells (stC A0 A1 A2 A3 s.pods.length c0 s.mnts.length c1 s.devs.length c2 s.lks.length c3 s.ph s.co s.ck s.bo s.ba s.lb s.gd s.pr) 34)).alloc (.cells #[.int .i64 r.k, .int .i64 r.a, .int .i64 r.b] 52)).alloc (.cells (stC none none none none 0 0 0 0 0 0 0 0 0 false 0 0 0 0 0 0) 34)).heap.size = w.heap.size + 1 + 1 + 1 + 1 := by simp
  generalize (((w.alloc (.cells (planC P0 P1 P2 P3 d.n0 k0 d.n1 k1 d.n2 k2 d.n3 k3 d.l d.p d.t) 29)).alloc (.cells (stC A0 A1 A2 A3 s.pods.length c0 s.mnts.length c1 s.devs.length c2 s.lks.length c3 s.ph s.co s.ck s.bo s.ba s.lb s.gd s.pr) 34)).alloc (.cells #[.int .i64 r.k, .int .i64 r.a, .int .i64 r.b] 52)).alloc (.cells (stC none none none none 0 0 0 0 0 0 0 0 0 false 0 0 0 0 0 0) 34) = w4 at T0 hs4 ⊢
  have hb : Below w4.heap.size w4 (w4.alloc (.cells #[.int .i64 r.k, .int .i64 r.a, .int .i64 r.b] 52)) := (Below.refl _ _).alloc (Nat.le_refl _) _
  have T1 := T0.step hb
  have hnew : (w4.alloc (.cells #[.int .i64 r.k, .int .i64 r.a, .int .i64 r.b] 52)).heap[w4.heap.size]? = some (.cells #[.int .i64 r.k, .int .i64 r.a, .int .i64 r.b] 52) := heap_alloc_new w4 _
  rw [hs4] at hnew
  have hR : Rt _ (w4.alloc (.cells #[.int .i64 r.k, .int .i64 r.a, .int .i64 r.b] 52)).heap.size (.slice (some ⟨w.heap.size + 1 + 1 + 1 + 1, 0, none⟩) 1 1) [r] := rt_one hnew (by rw [heap_size_alloc_]; omega)
  clear hb hs4 hnew T0
  generalize w4.alloc (.cells #[.int .i64 r.k, .int .i64 r.a, .int .i64 r.b] 52) = w5 at T1 hR ⊢
  obtain ⟨x, b, hxb⟩ : ∃ x b, appliedS d s r = (x, b) := by
      generalize appliedS d s r = q
      exact ⟨q.1, q.2, rfl⟩
  have hall := implAll_any _ _ _ d s [r] _ ((HP.out.below T1.P.K (Nat.le_refl _)).more T1.P.K.size) ((HS.out.below T1.P.K (Nat.le_refl _)).more T1.P.K.size) hR (HN.out.go T1.P.K)
  rw [HE.out, hxb] at hall
  have HXB := Lib.hid hxb
  clear hxb HE
  refine hall.mono ?_
  rintro e wc ⟨vc, h1, Oc, hb⟩
  dsimp only at h1 Oc
  subst h1
  have Tc := T1.step hb
  have hB2 := T1.O.z
  obtain ⟨u0, u1, u2, u3, rfl, z0, z1, z2, z3⟩ := Oc.it
  obtain ⟨D0, h0, rfl, -⟩ := open_rowR z0
  obtain ⟨D1, h1, rfl, -⟩ := open_rowR z1
  obtain ⟨D2, h2, rfl, -⟩ := open_rowR z2
  obtain ⟨D3, h3, rfl, -⟩ := open_rowR z3
  have HOc := Lib.hid Oc
  clear z0 z1 z2 z3 Oc hall
  have hD := Tc.O.C
  have hG := Tc.O.F
  go_wp2
  refine bodyPost_ret (v := .tuple #[.agg (stC D0 D1 D2 D3 x.pods.length h0 x.mnts.length h1 x.devs.length h2 x.lks.length h3 x.ph x.co x.ck x.bo x.ba x.lb x.gd x.pr), .bool b]) ?_ rfl ?_
  · simp [results, Tryz.results24, go_sem, hD]
  · rw [HXB.out]
    refine ⟨_, rfl, (HOc.out.keeps (keeps_put12 ..) fun r hr e => by subst e; have := (HOc.out.blocks hr).1; omega).base (by omega), ?_⟩
    iterate 12 (refine Below.setCell ?_ (by simp <;> omega) _)
    exact Tc.P.K
end Go.Proofs.YtdkmhaghnfhajaaGreatDoor
/- Xm -/
set_option linter.unusedVariables false
namespace Go.Proofs.YtdkmhaghnfhajaaGreatDoor
open Go.RowKit

set_option maxRecDepth 4000 in
set_option maxHeartbeats 8000000 in
theorem specRec_any (pv sv : Value) (d : PlanD) (s : StD) (r : RecD) (w : World) (hp : IsPlan w w.heap.size pv d) (hs : IsStR w w.heap.size sv s) :
    Calls Tryz.prog 25 #[pv, sv, recC r] w (Appl2 w (appliedS d s r)) := by
  have HP := Lib.hid hp
  have HS := Lib.hid hs
  obtain ⟨⟨P0, P1, P2, P3, k0, k1, k2, k3, rfl, -, -, -, -⟩, -, -, -, -⟩ := hp
  obtain ⟨⟨A0, A1, A2, A3, c0, c1, c2, c3, rfl, -, -⟩, hf⟩ := hs
  have HF := Lib.hid hf
  clear hf
  have T0 := Four.start w (planC P0 P1 P2 P3 d.n0 k0 d.n1 k1 d.n2 k2 d.n3 k3 d.l d.p d.t) (stC A0 A1 A2 A3 s.pods.length c0 s.mnts.length c1 s.devs.length c2 s.lks.length c3 s.ph s.co s.ck s.bo s.ba s.lb s.gd s.pr) #[.int .i64 r.k, .int .i64 r.a, .int .i64 r.b] (stC none none none none 0 0 0 0 0 0 0 0 0 false 0 0 0 0 0 0) 29 34 52 34
  go_enter Tryz.func25, Tryz.ntmps25
  go_wp2_with fail
  refine (specStateOk_any _ _ d s _ ((HP.out.below T0.P.K (Nat.le_refl _)).more T0.P.K.size) ((HS.out.below T0.P.K (Nat.le_refl _)).more T0.P.K.size).is).mono ?_
  rintro e w1 ⟨rfl, hb⟩
  have T1 := T0.step hb
  have hP := T1.P.C
  have hS := T1.S.C
  have hR := T1.R.C
  have hD := T1.O.C
  have hG := T1.O.F
  clear hb T0
  cases hok : stOkB d s
  · have he : appliedS d s r = (zeroS, false) := by unfold appliedS; rw [hok]; rfl
    have HE := Lib.hid he
    clear he
    go_wp2
    refine bodyPost_ret (v := .tuple #[.agg (stC none none none none 0 0 0 0 0 0 0 0 0 false 0 0 0 0 0 0), .bool false]) ?_ rfl ?_
    · simp [results, Tryz.results25, go_sem, hD]
    · rw [HE.out]
      refine ⟨_, rfl, OwnSt.zero _ _, ?_⟩
      iterate 12 (refine Below.setCell ?_ (by simp <;> omega) _)
      exact T1.P.K
  · have HOK := Lib.hid hok
    clear hok
    go_wp2_with fail
    refine (specRecOk_any r _).mono ?_
    rintro e w2 ⟨rfl, hb⟩
    have T2 := T1.step hb
    clear hb T1 hP hS hR hD hG
    have hP := T2.P.C
    have hS := T2.S.C
    have hR := T2.R.C
    have hD := T2.O.C
    have hG := T2.O.F
    cases hk : recOkB r
    · have he : appliedS d s r = (s, false) := by unfold appliedS goodR; rw [HOK.out, hk]; rfl
      have HE := Lib.hid he
      clear he hk
      go_wp2_with fail
      refine (l5Copy_any _ s _ ((HS.out.below T2.P.K (Nat.le_refl _)).more T2.P.K.size)).mono ?_
      rintro e wc ⟨vc, rfl, Oc, hb⟩
      have hw4 : w.heap.size + 4 ≤ wc.heap.size := Nat.le_trans T2.O.z hb.size
      have hw5 : w.heap.size + 4 ≤ _ := T2.O.z
      have Tc := T2.step hb
      obtain ⟨u0, u1, u2, u3, rfl, q0, q1, q2, q3⟩ := Oc.it
      have Q0 := Lib.hid (ownsRow_base q0 hw5)
      have Q1 := Lib.hid (ownsRow_base q1 hw5)
      have Q2 := Lib.hid (ownsRow_base q2 hw5)
      have Q3 := Lib.hid (ownsRow_base q3 hw5)
      obtain ⟨B0, e0, rfl, -⟩ := open_rowR q0
      obtain ⟨B1, e1, rfl, -⟩ := open_rowR q1
      obtain ⟨B2, e2, rfl, -⟩ := open_rowR q2
      obtain ⟨B3, e3, rfl, -⟩ := open_rowR q3
      clear hb T2 hP hS hR hD hG q0 q1 q2 q3 Oc hw4 hw5
      have hP := Tc.P.C
      have hS := Tc.S.C
      have hR := Tc.R.C
      have hD := Tc.O.C
      have hG := Tc.O.F
      go_wp2
      refine bodyPost_ret (v := .tuple #[.agg (stC B0 B1 B2 B3 s.pods.length e0 s.mnts.length e1 s.devs.length e2 s.lks.length e3 s.ph s.co s.ck s.bo s.ba s.lb s.gd s.pr), .bool false]) ?_ rfl ?_
      · simp [results, Tryz.results25, go_sem, hD]
      · rw [HE.out]
        refine ⟨_, rfl, ⟨_, _, _, _, rfl, ?_, ?_, ?_, ?_⟩, ?_⟩
        · refine ownsRow_base (base := w.heap.size + 4) ?_ (by omega)
          iterate 12 (refine ownsRow_setCell_below ?_ (by simp) _)
          exact Q0.out
        · refine ownsRow_base (base := w.heap.size + 4) ?_ (by omega)
          iterate 12 (refine ownsRow_setCell_below ?_ (by simp) _)
          exact Q1.out
        · refine ownsRow_base (base := w.heap.size + 4) ?_ (by omega)
          iterate 12 (refine ownsRow_setCell_below ?_ (by simp) _)
          exact Q2.out
        · refine ownsRow_base (base := w.heap.size + 4) ?_ (by omega)
          iterate 12 (refine ownsRow_setCell_below ?_ (by simp) _)
          exact Q3.out
        · iterate 12 (refine Below.setCell ?_ (by simp <;> omega) _)
          exact Tc.P.K
    · have HK := Lib.hid hk
      clear hk
      go_wp2_with fail
      refine (l6There_any _ s r _ ((HS.out.below T2.P.K (Nat.le_refl _)).more T2.P.K.size).is).mono ?_
      rintro e w3 ⟨rfl, hb⟩
      have T3 := T2.step hb
      clear hb T2 hP hS hR hD hG
      have hP := T3.P.C
      have hS := T3.S.C
      have hR := T3.R.C
      have hD := T3.O.C
      have hG := T3.O.F
      cases ht : thereB s r
      · have he : appliedS d s r = (s, false) := by unfold appliedS goodR; rw [HOK.out, HK.out, ht]; rfl
        have HE := Lib.hid he
        clear he ht
        go_wp2_with fail
        refine (l5Copy_any _ s _ ((HS.out.below T3.P.K (Nat.le_refl _)).more T3.P.K.size)).mono ?_
        rintro e wc ⟨vc, rfl, Oc, hb⟩
        have hw4 : w.heap.size + 4 ≤ wc.heap.size := Nat.le_trans T3.O.z hb.size
        have hw5 : w.heap.size + 4 ≤ _ := T3.O.z
        have Tc := T3.step hb
        obtain ⟨u0, u1, u2, u3, rfl, q0, q1, q2, q3⟩ := Oc.it
        have Q0 := Lib.hid (ownsRow_base q0 hw5)
        have Q1 := Lib.hid (ownsRow_base q1 hw5)
        have Q2 := Lib.hid (ownsRow_base q2 hw5)
        have Q3 := Lib.hid (ownsRow_base q3 hw5)
        obtain ⟨B0, e0, rfl, -⟩ := open_rowR q0
        obtain ⟨B1, e1, rfl, -⟩ := open_rowR q1
        obtain ⟨B2, e2, rfl, -⟩ := open_rowR q2
        obtain ⟨B3, e3, rfl, -⟩ := open_rowR q3
        clear hb T3 hP hS hR hD hG q0 q1 q2 q3 Oc hw4 hw5
        have hP := Tc.P.C
        have hS := Tc.S.C
        have hR := Tc.R.C
        have hD := Tc.O.C
        have hG := Tc.O.F
        go_wp2
        refine bodyPost_ret (v := .tuple #[.agg (stC B0 B1 B2 B3 s.pods.length e0 s.mnts.length e1 s.devs.length e2 s.lks.length e3 s.ph s.co s.ck s.bo s.ba s.lb s.gd s.pr), .bool false]) ?_ rfl ?_
        · simp [results, Tryz.results25, go_sem, hD]
        · rw [HE.out]
          refine ⟨_, rfl, ⟨_, _, _, _, rfl, ?_, ?_, ?_, ?_⟩, ?_⟩
          · refine ownsRow_base (base := w.heap.size + 4) ?_ (by omega)
            iterate 12 (refine ownsRow_setCell_below ?_ (by simp) _)
            exact Q0.out
          · refine ownsRow_base (base := w.heap.size + 4) ?_ (by omega)
            iterate 12 (refine ownsRow_setCell_below ?_ (by simp) _)
            exact Q1.out
          · refine ownsRow_base (base := w.heap.size + 4) ?_ (by omega)
            iterate 12 (refine ownsRow_setCell_below ?_ (by simp) _)
            exact Q2.out
          · refine ownsRow_base (base := w.heap.size + 4) ?_ (by omega)
            iterate 12 (refine ownsRow_setCell_below ?_ (by simp) _)
            exact Q3.out
          · iterate 12 (refine Below.setCell ?_ (by simp <;> omega) _)
            exact Tc.P.K
      · have HT := Lib.hid ht
        clear ht
        have H3 := Lib.hid T3
        have hRI : s.lks.Pairwise (· < ·) := (stOkB_iff.1 HOK.out).rise
        have HRI := Lib.hid hRI
        have HS3 : Hid (∀ W : World, Below w3.heap.size w3 W → IsStR W W.heap.size (.agg (stC A0 A1 A2 A3 s.pods.length c0 s.mnts.length c1 s.devs.length c2 s.lks.length c3 s.ph s.co s.ck s.bo s.ba s.lb s.gd s.pr)) s) := Lib.hid fun W hb => (HS.out.below (T3.step hb).P.K (Nat.le_refl _)).more (T3.step hb).P.K.size
        have KD := Lib.hid (Below.refl w3.heap.size w3).drew
        have KA := Lib.hid ((Below.refl w3.heap.size w3).alloc (Nat.le_refl _) (.cells (stC none none none none 0 0 0 0 0 0 0 0 0 false 0 0 0 0 0 0) 34)).drew
        have hw1 : w.heap.size + 1 < w3.heap.size := T3.S.z
        have hw2 : w.heap.size + 2 < w3.heap.size := T3.R.z
        have S0 : (∀ o, w3.cell? ⟨w.heap.size + 1, o, none⟩ = (stC A0 A1 A2 A3 s.pods.length c0 s.mnts.length c1 s.devs.length c2 s.lks.length c3 s.ph s.co s.ck s.bo s.ba s.lb s.gd s.pr)[o]?) ∧ (∀ o, w3.cell? ⟨w.heap.size + 2, o, none⟩ = (#[.int .i64 r.k, .int .i64 r.a, .int .i64 r.b] : Array Value)[o]?) ∧ Below w3.heap.size w3 w3 := ⟨hS, hR, Below.refl _ _⟩
        clear hRI T3 hP hS hR hD hG
        go_upto_region 5 with fail
        go_cut [8] from 25 to 28 (fun s8 wx => ∃ (g : Nat) (cs : Array Value), s8 = .pointer (some ⟨g, 0, none⟩) ∧ Below w3.heap.size w3 wx ∧ BoxS wx w3.heap.size g cs.toList ∧ OwnSt wx w3.heap.size (.agg cs) (applyR s r))
        case first =>
          go_region_held3 (fun w' => (∀ o, w'.cell? ⟨w.heap.size + 1, o, none⟩ = (stC A0 A1 A2 A3 s.pods.length c0 s.mnts.length c1 s.devs.length c2 s.lks.length c3 s.ph s.co s.ck s.bo s.ba s.lb s.gd s.pr)[o]?) ∧ (∀ o, w'.cell? ⟨w.heap.size + 2, o, none⟩ = (#[.int .i64 r.k, .int .i64 r.a, .int .i64 r.b] : Array Value)[o]?) ∧ Below w3.heap.size w3 w')
            (first | (with_reducible exact S6) | (with_reducible exact S5) | (with_reducible exact S0) | (refine ⟨fun o => (Below.cell (B := w3.heap.size) (w := w3) ?_ hw1).trans (S0.1 o), fun o => (Below.cell (B := w3.heap.size) (w := w3) ?_ hw2).trans (S0.2.1 o), ?_⟩ <;> (repeat (first | (with_reducible exact K6) | (with_reducible exact K5) | (with_reducible exact Below.refl _ _) | (with_reducible refine Below.drew ?_) | (with_reducible refine (fun h => Below.alloc h h.size _) ?_) | (with_reducible refine Below.setCell ?_ (by first | exact Nat.le_refl _ | exact K5.size | (simp <;> omega)) _)))))
            (first
              | (go_at_call 74
                 refine (l6Apply_any _ s r _ w3.heap.size (by first | exact K5.size | exact (K5.alloc K5.size _).size) (by first | exact B5.out | exact B5.out.below ((Below.refl _ _).alloc (Nat.le_refl _) _)) HK.out HT.out HF.out.f3 HRI.out).mono ?_
                 rintro e w6 ⟨v6, rfl, O6, k6⟩
                 have K6 : Below w3.heap.size w3 w6 := by
                   first
                   | exact K5.trans (k6.below K5.size fun b hb hr => by have := (B5.out.blocks hr).1; omega)
                   | exact (K5.alloc K5.size _).trans (k6.below (K5.alloc K5.size _).size fun b hb hr => by have := (B5.out.blocks hr).1; omega)
                 have S6 := And.intro (fun o => (K6.cell (p := ⟨w.heap.size + 1, o, none⟩) hw1).trans (S0.1 o)) (And.intro (fun o => (K6.cell (p := ⟨w.heap.size + 2, o, none⟩) hw2).trans (S0.2.1 o)) K6)
                 try have Z6 := Z5.out.keeps k6 (B5.out.apart Z5.out)
                 try have Z6 := ZN.out.keeps k6 ((B5.out.below ((Below.refl _ _).alloc (Nat.le_refl _) _)).apart ZN.out)
                 try have zC := Z6.C
                 try have zF := Z6.frozen
                 have HO6 := Lib.hid O6
                 obtain ⟨u0, u1, u2, u3, rfl, q0, q1, q2, q3⟩ := O6.it
                 obtain ⟨B0, e0, rfl, -⟩ := open_rowR q0
                 obtain ⟨B1, e1, rfl, -⟩ := open_rowR q1
                 obtain ⟨B2, e2, rfl, -⟩ := open_rowR q2
                 obtain ⟨B3, e3, rfl, -⟩ := open_rowR q3
                 clear q0 q1 q2 q3 O6 k6)
              | (go_at_call 50
                 refine (l5Copy_any _ s _ (HS3.out _ (by first | exact KD.out | exact KA.out))).mono ?_
                 rintro e w5 ⟨v5, rfl, O5, hb5⟩
                 have K5 : Below w3.heap.size w3 w5 := by first | exact KD.out.trans (hb5.mono KD.out.size) | exact KA.out.trans (hb5.mono KA.out.size)
                 have S5 := And.intro (fun o => (K5.cell (p := ⟨w.heap.size + 1, o, none⟩) hw1).trans (S0.1 o)) (And.intro (fun o => (K5.cell (p := ⟨w.heap.size + 2, o, none⟩) hw2).trans (S0.2.1 o)) K5)
                 have B5 := Lib.hid (O5.base (B' := w3.heap.size) (by first | exact KD.out.size | exact KA.out.size))
                 have ZN : Hid (BoxS (w5.alloc (.cells (stC none none none none 0 0 0 0 0 0 0 0 0 false 0 0 0 0 0 0) 34)) w3.heap.size w5.heap.size (stC none none none none 0 0 0 0 0 0 0 0 0 false 0 0 0 0 0 0).toList) := Lib.hid (BoxS.new rfl K5.size rfl)
                 try have Z5 := Lib.hid ((show BoxS (w3.alloc (.cells (stC none none none none 0 0 0 0 0 0 0 0 0 false 0 0 0 0 0 0) 34)).drew w3.heap.size w3.heap.size (stC none none none none 0 0 0 0 0 0 0 0 0 false 0 0 0 0 0 0).toList from BoxS.new rfl (Nat.le_refl _) rfl).go hb5)))
          all_goals (go_wp2_with fail; go_meet)
          all_goals first
            | (have hz := Z6.lt.1
               apply Exists.intro
               apply Exists.intro
               refine ⟨rfl, K6.trans ((keeps_put12 ..).below K6.size fun b hb e => by subst e; omega), Z6.put .., HO6.out.keeps (keeps_put12 ..) fun b hb e => HO6.out.apart Z6 (by rw [← e]; exact hb)⟩)
            | (apply Exists.intro
               apply Exists.intro
               exact ⟨rfl, K6.alloc K6.size _, BoxS.new rfl K6.size rfl, HO6.out.below ((Below.refl _ _).alloc (Nat.le_refl _) _)⟩)
        case rest =>
          obtain ⟨g, cs, rfl, K, X, O⟩ := hcut
          have T4 := H3.out.step K
          have HGD : Hid (stOkB d (applyR s r) = goodR d s r) := Lib.hid (by simp [goodR, HK.out, HT.out])
          have HA : Hid (appliedS d s r = if goodR d s r then (applyR s r, true) else (s, false)) := Lib.hid (by unfold appliedS; rw [HOK.out]; rfl)
          generalize applyR s r = t2 at O HGD HA
          obtain ⟨u0, u1, u2, u3, hv, z0, z1, z2, z3⟩ := O.it
          injection hv with hv
          subst hv
          obtain ⟨G0, m0, rfl, -⟩ := open_rowR z0
          obtain ⟨G1, m1, rfl, -⟩ := open_rowR z1
          obtain ⟨G2, m2, rfl, -⟩ := open_rowR z2
          obtain ⟨G3, m3, rfl, -⟩ := open_rowR z3
          clear z0 z1 z2 z3 K S0 KD KA HS3 HRI
          have hP := T4.P.C
          have hX := X.C
          go_wp2_with fail
          refine (specStateOk_any _ _ d t2 _ ((HP.out.below T4.P.K (Nat.le_refl _)).more T4.P.K.size) O.st).mono ?_
          rintro e w5 ⟨rfl, hb⟩
          have T5 := T4.step hb
          have X5 := X.go hb
          have O5 := O.below hb
          have hw35 : w.heap.size + 4 ≤ w3.heap.size := H3.out.O.z
          clear hb hP hX T4 X O H3
          have hP := T5.P.C
          have hS := T5.S.C
          have hR := T5.R.C
          have hD := T5.O.C
          have hG := T5.O.F
          cases h3 : stOkB d t2
          · have he : appliedS d s r = (s, false) := by rw [HA.out, ← HGD.out, h3]; rfl
            have HE := Lib.hid he
            clear he h3
            go_wp2_with fail
            refine (l5Copy_any _ s _ ((HS.out.below T5.P.K (Nat.le_refl _)).more T5.P.K.size)).mono ?_
            rintro e wc ⟨vc, rfl, Oc, hb⟩
            have hw4 : w.heap.size + 4 ≤ wc.heap.size := Nat.le_trans T5.O.z hb.size
            have hw5 : w.heap.size + 4 ≤ _ := T5.O.z
            have Tc := T5.step hb
            obtain ⟨u0, u1, u2, u3, rfl, q0, q1, q2, q3⟩ := Oc.it
            have Q0 := Lib.hid (ownsRow_base q0 hw5)
            have Q1 := Lib.hid (ownsRow_base q1 hw5)
            have Q2 := Lib.hid (ownsRow_base q2 hw5)
            have Q3 := Lib.hid (ownsRow_base q3 hw5)
            obtain ⟨B0, e0, rfl, -⟩ := open_rowR q0
            obtain ⟨B1, e1, rfl, -⟩ := open_rowR q1
            obtain ⟨B2, e2, rfl, -⟩ := open_rowR q2
            obtain ⟨B3, e3, rfl, -⟩ := open_rowR q3
            clear hb T5 hP hS hR hD hG q0 q1 q2 q3 Oc hw4 hw5
            have hP := Tc.P.C
            have hS := Tc.S.C
            have hR := Tc.R.C
            have hD := Tc.O.C
            have hG := Tc.O.F
            go_wp2
            refine bodyPost_ret (v := .tuple #[.agg (stC B0 B1 B2 B3 s.pods.length e0 s.mnts.length e1 s.devs.length e2 s.lks.length e3 s.ph s.co s.ck s.bo s.ba s.lb s.gd s.pr), .bool false]) ?_ rfl ?_
            · simp [results, Tryz.results25, go_sem, hD]
            · rw [HE.out]
              refine ⟨_, rfl, ⟨_, _, _, _, rfl, ?_, ?_, ?_, ?_⟩, ?_⟩
              · refine ownsRow_base (base := w.heap.size + 4) ?_ (by omega)
                iterate 12 (refine ownsRow_setCell_below ?_ (by simp) _)
                exact Q0.out
              · refine ownsRow_base (base := w.heap.size + 4) ?_ (by omega)
                iterate 12 (refine ownsRow_setCell_below ?_ (by simp) _)
                exact Q1.out
              · refine ownsRow_base (base := w.heap.size + 4) ?_ (by omega)
                iterate 12 (refine ownsRow_setCell_below ?_ (by simp) _)
                exact Q2.out
              · refine ownsRow_base (base := w.heap.size + 4) ?_ (by omega)
                iterate 12 (refine ownsRow_setCell_below ?_ (by simp) _)
                exact Q3.out
              · iterate 12 (refine Below.setCell ?_ (by simp <;> omega) _)
                exact Tc.P.K
          · have he : appliedS d s r = (t2, true) := by rw [HA.out, ← HGD.out, h3]; rfl
            have HE := Lib.hid he
            clear he h3
            have hX := X5.C
            go_wp2
            refine bodyPost_ret (v := .tuple #[.agg (stC G0 G1 G2 G3 t2.pods.length m0 t2.mnts.length m1 t2.devs.length m2 t2.lks.length m3 t2.ph t2.co t2.ck t2.bo t2.ba t2.lb t2.gd t2.pr), .bool true]) ?_ rfl ?_
            · simp [results, Tryz.results25, go_sem, hD]
            · rw [HE.out]
              refine ⟨_, rfl, (O5.keeps (keeps_put12 ..) fun r hr e => by subst e; have := (O5.blocks hr).1; omega).base (by omega), ?_⟩
              iterate 12 (refine Below.setCell ?_ (by simp <;> omega) _)
              exact T5.P.K
end Go.Proofs.YtdkmhaghnfhajaaGreatDoor
/- Dr -/
set_option linter.unusedVariables false
namespace Go.Proofs.YtdkmhaghnfhajaaGreatDoor
open Go.RowKit

theorem appliedL_fits {d : PlanD} {s : StD} {l : List RecD} (hf : StFits s 1048576) : StFits (appliedL d s l).1 1048576 := by
  by_cases hok : stOkB d s = true
  · rw [appliedL_all hok]
    unfold allS
    split
    · rename_i x h
      exact fits_ok (runR_ok (stOkB_iff.1 hok) h)
    · exact hf
  · rw [appliedL_no (by simpa using hok)]
    exact ⟨by simp [zeroS], by simp [zeroS], by simp [zeroS], by simp [zeroS]⟩
theorem run_stop2 {d : PlanD} {s z : StD} {l : List RecD} {k : Nat} (hk : k < l.length) (h : runR d s (l.take k) = some z) (hg : goodR d z (recAt l k) = false) : runR d s l = none := by
  have e : l = l.take k ++ recAt l k :: l.drop (k + 1) := by
    have h1 := List.take_append_drop k l
    rw [List.drop_eq_getElem_cons hk] at h1
    have h2 : recAt l k = l[k] := by simp [recAt, List.getD, hk]
    rw [h2]
    exact h1.symm
  rw [e, runR_append, h]
  simp [runR, hg]
theorem applied_next {d : PlanD} {s z z2 : StD} {l : List RecD} {k : Nat} {r : RecD} {b : Bool} (hs : stOkB d s = true) (hz : stOkB d z = true) (h : runR d s (l.take k) = some z) (hk : k < l.length) (hr : recAt l k = r) (ha : appliedS d z r = (z2, b)) :
    stOkB d z2 = true ∧ (b = true → runR d s (l.take (k + 1)) = some z2) ∧ (b = false → runR d s l = none) ∧ StFits z2 1048576 := by
  subst hr
  unfold appliedS at ha
  rw [hz] at ha
  simp only [if_true] at ha
  cases hg : goodR d z (recAt l k)
  · rw [hg] at ha
    simp at ha
    obtain ⟨rfl, rfl⟩ := ha
    exact ⟨hz, fun e => (by cases e), fun _ => run_stop2 hk h hg, fits_ok (stOkB_iff.1 hz)⟩
  · rw [hg] at ha
    simp at ha
    obtain ⟨rfl, rfl⟩ := ha
    have h2 := run_next hk h hg
    simp only [goodR, Bool.and_eq_true] at hg
    exact ⟨hg.2, fun _ => h2, fun e => (by cases e), fits_ok (stOkB_iff.1 hg.2)⟩

set_option maxRecDepth 100000 in
set_option maxHeartbeats 16000000 in
theorem lawApplied (A : Option Addr) (n c : Nat) (w : World) (hN : Names w) (hB : Bytes w w.heap.size A n) (hn : n ≤ maxLen) : Calls Tryz.prog 4 #[.slice A n c] w fun e w' => e = .returned (.bool true) ∧ Below w.heap.size w w' := by
  have HB := Lib.hid hB
  have HN := Lib.hid hN
  clear hB hN
  go_enter Tryz.func4, Tryz.ntmps4
  go_wp2_with fail
  refine (big_any A n c _ hn).mono ?_
  rintro e w2 ⟨rfl, rfl⟩
  by_cases hbig : 4096 < (n : Int)
  · go_wp2_with fail
    go_ret
    exact ⟨rfl, Below.refl _ _⟩
  · have hn4 : n ≤ 4096 := by omega
    clear hbig
    go_wp2_with fail
    refine (drawAppliedAll_any A n c _ HB.out hn4).mono ?_
    rintro e w3 ⟨v0, v1, v2, v3, d, vs, s, v, l, rfl, L, Os, hd, hs, O, hl, K⟩
    obtain ⟨V0, C0, rfl, -, -⟩ := L.o0.formR
    obtain ⟨V1, C1, rfl, -, -⟩ := L.o1.formR
    obtain ⟨V2, C2, rfl, -, -⟩ := L.o2.formR
    obtain ⟨V3, C3, rfl, -, -⟩ := L.o3.formR
    obtain ⟨y0, y1, y2, y3, rfl, -⟩ := Os.it
    obtain ⟨⟨E0, k0, rfl⟩, ⟨E1, k1, rfl⟩, ⟨E2, k2, rfl⟩, ⟨E3, k3, rfl⟩⟩ := Os.shapes
    obtain ⟨AL, CL, rfl⟩ := O.form_
    have hf : StFits s 1048576 := ⟨by have := hs.s0; omega, by have := hs.s1; omega, by have := hs.s2; omega, by have := hs.s3; omega⟩
    go_upto_region 4 with fail
    have hK0 : Below w3.heap.size w3 w3 := Below.refl _ _
    have XP := Own.box2 K (planC V0 V1 V2 V3 d.n0 C0 d.n1 C1 d.n2 C2 d.n3 C3 d.l d.p d.t) 29
    have hK1 := hK0.alloc hK0.size (.cells (planC V0 V1 V2 V3 d.n0 C0 d.n1 C1 d.n2 C2 d.n3 C3 d.l d.p d.t) 29)
    have XS := Own.box2 (K.trans (hK1.mono K.size)) (stC E0 E1 E2 E3 s.pods.length k0 s.mnts.length k1 s.devs.length k2 s.lks.length k3 s.ph s.co s.ck s.bo s.ba s.lb s.gd s.pr) 34
    have hK2 := hK1.alloc hK1.size (.cells (stC E0 E1 E2 E3 s.pods.length k0 s.mnts.length k1 s.devs.length k2 s.lks.length k3 s.ph s.co s.ck s.bo s.ba s.lb s.gd s.pr) 34)
    replace XP := XP.alloc (.cells (stC E0 E1 E2 E3 s.pods.length k0 s.mnts.length k1 s.devs.length k2 s.lks.length k3 s.ph s.co s.ck s.bo s.ba s.lb s.gd s.pr) 34)
    have hb := hK2
    replace K := K.trans (hb.mono K.size)
    replace L := L.below hb
    replace Os := Os.below hb
    replace O := O.below hb
    clear hb hK0 hK1 hK2
    try rw [heap_size_alloc_] at XS
    generalize ((w3.alloc (.cells (planC V0 V1 V2 V3 d.n0 C0 d.n1 C1 d.n2 C2 d.n3 C3 d.l d.p d.t) 29)).alloc (.cells (stC E0 E1 E2 E3 s.pods.length k0 s.mnts.length k1 s.devs.length k2 s.lks.length k3 s.ph s.co s.ck s.bo s.ba s.lb s.gd s.pr) 34)) = w4 at K L Os O XP XS ⊢
    generalize hw3 : w3.heap.size = b3 at XP XS ⊢
    obtain ⟨x, is_, hx⟩ : ∃ x b, appliedL d s l = (x, b) := by
      generalize appliedL d s l = q
      exact ⟨q.1, q.2, rfl⟩
    have HX := Lib.hid hx
    have hfx : StFits x 1048576 := by have := appliedL_fits (l := l) (d := d) hf; rw [hx] at this; exact this
    clear hx
    have h1 := XP.C
    have h2 := XS.C
    go_wp2_with fail
    have hall := implAll_any _ _ _ d s l w4 L.plan (Os.isR hf) O.rt (HN.out.go K)
    rw [HX.out] at hall
    refine hall.mono ?_
    rintro e w5 ⟨vx, rfl, Ox, hb⟩
    clear hall h1 h2
    replace K := K.trans (hb.mono K.size)
    replace L := L.below hb
    replace Os := Os.below hb
    replace O := O.below hb
    replace XP := XP.step hb
    replace XS := XS.step hb
    clear hb
    obtain ⟨y0, y1, y2, y3, rfl, -⟩ := Ox.it
    obtain ⟨⟨X0, m0, rfl⟩, ⟨X1, m1, rfl⟩, ⟨X2, m2, rfl⟩, ⟨X3, m3, rfl⟩⟩ := Ox.shapes
    go_upto_region 5 with fail
    have hK0 : Below w5.heap.size w5 w5 := Below.refl _ _
    have XX := Own.box2 K (stC X0 X1 X2 X3 x.pods.length m0 x.mnts.length m1 x.devs.length m2 x.lks.length m3 x.ph x.co x.ck x.bo x.ba x.lb x.gd x.pr) 34
    have hK1 := hK0.alloc hK0.size (.cells (stC X0 X1 X2 X3 x.pods.length m0 x.mnts.length m1 x.devs.length m2 x.lks.length m3 x.ph x.co x.ck x.bo x.ba x.lb x.gd x.pr) 34)
    have hb := hK1
    replace K := K.trans (hb.mono K.size)
    replace L := L.below hb
    replace Os := Os.below hb
    replace O := O.below hb
    replace XP := XP.step hb
    replace XS := XS.step hb
    replace Ox := Ox.below hb
    clear hb hK0 hK1
    generalize (w5.alloc (.cells (stC X0 X1 X2 X3 x.pods.length m0 x.mnts.length m1 x.devs.length m2 x.lks.length m3 x.ph x.co x.ck x.bo x.ba x.lb x.gd x.pr) 34)) = w6 at K L Os O XP XS Ox XX ⊢
    generalize hw5 : w5.heap.size = b5 at XX ⊢
    have h1 := XP.C
    have h2 := XS.C
    go_wp2_with fail
    have hall := specAll_any _ _ _ d s l w6 L.plan (Os.isR hf) O.rt
    rw [HX.out] at hall
    refine hall.mono ?_
    rintro e w7 ⟨vy, rfl, Oy, hb⟩
    clear hall h1 h2
    replace K := K.trans (hb.mono K.size)
    replace L := L.below hb
    replace Os := Os.below hb
    replace O := O.below hb
    replace XP := XP.step hb
    replace XS := XS.step hb
    replace Ox := Ox.below hb
    replace XX := XX.step hb
    clear hb
    obtain ⟨y0, y1, y2, y3, rfl, -⟩ := Oy.it
    obtain ⟨⟨Y0, o0, rfl⟩, ⟨Y1, o1, rfl⟩, ⟨Y2, o2, rfl⟩, ⟨Y3, o3, rfl⟩⟩ := Oy.shapes
    go_upto_region 6 with fail
    have hK0 : Below w7.heap.size w7 w7 := Below.refl _ _
    have XY := Own.box2 K (stC Y0 Y1 Y2 Y3 x.pods.length o0 x.mnts.length o1 x.devs.length o2 x.lks.length o3 x.ph x.co x.ck x.bo x.ba x.lb x.gd x.pr) 34
    have hK1 := hK0.alloc hK0.size (.cells (stC Y0 Y1 Y2 Y3 x.pods.length o0 x.mnts.length o1 x.devs.length o2 x.lks.length o3 x.ph x.co x.ck x.bo x.ba x.lb x.gd x.pr) 34)
    have hb := hK1
    replace K := K.trans (hb.mono K.size)
    replace L := L.below hb
    replace Os := Os.below hb
    replace O := O.below hb
    replace XP := XP.step hb
    replace XS := XS.step hb
    replace Ox := Ox.below hb
    replace XX := XX.step hb
    replace Oy := Oy.below hb
    clear hb hK0 hK1
    generalize (w7.alloc (.cells (stC Y0 Y1 Y2 Y3 x.pods.length o0 x.mnts.length o1 x.devs.length o2 x.lks.length o3 x.ph x.co x.ck x.bo x.ba x.lb x.gd x.pr) 34)) = w8 at K L Os O XP XS Ox XX Oy XY ⊢
    generalize hw7 : w7.heap.size = b7 at XY ⊢
    go_wp2_with fail
    refine (drawAppliedRec_any A n c w8 ((HB.out.below K (Nat.le_refl _)).more K.size) hn4).mono ?_
    rintro e w9 ⟨u0, u1, u2, u3, q, us, t, ⟨rk, ra, rb⟩, rfl, L2, Ot, hqd, hts, hb⟩
    replace K := K.trans (hb.mono K.size)
    replace L := L.below hb
    replace Os := Os.below hb
    replace O := O.below hb
    replace XP := XP.step hb
    replace XS := XS.step hb
    replace Ox := Ox.below hb
    replace XX := XX.step hb
    replace Oy := Oy.below hb
    replace XY := XY.step hb
    clear hb
    unfold recV
    dsimp only
    obtain ⟨U0, G0, rfl, -, -⟩ := L2.o0.formR
    obtain ⟨U1, G1, rfl, -, -⟩ := L2.o1.formR
    obtain ⟨U2, G2, rfl, -, -⟩ := L2.o2.formR
    obtain ⟨U3, G3, rfl, -, -⟩ := L2.o3.formR
    obtain ⟨y0, y1, y2, y3, rfl, -⟩ := Ot.it
    obtain ⟨⟨F0, j0, rfl⟩, ⟨F1, j1, rfl⟩, ⟨F2, j2, rfl⟩, ⟨F3, j3, rfl⟩⟩ := Ot.shapes
    have hft : StFits t 1048576 := ⟨by have := hts.s0; omega, by have := hts.s1; omega, by have := hts.s2; omega, by have := hts.s3; omega⟩
    go_upto_region 7 with fail
    have hK0 : Below w9.heap.size w9 w9 := Below.refl _ _
    have XQ := Own.box2 K (planC U0 U1 U2 U3 q.n0 G0 q.n1 G1 q.n2 G2 q.n3 G3 q.l q.p q.t) 29
    have hK1 := hK0.alloc hK0.size (.cells (planC U0 U1 U2 U3 q.n0 G0 q.n1 G1 q.n2 G2 q.n3 G3 q.l q.p q.t) 29)
    have XT := Own.box2 (K.trans (hK1.mono K.size)) (stC F0 F1 F2 F3 t.pods.length j0 t.mnts.length j1 t.devs.length j2 t.lks.length j3 t.ph t.co t.ck t.bo t.ba t.lb t.gd t.pr) 34
    have hK2 := hK1.alloc hK1.size (.cells (stC F0 F1 F2 F3 t.pods.length j0 t.mnts.length j1 t.devs.length j2 t.lks.length j3 t.ph t.co t.ck t.bo t.ba t.lb t.gd t.pr) 34)
    replace XQ := XQ.alloc (.cells (stC F0 F1 F2 F3 t.pods.length j0 t.mnts.length j1 t.devs.length j2 t.lks.length j3 t.ph t.co t.ck t.bo t.ba t.lb t.gd t.pr) 34)
    have XR := Own.box2 (K.trans (hK2.mono K.size)) (#[.int .i64 rk, .int .i64 ra, .int .i64 rb]) 52
    have hK3 := hK2.alloc hK2.size (.cells (#[.int .i64 rk, .int .i64 ra, .int .i64 rb]) 52)
    replace XQ := XQ.alloc (.cells (#[.int .i64 rk, .int .i64 ra, .int .i64 rb]) 52)
    replace XT := XT.alloc (.cells (#[.int .i64 rk, .int .i64 ra, .int .i64 rb]) 52)
    have hb := hK3
    replace K := K.trans (hb.mono K.size)
    replace L := L.below hb
    replace Os := Os.below hb
    replace O := O.below hb
    replace XP := XP.step hb
    replace XS := XS.step hb
    replace Ox := Ox.below hb
    replace XX := XX.step hb
    replace Oy := Oy.below hb
    replace XY := XY.step hb
    replace L2 := L2.below hb
    replace Ot := Ot.below hb
    clear hb hK0 hK1 hK2 hK3
    try rw [heap_size_alloc_] at XT
    try rw [heap_size_alloc_ , heap_size_alloc_] at XR
    generalize (((w9.alloc (.cells (planC U0 U1 U2 U3 q.n0 G0 q.n1 G1 q.n2 G2 q.n3 G3 q.l q.p q.t) 29)).alloc (.cells (stC F0 F1 F2 F3 t.pods.length j0 t.mnts.length j1 t.devs.length j2 t.lks.length j3 t.ph t.co t.ck t.bo t.ba t.lb t.gd t.pr) 34)).alloc (.cells (#[.int .i64 rk, .int .i64 ra, .int .i64 rb]) 52)) = w10 at K L Os O XP XS Ox XX Oy XY L2 Ot XQ XT XR ⊢
    generalize hw9 : w9.heap.size = b9 at XQ XT XR ⊢
    obtain ⟨u, one, hu⟩ : ∃ x b, appliedS q t ⟨rk, ra, rb⟩ = (x, b) := by
      generalize appliedS q t ⟨rk, ra, rb⟩ = q
      exact ⟨q.1, q.2, rfl⟩
    have HU := Lib.hid hu
    clear hu
    have h1 := XQ.C
    have h2 := XT.C
    have h3 := XR.C
    go_wp2_with fail
    have hall := implRec_any _ _ q t ⟨rk, ra, rb⟩ w10 L2.plan (Ot.isR hft) (HN.out.go K)
    rw [HU.out] at hall
    refine hall.mono ?_
    rintro e w11 ⟨vu, rfl, Ou, hb⟩
    clear hall h1 h2 h3
    replace K := K.trans (hb.mono K.size)
    replace L := L.below hb
    replace Os := Os.below hb
    replace O := O.below hb
    replace XP := XP.step hb
    replace XS := XS.step hb
    replace Ox := Ox.below hb
    replace XX := XX.step hb
    replace Oy := Oy.below hb
    replace XY := XY.step hb
    replace L2 := L2.below hb
    replace Ot := Ot.below hb
    replace XQ := XQ.step hb
    replace XT := XT.step hb
    replace XR := XR.step hb
    clear hb
    obtain ⟨y0, y1, y2, y3, rfl, -⟩ := Ou.it
    obtain ⟨⟨M0, h0, rfl⟩, ⟨M1, h1, rfl⟩, ⟨M2, h2, rfl⟩, ⟨M3, h3, rfl⟩⟩ := Ou.shapes
    go_upto_region 8 with fail
    have hK0 : Below w11.heap.size w11 w11 := Below.refl _ _
    have XU := Own.box2 K (stC M0 M1 M2 M3 u.pods.length h0 u.mnts.length h1 u.devs.length h2 u.lks.length h3 u.ph u.co u.ck u.bo u.ba u.lb u.gd u.pr) 34
    have hK1 := hK0.alloc hK0.size (.cells (stC M0 M1 M2 M3 u.pods.length h0 u.mnts.length h1 u.devs.length h2 u.lks.length h3 u.ph u.co u.ck u.bo u.ba u.lb u.gd u.pr) 34)
    have hb := hK1
    replace K := K.trans (hb.mono K.size)
    replace L := L.below hb
    replace Os := Os.below hb
    replace O := O.below hb
    replace XP := XP.step hb
    replace XS := XS.step hb
    replace Ox := Ox.below hb
    replace XX := XX.step hb
    replace Oy := Oy.below hb
    replace XY := XY.step hb
    replace L2 := L2.below hb
    replace Ot := Ot.below hb
    replace XQ := XQ.step hb
    replace XT := XT.step hb
    replace XR := XR.step hb
    replace Ou := Ou.below hb
    clear hb hK0 hK1
    generalize (w11.alloc (.cells (stC M0 M1 M2 M3 u.pods.length h0 u.mnts.length h1 u.devs.length h2 u.lks.length h3 u.ph u.co u.ck u.bo u.ba u.lb u.gd u.pr) 34)) = w12 at K L Os O XP XS Ox XX Oy XY L2 Ot XQ XT XR Ou XU ⊢
    generalize hw11 : w11.heap.size = b11 at XU ⊢
    have h1 := XQ.C
    have h2 := XT.C
    have h3 := XR.C
    go_wp2_with fail
    have hall := specRec_any _ _ q t ⟨rk, ra, rb⟩ w12 L2.plan (Ot.isR hft)
    rw [HU.out] at hall
    refine hall.mono ?_
    rintro e w13 ⟨vw, rfl, Ow, hb⟩
    clear hall h1 h2 h3
    replace K := K.trans (hb.mono K.size)
    replace L := L.below hb
    replace Os := Os.below hb
    replace O := O.below hb
    replace XP := XP.step hb
    replace XS := XS.step hb
    replace Ox := Ox.below hb
    replace XX := XX.step hb
    replace Oy := Oy.below hb
    replace XY := XY.step hb
    replace L2 := L2.below hb
    replace Ot := Ot.below hb
    replace XQ := XQ.step hb
    replace XT := XT.step hb
    replace XR := XR.step hb
    replace Ou := Ou.below hb
    replace XU := XU.step hb
    clear hb
    obtain ⟨y0, y1, y2, y3, rfl, -⟩ := Ow.it
    obtain ⟨⟨N0, i0, rfl⟩, ⟨N1, i1, rfl⟩, ⟨N2, i2, rfl⟩, ⟨N3, i3, rfl⟩⟩ := Ow.shapes
    go_upto_region 9 with fail
    have hK0 : Below w13.heap.size w13 w13 := Below.refl _ _
    have XW := Own.box2 K (stC N0 N1 N2 N3 u.pods.length i0 u.mnts.length i1 u.devs.length i2 u.lks.length i3 u.ph u.co u.ck u.bo u.ba u.lb u.gd u.pr) 34
    have hK1 := hK0.alloc hK0.size (.cells (stC N0 N1 N2 N3 u.pods.length i0 u.mnts.length i1 u.devs.length i2 u.lks.length i3 u.ph u.co u.ck u.bo u.ba u.lb u.gd u.pr) 34)
    have hb := hK1
    replace K := K.trans (hb.mono K.size)
    replace L := L.below hb
    replace Os := Os.below hb
    replace O := O.below hb
    replace XP := XP.step hb
    replace XS := XS.step hb
    replace Ox := Ox.below hb
    replace XX := XX.step hb
    replace Oy := Oy.below hb
    replace XY := XY.step hb
    replace L2 := L2.below hb
    replace Ot := Ot.below hb
    replace XQ := XQ.step hb
    replace XT := XT.step hb
    replace XR := XR.step hb
    replace Ou := Ou.below hb
    replace XU := XU.step hb
    replace Ow := Ow.below hb
    clear hb hK0 hK1
    generalize (w13.alloc (.cells (stC N0 N1 N2 N3 u.pods.length i0 u.mnts.length i1 u.devs.length i2 u.lks.length i3 u.ph u.co u.ck u.bo u.ba u.lb u.gd u.pr) 34)) = w14 at K L Os O XP XS Ox XX Oy XY L2 Ot XQ XT XR Ou XU Ow XW ⊢
    generalize hw13 : w13.heap.size = b13 at XW ⊢
    have h1 := XX.C
    have h2 := XY.C
    have h3 := XU.C
    have h4 := XW.C
    go_wp2_with fail
    refine (likeState_same _ _ x _ Ox.st Oy.st).mono ?_
    rintro e w15 ⟨rfl, hb⟩
    clear h1 h2 h3 h4
    replace K := K.trans (hb.mono K.size)
    replace L := L.below hb
    replace Os := Os.below hb
    replace O := O.below hb
    replace XP := XP.step hb
    replace XS := XS.step hb
    replace Ox := Ox.below hb
    replace XX := XX.step hb
    replace Oy := Oy.below hb
    replace XY := XY.step hb
    replace L2 := L2.below hb
    replace Ot := Ot.below hb
    replace XQ := XQ.step hb
    replace XT := XT.step hb
    replace XR := XR.step hb
    replace Ou := Ou.below hb
    replace XU := XU.step hb
    replace Ow := Ow.below hb
    replace XW := XW.step hb
    clear hb
    have h1 := XX.C
    have h2 := XY.C
    have h3 := XU.C
    have h4 := XW.C
    go_wp2_with fail
    refine (likeState_same _ _ u _ Ou.st Ow.st).mono ?_
    rintro e w16 ⟨rfl, hb⟩
    clear h1 h2 h3 h4
    replace K := K.trans (hb.mono K.size)
    replace L := L.below hb
    replace Os := Os.below hb
    replace O := O.below hb
    replace XP := XP.step hb
    replace XS := XS.step hb
    replace Ox := Ox.below hb
    replace XX := XX.step hb
    replace Oy := Oy.below hb
    replace XY := XY.step hb
    replace L2 := L2.below hb
    replace Ot := Ot.below hb
    replace XQ := XQ.step hb
    replace XT := XT.step hb
    replace XR := XR.step hb
    replace Ou := Ou.below hb
    replace XU := XU.step hb
    replace Ow := Ow.below hb
    replace XW := XW.step hb
    clear hb
    clear XQ XT XR XU XW XY Oy L2 Ot Ou Ow HU hft hqd hts
    have h1 := XP.C
    have h2 := XS.C
    have h3 := XX.C
    go_wp2_with fail
    refine (specStateOk_any _ _ d s _ L.plan Os.st).mono ?_
    rintro e w17 ⟨rfl, hb⟩
    clear h1 h2 h3
    replace K := K.trans (hb.mono K.size)
    replace L := L.below hb
    replace Os := Os.below hb
    replace O := O.below hb
    replace XP := XP.step hb
    replace XS := XS.step hb
    replace Ox := Ox.below hb
    replace XX := XX.step hb
    clear hb
    obtain ⟨bo_, hbo⟩ : ∃ b, stOkB d s = b := ⟨_, rfl⟩
    rw [hbo]
    cases bo_
    · have hx0 : x.pods.length = 0 := by
        have := HX.out
        rw [appliedL_no hbo] at this
        injection this with this _
        rw [← this]
        rfl
      have h3 := XX.C
      go_wp2_with fail
      go_ret
      exact ⟨ret_bool (by simp), K⟩
    · have HOK := Lib.hid hbo
      clear hbo
      have h2 := XS.C
      go_upto_region 14 with fail
      have R17 := Lib.hid O.rt
      have hb17 := XP.z
      have hw17 := K.size
      have HZ := heap_alloc_new w17 (.cells (stC E0 E1 E2 E3 s.pods.length k0 s.mnts.length k1 s.devs.length k2 s.lks.length k3 s.ph s.co s.ck s.bo s.ba s.lb s.gd s.pr) 34)
      have hb : Below w17.heap.size w17 (w17.alloc (.cells (stC E0 E1 E2 E3 s.pods.length k0 s.mnts.length k1 s.devs.length k2 s.lks.length k3 s.ph s.co s.ck s.bo s.ba s.lb s.gd s.pr) 34)) := (Below.refl _ _).alloc (Nat.le_refl _) _
      have IZ := (Os.below hb).isR hf
      have HIS : Hid ((Tryz.prog.info? 34).map (·.size) = some 12) := Lib.hid (by kernel_rfl)
      clear h2
      generalize w17.alloc (.cells (stC E0 E1 E2 E3 s.pods.length k0 s.mnts.length k1 s.devs.length k2 s.lks.length k3 s.ph s.co s.ck s.bo s.ba s.lb s.gd s.pr) 34) = w18 at HZ hb IZ ⊢
      go_wp2_with fail
      go_loopw [18, 19] (fun g18 i19 wr => ∃ (k : Nat) (b : Bool) (z : StD) (Z0 Z1 Z2 Z3 : Option Addr) (n0 n1 n2 n3 : Nat), i19 = .int .i64 k ∧ g18 = .bool b ∧ k ≤ l.length ∧ stOkB d z = true ∧ (b = true → runR d s (l.take k) = some z) ∧ (b = false → runR d s l = none) ∧ wr.heap[w17.heap.size]? = some (.cells (stC Z0 Z1 Z2 Z3 z.pods.length n0 z.mnts.length n1 z.devs.length n2 z.lks.length n3 z.ph z.co z.ck z.bo z.ba z.lb z.gd z.pr) 34) ∧ IsStR wr wr.heap.size (.agg (stC Z0 Z1 Z2 Z3 z.pods.length n0 z.mnts.length n1 z.devs.length n2 z.lks.length n3 z.ph z.co z.ck z.bo z.ba z.lb z.gd z.pr)) z ∧ Below w17.heap.size w17 wr) (fun _ i19 _ => l.length - (intOf i19).toNat)
      case atStart => exact ⟨0, true, s, E0, E1, E2, E3, k0, k1, k2, k3, rfl, rfl, Nat.zero_le _, HOK.out, fun _ => rfl, (by intro h; cases h), HZ, IZ, hb⟩
      case round =>
        clear HZ hb IZ
        obtain ⟨k, b, z, Z0, Z1, Z2, Z3, n0, n1, n2, n3, rfl, rfl, hk, hzk, hrt, hrf, HZ, IZ, hb⟩ := hrel
        replace K := K.trans (hb.mono K.size)
        replace L := L.below hb
        replace Os := Os.below hb
        replace O := O.below hb
        replace XP := XP.step hb
        replace XS := XS.step hb
        replace Ox := Ox.below hb
        replace XX := XX.step hb
        have hzlt := (Array.getElem?_eq_some_iff.1 HZ).1
        have HRF := Lib.hid hrf
        have HRT := Lib.hid hrt
        have HZK := Lib.hid hzk
        clear hrf hrt hzk
        have hlm : l.length ≤ 4 := hl
        cases b
        · have hnone := HRF.out rfl
          have hxs : x = s ∧ is_ = false := by
            have := HX.out
            unfold appliedL at this
            rw [HOK.out, hnone] at this
            simp at this
            exact ⟨this.1.symm, this.2⟩
          obtain ⟨rfl, rfl⟩ := hxs
          have h1 := XP.C
          have h2 := XS.C
          have h3 := XX.C
          by_cases hlt : k < l.length
          all_goals
            go_wp2_with fail
            refine (likeState_same _ _ _ _ Ox.st Os.st).mono ?_
            rintro e wa ⟨rfl, hb2⟩
            replace XP := XP.step hb2
            replace XX := XX.step hb2
            have g1 := XP.C
            have g3 := XX.C
            clear h1 h2 h3
            go_wp2_with fail
            refine (implStateOk_any _ _ d _ _ (L.below hb2).plan (Ox.below hb2).st).mono ?_
            rintro e wb ⟨rfl, hb3⟩
            have KE := (K.trans (hb2.mono K.size)).trans (hb3.mono (K.trans (hb2.mono K.size)).size)
            rw [HOK.out]
            go_wp2_with fail
            go_ret
            exact ⟨rfl, KE⟩
        · by_cases hlt : k < l.length
          · have hrun := HRT.out rfl
            have HRUN := Lib.hid hrun
            clear hrun
            obtain ⟨rb0, roff, hAL, hrb17, hR0, hR1, hR2⟩ := (R17.out.below hb (Nat.le_refl _)).cell hlt
            subst hAL
            generalize hrr : recAt l k = r at hR0 hR1 hR2
            obtain ⟨pk, pa, pb⟩ := r
            dsimp only at hR0 hR1 hR2
            have HRR := Lib.hid hrr
            clear hrr
            have hrl : rb0 < wr.heap.size := Nat.lt_trans hrb17 hzlt
            go_upto_region 18 with fail
            refine wp_region_noPanic ?_
            refine wp_region_held_drew (S := fun W => (∀ o, W.cell? ⟨b3, o, none⟩ = (planC V0 V1 V2 V3 d.n0 C0 d.n1 C1 d.n2 C2 d.n3 C3 d.l d.p d.t)[o]?) ∧ W.cell? ⟨rb0, roff + k * 3, none⟩ = some (.int .i64 pk) ∧ W.cell? ⟨rb0, roff + k * 3 + 1, none⟩ = some (.int .i64 pa) ∧ W.cell? ⟨rb0, roff + k * 3 + 2, none⟩ = some (.int .i64 pb)) (by kernel_rfl) ⟨XP.drew.C, hR0, hR1, hR2⟩ (fun _ => ?_)
            have hD : Below wr.heap.size wr wr.drew := (Below.refl _ _).drew
            replace hR0 : wr.drew.cell? ⟨rb0, roff + k * 3, none⟩ = some (.int .i64 pk) := hR0
            replace hR1 : wr.drew.cell? ⟨rb0, roff + k * 3 + 1, none⟩ = some (.int .i64 pa) := hR1
            replace hR2 : wr.drew.cell? ⟨rb0, roff + k * 3 + 2, none⟩ = some (.int .i64 pb) := hR2
            replace hrl : rb0 < wr.drew.heap.size := hrl
            replace hzlt : w17.heap.size < wr.drew.heap.size := hzlt
            rw [← heap_drew wr] at HZ
            replace IZ := IZ.go hD
            replace hb := hb.drew
            replace L := L.below hD
            replace XP := XP.drew
            replace K := K.drew
            clear hD
            clear Os O XS Ox XX
            generalize wr.drew = wd at XP HZ hR0 hR1 hR2 IZ hb L K hrl hzlt ⊢
            refine wpAnyH_take (i := 0) (v := ?_) rfl (by kernel_rfl) (by kernel_rfl) (by kernel_rfl) (fun _ _ _ h => h) (Or.inl ⟨by rfl, ?_⟩) ⟨XP.C, hR0, hR1, hR2⟩ ?_
            rotate_left 1
            · intro w hSw
              obtain ⟨hs1, hs2, hs3, hs4⟩ := hSw
              go_simp
              try with_reducible rfl
            change wpAnyH _ _ _ _ _ _ _ (Act.put _ (some 101) _) _
            dsimp only [Act.put]
            refine wpAnyH_take (i := 2) (v := ?_) rfl (by kernel_rfl) (by kernel_rfl) (by kernel_rfl) (fun _ _ _ h => h) (Or.inl ⟨by rfl, ?_⟩) ⟨XP.C, hR0, hR1, hR2⟩ ?_
            rotate_left 1
            · intro w hSw
              obtain ⟨hs1, hs2, hs3, hs4⟩ := hSw
              go_simp
              try with_reducible rfl
            change wpAnyH _ _ _ _ _ _ _ (Act.put _ (some 103) _) _
            dsimp only [Act.put]
            refine wpAnyH_take (i := 3) (v := ?_) rfl (by kernel_rfl) (by kernel_rfl) (by kernel_rfl) (fun _ _ _ h => h) (Or.inl ⟨by rfl, ?_⟩) ⟨XP.C, hR0, hR1, hR2⟩ ?_
            rotate_left 1
            · intro w hSw
              obtain ⟨hs1, hs2, hs3, hs4⟩ := hSw
              go_simp
              try with_reducible rfl
            change wpAnyH _ _ _ _ _ _ _ (Act.put _ (some 104) _) _
            dsimp only [Act.put]
            refine wpAnyH_take (i := 4) (v := ?_) rfl (by kernel_rfl) (by kernel_rfl) (by kernel_rfl) (fun _ _ _ h => h) (Or.inl ⟨by rfl, ?_⟩) ⟨XP.C, hR0, hR1, hR2⟩ ?_
            rotate_left 1
            · intro w hSw
              obtain ⟨hs1, hs2, hs3, hs4⟩ := hSw
              go_simp
              try with_reducible rfl
            change wpAnyH _ _ _ _ _ _ _ (Act.put _ (some 105) _) _
            dsimp only [Act.put]
            refine wpAnyH_take (i := 5) (v := ?_) rfl (by kernel_rfl) (by kernel_rfl) (by kernel_rfl) (fun _ _ _ h => h) (Or.inl ⟨by rfl, ?_⟩) ⟨XP.C, hR0, hR1, hR2⟩ ?_
            rotate_left 1
            · intro w hSw
              obtain ⟨hs1, hs2, hs3, hs4⟩ := hSw
              go_simp
              try with_reducible rfl
            change wpAnyH _ _ _ _ _ _ _ (Act.put _ (some 106) _) _
            dsimp only [Act.put]
            refine wpAnyH_ready (rs := [1]) (by kernel_rfl) (by simp) ?_
            refine AllReadyH.cons rfl (fun K' hK => ?_) AllReadyH.nil
            rw [if_pos (by rfl)]
            refine wp_load_row 34 (.tmp 17) rfl w17.heap.size rfl _ (stC Z0 Z1 Z2 Z3 z.pods.length n0 z.mnts.length n1 z.devs.length n2 z.lks.length n3 z.ph z.co z.ck z.bo z.ba z.lb z.gd z.pr) _ _ HZ Tryz.underlying34 rfl HIS.out ?_
            refine hK.out _ _ ⟨XP.C, hR0, hR1, hR2⟩ (fun _ => ?_)
            clear hK K'
            change wpAnyH _ _ _ _ _ _ _ (Act.put _ (some 102) _) _
            dsimp only [Act.put]
            refine wpAnyH_ready (rs := [6]) (by kernel_rfl) (by simp) ?_
            refine AllReadyH.cons rfl (fun K' hK => ?_) AllReadyH.nil
            go_simp
            go_at_call 24
            obtain ⟨z2, b2, hz2⟩ : ∃ x b, appliedS d z ⟨pk, pa, pb⟩ = (x, b) := by
              generalize appliedS d z ⟨pk, pa, pb⟩ = q
              exact ⟨q.1, q.2, rfl⟩
            have hall := implRec_any _ _ d z ⟨pk, pa, pb⟩ wd L.plan IZ (HN.out.go K)
            rw [hz2] at hall
            obtain ⟨y1, y2, y3, y4⟩ := applied_next HOK.out HZK.out (HRUN.out) hlt HRR.out hz2
            refine hall.mono ?_
            rintro e we ⟨vz, rfl, Oz, hbz⟩
            clear hall
            obtain ⟨w0_, w1_, w2_, w3_, rfl, -⟩ := Oz.it
            obtain ⟨⟨D0, p0, rfl⟩, ⟨D1, p1, rfl⟩, ⟨D2, p2, rfl⟩, ⟨D3, p3, rfl⟩⟩ := Oz.shapes
            replace XP := XP.step hbz
            replace HZ := (hbz.block _ (Array.getElem?_eq_some_iff.1 HZ).1).trans HZ
            replace hR0 := (hbz.cell (p := ⟨rb0, roff + k * 3, none⟩) hrl).trans hR0
            replace hR1 := (hbz.cell (p := ⟨rb0, roff + k * 3 + 1, none⟩) hrl).trans hR1
            replace hR2 := (hbz.cell (p := ⟨rb0, roff + k * 3 + 2, none⟩) hrl).trans hR2
            replace hb := hb.trans (hbz.mono hb.size)
            clear hbz IZ
            go_wp2_with fail
            refine hK.out _ _ ⟨XP.C, hR0, hR1, hR2⟩ (fun _ => ?_)
            clear hK K'
            try (change wpAnyH _ _ _ _ _ _ _ (Act.put _ (some 107) _) _; dsimp only [Act.put])
            refine wpAnyH_take (i := 7) (v := ?_) rfl (by kernel_rfl) (by kernel_rfl) (by kernel_rfl) (fun _ _ _ h => h) (Or.inl ⟨by rfl, ?_⟩) ⟨XP.C, hR0, hR1, hR2⟩ ?_
            rotate_left 1
            · intro w hSw
              obtain ⟨hs1, hs2, hs3, hs4⟩ := hSw
              go_simp
              try with_reducible rfl
            change wpAnyH _ _ _ _ _ _ _ (Act.put _ (some 100) _) _
            dsimp only [Act.put]
            refine wpAnyH_take (i := 8) (v := ?_) rfl (by kernel_rfl) (by kernel_rfl) (by kernel_rfl) (fun _ _ _ h => h) (Or.inl ⟨by rfl, ?_⟩) ⟨XP.C, hR0, hR1, hR2⟩ ?_
            rotate_left 1
            · intro w hSw
              obtain ⟨hs1, hs2, hs3, hs4⟩ := hSw
              go_simp
              try with_reducible rfl
            change wpAnyH _ _ _ _ _ _ _ (Act.put _ (some 108) _) _
            dsimp only [Act.put]
            refine wpAnyH_take (i := 9) (v := ?_) rfl (by kernel_rfl) (by kernel_rfl) (by kernel_rfl) (fun _ _ _ h => h) (Or.inl ⟨by rfl, ?_⟩) ⟨XP.C, hR0, hR1, hR2⟩ ?_
            rotate_left 1
            · intro w hSw
              obtain ⟨hs1, hs2, hs3, hs4⟩ := hSw
              go_simp
              try with_reducible rfl
            change wpAnyH _ _ _ _ _ _ _ (Act.put _ (some 109) _) _
            dsimp only [Act.put]
            refine wpAnyH_ready (rs := [10]) (by kernel_rfl) (by simp) ?_
            refine AllReadyH.cons rfl (fun K' hK => ?_) AllReadyH.nil
            rw [if_pos (by rfl)]
            refine wp_store_row 34 (.tmp 17) (.tmp 108) rfl w17.heap.size (stC D0 D1 D2 D3 z2.pods.length p0 z2.mnts.length p1 z2.devs.length p2 z2.lks.length p3 z2.ph z2.co z2.ck z2.bo z2.ba z2.lb z2.gd z2.pr) rfl rfl 34 _ HZ HIS.out rfl (by simp [Value.oneCell']) ?_
            have kk := keepsRow_ we w17.heap.size (stC D0 D1 D2 D3 z2.pods.length p0 z2.mnts.length p1 z2.devs.length p2 z2.lks.length p3 z2.ph z2.co z2.ck z2.bo z2.ba z2.lb z2.gd z2.pr)
            replace XP := XP.keeps kk (by rintro b rfl; exact hw17) (by show ¬ b3 = w17.heap.size; omega)
            replace hR0 := (kk.cell (p := ⟨rb0, roff + k * 3, none⟩) (Nat.lt_of_lt_of_le hrb17 hb.size) (by show ¬ rb0 = w17.heap.size; omega)).trans hR0
            replace hR1 := (kk.cell (p := ⟨rb0, roff + k * 3 + 1, none⟩) (Nat.lt_of_lt_of_le hrb17 hb.size) (by show ¬ rb0 = w17.heap.size; omega)).trans hR1
            replace hR2 := (kk.cell (p := ⟨rb0, roff + k * 3 + 2, none⟩) (Nat.lt_of_lt_of_le hrb17 hb.size) (by show ¬ rb0 = w17.heap.size; omega)).trans hR2
            have IZ := (Oz.keepsT kk HZ (by decide)).isR y4
            replace HZ := setRow_heap _ _ _ (stC D0 D1 D2 D3 z2.pods.length p0 z2.mnts.length p1 z2.devs.length p2 z2.lks.length p3 z2.ph z2.co z2.ck z2.bo z2.ba z2.lb z2.gd z2.pr) _ _ HZ
            replace hb := belowRow_ hb (Nat.le_refl _) (stC D0 D1 D2 D3 z2.pods.length p0 z2.mnts.length p1 z2.devs.length p2 z2.lks.length p3 z2.ph z2.co z2.ck z2.bo z2.ba z2.lb z2.gd z2.pr)
            clear kk Oz
            refine hK.out _ _ ⟨XP.C, hR0, hR1, hR2⟩ (fun _ => ?_)
            clear hK K'
            try (change wpAnyH _ _ _ _ _ _ _ (Act.put _ none _) _; dsimp only [Act.put])
            refine wpAnyH_take (i := 11) (v := ?_) rfl (by kernel_rfl) (by kernel_rfl) (by kernel_rfl) (fun _ _ _ h => h) (Or.inl ⟨by rfl, ?_⟩) ⟨XP.C, hR0, hR1, hR2⟩ ?_
            rotate_left 1
            · intro w hSw
              obtain ⟨hs1, hs2, hs3, hs4⟩ := hSw
              go_simp
              try with_reducible rfl
            change wpAnyH _ _ _ _ _ _ _ (Act.put _ (some 18) _) _
            dsimp only [Act.put]
            refine wpAnyH_done (by kernel_rfl) ?_ _
            refine NoPanic.normal ?_
            clear hR0 hR1 hR2 L
            go_wp2_with fail
            exact ⟨⟨k + 1, b2, z2, D0, D1, D2, D3, p0, p1, p2, p3, by go_num, rfl, by omega, y1, y2, y3, HZ, IZ, hb⟩, by simp [intOf]; omega⟩
          · have hkl : l.length = k := by omega
            have hsome : runR d s l = some z := by
              have := HRT.out rfl
              rwa [← hkl, List.take_length] at this
            have hxs : x = z ∧ is_ = true := by
              have := HX.out
              unfold appliedL at this
              rw [HOK.out, hsome] at this
              simp at this
              exact ⟨this.1.symm, this.2⟩
            obtain ⟨rfl, rfl⟩ := hxs
            have h1 := XP.C
            have h3 := XX.C
            have h4 : ∀ o, wr.cell? ⟨w17.heap.size, o, none⟩ = (stC Z0 Z1 Z2 Z3 x.pods.length n0 x.mnts.length n1 x.devs.length n2 x.lks.length n3 x.ph x.co x.ck x.bo x.ba x.lb x.gd x.pr)[o]? := fun o => cell_of_row _ _ o _ _ _ HZ
            clear hk
            go_wp2_with fail
            refine (likeState_same _ _ _ _ Ox.st IZ.is).mono ?_
            rintro e wa ⟨rfl, hb2⟩
            replace XP := XP.step hb2
            replace XX := XX.step hb2
            have g1 := XP.C
            have g3 := XX.C
            clear h1 h3 h4
            go_wp2_with fail
            refine (implStateOk_any _ _ d _ _ (L.below hb2).plan (Ox.below hb2).st).mono ?_
            rintro e wb ⟨rfl, hb3⟩
            have KE := (K.trans (hb2.mono K.size)).trans (hb3.mono (K.trans (hb2.mono K.size)).size)
            rw [HZK.out]
            go_wp2_with fail
            go_ret
            exact ⟨rfl, KE⟩
end Go.Proofs.YtdkmhaghnfhajaaGreatDoor
