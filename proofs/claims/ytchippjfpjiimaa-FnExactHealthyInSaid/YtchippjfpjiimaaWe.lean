/-
  The model's chapters 8 and 9.
-/
import Derived.Test.YtchippjfpjiimaaWd
import Derived.Test.YtchippjfpjiimaaUi
import Derived.Test.YtchippjfpjiimaaTd
import Derived.BigQuiet
import Derived.Deep.RegionHeld3
set_option linter.unusedVariables false
namespace Go.Proofs.Ytchippjfpjiimaa
open Go.RowKit

def hP (d : PlanD) (s : StD) (g : Int) (i : Nat) : Bool := decide (d.x0 (i * 4) = g) && decide ((podA s.pods i).1 = 0)
theorem healthyN_count (d : PlanD) (s : StD) (g : Int) : healthyN d s g = ((List.range d.n0).countP (hP d s g) : Nat) := rfl
theorem count_next (p : Nat → Bool) (k : Nat) : (List.range (k + 1)).countP p = (List.range k).countP p + if p k then 1 else 0 := by
  rw [List.range_succ, List.countP_append]
  simp [List.countP_cons]
theorem count_le (p : Nat → Bool) (k : Nat) : (List.range k).countP p ≤ k := by
  have := List.countP_le_length (p := p) (l := List.range k)
  simpa using this
theorem mount_pod {d : PlanD} (h : planOkB d = true) {i : Nat} (hi : i < d.n2) : ∃ m : Nat, d.x2 (i * 2) = m ∧ m < d.n0 ∧ mpod d i = m := by
  have hf := mount_facts h hi
  simp only [planOkB, Bool.and_eq_true] at h
  obtain ⟨⟨-, hm⟩, -⟩ := h
  have := allB_true.1 hm i hi
  simp only [mountB, Bool.and_eq_true, inB_true] at this
  exact ⟨mpod d i, by unfold mpod; omega, hf.1, rfl⟩
theorem dev_mnt {d : PlanD} (h : planOkB d = true) {i : Nat} (hi : i < d.n3) : ∃ m : Nat, d.x3 i = m ∧ m < d.n2 ∧ dmnt d i = m := by
  simp only [planOkB, Bool.and_eq_true] at h
  obtain ⟨-, hm⟩ := h
  have := allB_true.1 hm i hi
  simp only [deviceB, inB_true] at this
  exact ⟨dmnt d i, by unfold dmnt; omega, by unfold dmnt; omega, rfl⟩
theorem pod_group {d : PlanD} (h : planOkB d = true) {i : Nat} (hi : i < d.n0) : ∃ m : Nat, d.x0 (i * 4) = m ∧ m < d.n1 := by
  simp only [planOkB, Bool.and_eq_true] at h
  obtain ⟨⟨⟨⟨-, hm⟩, -⟩, -⟩, -⟩ := h
  have := allB_true.1 hm i hi
  simp only [podB, Bool.and_eq_true, inB_true] at this
  exact ⟨(d.x0 (i * 4)).toNat, by omega, by omega⟩

set_option maxRecDepth 4000 in
set_option maxHeartbeats 4000000 in
theorem healthyIn_any (pv sv : Value) (d : PlanD) (s : StD) (g : Int) (w : World) (hp : IsPlan w w.heap.size pv d) (hs : IsSt w w.heap.size sv s) :
    Calls Try.prog 7 #[pv, sv, .int .i64 g] w fun e w' => e = .returned (.int .i64 (if stOkB d s && inB g 0 (d.n1 - 1) then healthyN d s g else -1)) ∧ Below w.heap.size w w' := by
  have HP := Lib.hid hp
  have HS := Lib.hid hs
  obtain ⟨⟨P0, P1, P2, P3, k0, k1, k2, k3, rfl, s0, s1, s2, s3⟩, b0, b1, b2, b3⟩ := hp
  obtain ⟨⟨A0, A1, A2, A3, c0, c1, c2, c3, rfl, t0, t1, t2, t3⟩, f0, f1, f2, f3⟩ := hs
  have S0 := Lib.hid s0
  have S1 := Lib.hid s1
  have S2 := Lib.hid s2
  have S3 := Lib.hid s3
  have R0 := Lib.hid t0
  have R1 := Lib.hid t1
  have R2 := Lib.hid t2
  have R3 := Lib.hid t3
  unfold maxLen at b0 b1 b2 b3 f0 f1 f2 f3
  clear s0 s1 s2 s3 t0 t1 t2 t3
  have T0 := Two.start w (planC P0 P1 P2 P3 d.n0 k0 d.n1 k1 d.n2 k2 d.n3 k3 d.l d.p d.t) (stC A0 A1 A2 A3 s.pods.length c0 s.mnts.length c1 s.devs.length c2 s.lks.length c3 s.ph s.co s.ck s.bo s.ba s.lb s.gd s.pr) 40 45
  obtain ⟨ans, hans⟩ : ∃ ans, (if stOkB d s && inB g 0 (d.n1 - 1) then healthyN d s g else -1) = ans := ⟨_, rfl⟩
  rw [hans]
  have HANS := Lib.hid hans
  clear hans
  go_enter Try.func7, Try.ntmps7
  go_wp2_with fail
  refine (specStateOk_any _ _ d s _ ((HP.out.below T0.A.K (Nat.le_refl _)).more T0.A.K.size) ((HS.out.below T0.A.K (Nat.le_refl _)).more T0.A.K.size)).mono ?_
  rintro e w1 ⟨rfl, hb⟩
  have T1 := T0.step hb
  have hC := T1.A.C
  clear hb T0
  cases hok : stOkB d s
  · have OKB := Lib.hid hok
    clear hok
    go_wp2
    all_goals (go_ret; exact ⟨ret_int (by rw [← HANS.out, OKB.out]; rfl), T1.A.K⟩)
  · have OK := Lib.hid (stOkB_iff.1 hok)
    have OKB := Lib.hid hok
    clear hok
    go_wp2_with fail
    refine (in_any _ _ _ _).mono ?_
    rintro e w2 ⟨rfl, rfl⟩
    cases hin : inB g 0 (d.n1 - 1)
    · have HIN := Lib.hid hin
      clear hin
      go_wp2
      all_goals (go_ret; exact ⟨ret_int (by rw [← HANS.out, OKB.out, HIN.out]; rfl), T1.A.K⟩)
    · have HIN := Lib.hid hin
      clear hin
      go_wp2_with fail
      go_loopw [7, 8] (fun n i wr => ∃ k : Nat, k ≤ d.n0 ∧ i = .int .i64 k ∧ n = .int .i64 ((List.range k).countP (hP d s g) : Nat) ∧ Two w wr (planC P0 P1 P2 P3 d.n0 k0 d.n1 k1 d.n2 k2 d.n3 k3 d.l d.p d.t) (stC A0 A1 A2 A3 s.pods.length c0 s.mnts.length c1 s.devs.length c2 s.lks.length c3 s.ph s.co s.ck s.bo s.ba s.lb s.gd s.pr)) (fun _ i _ => d.n0 - (intOf i).toNat)
      case atStart => exact ⟨0, Nat.zero_le _, rfl, rfl, T1⟩
      case round =>
        clear hC T1
        obtain ⟨k, hk, rfl, rfl, T⟩ := hrel
        have hC := T.A.C
        have hD := T.O.C
        by_cases hlt : k < d.n0
        · obtain ⟨b, off, rfl, hb, q0, -, -, -⟩ := (S0.out.own T.A).cell4 hlt
          have hlp : k < s.pods.length := by rw [OK.out.np]; exact hlt
          obtain ⟨b', off', rfl, hb', hc⟩ := (R0.out.below T.A.K (Nat.le_refl _)).cell hlp
          have p0 := (hc 0 (by decide)).trans (podCs_at s.pods (i := k) hlp).1
          rw [Nat.add_zero] at p0
          clear hc
          have hle := count_le (hP d s g) k
          have CN := Lib.hid (count_next (hP d s g) k)
          have CP : Hid (hP d s g k = (decide (d.x0 (k * 4) = g) && decide ((podA s.pods k).1 = 0))) := Lib.hid rfl
          generalize (List.range k).countP (hP d s g) = m at CN hle ⊢
          generalize hP d s g k = hp at CP CN
          generalize podA s.pods k = r at p0 CP
          obtain ⟨x, y⟩ := r
          dsimp only at p0 CP
          cases hv : (d.x0 (k * 4) == g)
          · have CF : Hid (hp = false) := Lib.hid (by rw [CP.out]; simp at hv; simp [hv])
            go_wp2
            refine ⟨⟨k + 1, by omega, by go_num, by rw [CN.out, CF.out]; rfl, T⟩, by simp [intOf]; omega⟩
          · by_cases hx : x = 0
            · have CF : Hid (hp = true) := Lib.hid (by rw [CP.out]; simp at hv; simp [hv, hx])
              subst hx
              go_wp2
              refine ⟨⟨k + 1, by omega, by go_num, by rw [CN.out, CF.out]; go_num, T⟩, by simp [intOf]; omega⟩
            · have CF : Hid (hp = false) := Lib.hid (by rw [CP.out]; simp [hx])
              go_wp2
              refine ⟨⟨k + 1, by omega, by go_num, by rw [CN.out, CF.out]; rfl, T⟩, by simp [intOf]; omega⟩
        · obtain rfl : k = d.n0 := by omega
          go_wp2
          all_goals (go_ret; exact ⟨ret_int (by rw [← HANS.out, OKB.out, HIN.out]; rfl), T.A.K⟩)

end Go.Proofs.Ytchippjfpjiimaa
