/-
  Chapter 12 of the program: a list of records in a box; the closure that adds one.
-/
import Derived.Test.YtdphpjnecjofeaaGreatDoorMZxUo
import Derived.Test.YtdphpjnecjofeaaGreatDoorMZ9
import Derived.Test.YtdphpjnecjofeaaGreatDoorMZ6
import Derived.Test.YtdphpjnecjofeaaGreatDoorMZ10
import Derived.Deep.DeepCutAuto
import Derived.Test.YtdphpjnecjofeaaGreatDoorMZ20
import Derived.Test.YtdphpjnecjofeaaGreatDoorMZ12
import Derived.Deep.RegionHeld3
import Derived.Test.YtdphpjnecjofeaaGreatDoorMZ19
import Derived.Deep.AppendLies
/- Vc -/
set_option linter.unusedVariables false
namespace Go.Proofs.YtdphpjnecjofeaaGreatDoor
open Go.RowKit

theorem aliveB_no {x : Int} (h0 : ¬ x = 0) (h1 : ¬ x = 1) (h2 : ¬ x = 2) (h3 : ¬ x = 3) : aliveB x = false := by
  rw [Bool.eq_false_iff]
  intro h
  rw [aliveB, inB_true] at h
  omega
set_option maxHeartbeats 1000000 in
theorem implAlive_any (x : Int) (w : World) : Calls Tryz.prog 210 #[.int .i64 x] w fun e w' => e = .returned (.bool (aliveB x)) ∧ w = w' := by
  by_cases h0 : x = 0
  · subst h0
    go_enter Tryz.func210, Tryz.ntmps210
    go_wp2
    all_goals (go_ret; exact ⟨ret_bool (by decide), rfl⟩)
  · by_cases h1 : x = 1
    · subst h1
      go_enter Tryz.func210, Tryz.ntmps210
      go_wp2
      all_goals (go_ret; exact ⟨ret_bool (by decide), rfl⟩)
    · by_cases h2 : x = 2
      · subst h2
        go_enter Tryz.func210, Tryz.ntmps210
        go_wp2
        all_goals (go_ret; exact ⟨ret_bool (by decide), rfl⟩)
      · by_cases h3 : x = 3
        · subst h3
          go_enter Tryz.func210, Tryz.ntmps210
          go_wp2
          all_goals (go_ret; exact ⟨ret_bool (by decide), rfl⟩)
        · go_enter Tryz.func210, Tryz.ntmps210
          go_wp2
          all_goals (go_ret; exact ⟨ret_bool (by rw [aliveB_no h0 h1 h2 h3]), rfl⟩)

end Go.Proofs.YtdphpjnecjofeaaGreatDoor
/- VlA -/
set_option linter.unusedVariables false
namespace Go.Proofs.YtdphpjnecjofeaaGreatDoor
open Go.RowKit

def liveP (s : StD) (i : Nat) : Bool := aliveB (podA s.pods i).1
theorem liveL_le (s : StD) : (liveL s).length ≤ s.pods.length := picks_le _ _
set_option maxRecDepth 100000 in
set_option maxHeartbeats 2000000 in
theorem implLiveIn_any (v : Value) (s : StD) (w : World) (h : IsSt w w.heap.size v s) (hn : s.pods.length ≤ 1048576) :
    Calls Tryz.prog 194 #[v] w (Listed w (liveL s)) := by
  obtain ⟨⟨E0, E1, E2, E3, k0, k1, k2, k3, rfl, s0, -, -, -⟩, -, -, -, -⟩ := h
  have S := Lib.hid s0
  have HN := Lib.hid hn
  have hn' : s.pods.length ≤ 2 ^ 63 - 1 := by omega
  clear s0 hn
  obtain ⟨i0, hi, hz0, hz1, hz2⟩ := info_parts info_i64
  have HI := Lib.hid hi
  have HZ0 := Lib.hid hz0
  have HZ1 := Lib.hid hz1
  have HZ2 := Lib.hid hz2
  clear hi hz0 hz1 hz2
  go_enter Tryz.func194, Tryz.ntmps194
  go_wp2
  have X1 := (Own.box w (stC E0 E1 E2 E3 s.pods.length k0 s.mnts.length k1 s.devs.length k2 s.lks.length k3 s.ph s.co s.ck s.bo s.ba s.lb s.gd s.pr) 40).alloc (.cells #[] 2)
  have O1 : ((w.alloc (.cells (stC E0 E1 E2 E3 s.pods.length k0 s.mnts.length k1 s.devs.length k2 s.lks.length k3 s.ph s.co s.ck s.bo s.ba s.lb s.gd s.pr) 40)).alloc (.cells #[] 2)).ownsRow (w.heap.size + 1) 2 1 (.slice (some ⟨w.heap.size + 1, 0, none⟩) 0 0) 0 [] := by
    have := World.ownsRow_made (base := w.heap.size + 1) (e := 2) (size := 1) (w.alloc (.cells (stC E0 E1 E2 E3 s.pods.length k0 s.mnts.length k1 s.devs.length k2 s.lks.length k3 s.ph s.co s.ck s.bo s.ba s.lb s.gd s.pr) 40)) #[] 0 (by simp) (Nat.zero_le _) rfl
    simpa using this
  go_loopw [3, 10] (fun v i wr => ∃ k : Nat, k ≤ s.pods.length ∧ i = .int .i64 k ∧ wr.ownsRow (w.heap.size + 1) 2 1 v (picks k (liveP s)).length ((picks k (liveP s)).map (Value.int .i64)) ∧
    Own w wr w.heap.size (stC E0 E1 E2 E3 s.pods.length k0 s.mnts.length k1 s.devs.length k2 s.lks.length k3 s.ph s.co s.ck s.bo s.ba s.lb s.gd s.pr)) (fun _ i _ => s.pods.length - (intOf i).toNat)
  case atStart => exact ⟨0, Nat.zero_le _, rfl, O1, X1⟩
  case round =>
    clear O1 X1
    obtain ⟨k, hk, rfl, O, X⟩ := hrel
    have HO := Lib.hid O
    clear O
    have hC := X.C
    have hz := X.z
    by_cases hlt : k < s.pods.length
    · have hle := picks_le k (liveP s)
      have h63 : (picks k (liveP s)).length + 1 ≤ maxLen := by have := HN.out; unfold maxLen; omega
      have hby : ((picks k (liveP s)).length + 1) * 8 ≤ 140737488355328 := by have := HN.out; omega
      have H63 := Lib.hid h63
      have HBY := Lib.hid hby
      clear h63 hby hle
      obtain ⟨b, off, rfl, hb, hc⟩ := (S.out.below X.K (Nat.le_refl _)).cell hlt
      have hp := podCs_at s.pods (i := k) hlt
      have q0 := (hc 0 (by decide)).trans hp.1
      have q1 := (hc 1 (by decide)).trans hp.2
      rw [Nat.add_zero] at q0
      clear hc hp
      cases hv : aliveB (podA s.pods k).1
      · have HV := Lib.hid (picks_no (n := k) (p := liveP s) hv)
        generalize podA s.pods k = r at q0 q1 hv
        obtain ⟨x, y⟩ := r
        dsimp only at q0 q1 hv
        go_wp2_with (go_at_call 210; refine (implAlive_any _ _).mono ?_; rintro e w' ⟨rfl, rfl⟩)
        refine ⟨⟨k + 1, by omega, by go_num, by rw [HV.out]; exact HO.out.alloc (.cells #[.int .i64 x, .int .i64 y] 140), X.alloc (.cells #[.int .i64 x, .int .i64 y] 140)⟩, by simp [intOf]; omega⟩
      · have HV := Lib.hid (picks_yes (n := k) (p := liveP s) hv)
        generalize podA s.pods k = r at q0 q1 hv
        obtain ⟨x, y⟩ := r
        dsimp only at q0 q1 hv
        go_wp2_with (first
          | (go_at_call 210; refine (implAlive_any _ _).mono ?_; rintro e w' ⟨rfl, rfl⟩)
          | (at_builtin; refine wpList_append_own _ rfl _ _ 23 rfl (w.heap.size + 1) 2 i0 (.int .i64 0) 1 8 Tryz.underlying23 HI.out HZ0.out HZ1.out HZ2.out rfl (by decide) _ _ _ rfl ((HO.out.alloc (.cells #[.int .i64 x, .int .i64 y] 140)).alloc _) ⟨wr.heap.size + 1, 0, none⟩ 1 1 [.int .i64 k] rfl rfl (by simpa [heap_size_alloc_] using cell_one_new (wr.alloc (.cells #[.int .i64 x, .int .i64 y] 140)) (.int .i64 k) 2) (fun x hx => by simp at hx; subst hx; rfl) H63.out HBY.out (by simp <;> omega) ?_; intro v' w4 hown' hgrow hnil))
        have X3 := (X.alloc (.cells #[.int .i64 x, .int .i64 y] 140)).alloc (.cells #[.int .i64 k] 2)
        refine ⟨⟨k + 1, by omega, by go_num, ?_, ?_⟩, by simp [intOf]; omega⟩
        · rw [HV.out]
          simpa using hown'
        · exact X3.grown hgrow fun g hg => by have := (HO.out.lt g hg).1; omega
    · obtain rfl : k = s.pods.length := by omega
      go_wp2
      go_ret
      exact ⟨_, rfl, ownsRow_base HO.out (Nat.le_succ _), X.K⟩

end Go.Proofs.YtdphpjnecjofeaaGreatDoor
/- Ha -/
set_option linter.unusedVariables false
namespace Go.Proofs.YtdphpjnecjofeaaGreatDoor
open Go.RowKit

def mayFreeB (d : PlanD) (s : StD) (a : Int) : Bool := inB a 0 (d.n2 - 1) && freeB d s a.toNat
def mayGiveB (d : PlanD) (s : StD) (a : Int) : Bool := inB a 0 (d.n3 - 1) && giveB d s a.toNat

set_option maxRecDepth 100000 in
set_option maxHeartbeats 4000000 in
theorem implMayGive_any (pv sv : Value) (d : PlanD) (s : StD) (a : Int) (w : World) (hp : IsPlan w w.heap.size pv d) (hs : IsSt w w.heap.size sv s) :
    Calls Tryz.prog 217 #[pv, sv, .int .i64 a] w fun e w' => e = .returned (.bool (stOkB d s && mayGiveB d s a)) ∧ Below w.heap.size w w' := by
  have HP := Lib.hid hp
  have HS := Lib.hid hs
  obtain ⟨⟨P0, P1, P2, P3, k0, k1, k2, k3, rfl, s0, s1, s2, s3⟩, b0, b1, b2, b3⟩ := hp
  obtain ⟨⟨A0, A1, A2, A3, c0, c1, c2, c3, rfl, t0, t1, t2, t3⟩, f0, f1, f2, f3⟩ := hs
  have S0 := Lib.hid s0
  have S1 := Lib.hid s1
  have S2 := Lib.hid s2
  have S3 := Lib.hid s3
  have R0 := Lib.hid t0
  have R1 := Lib.hid t1
  have R2 := Lib.hid t2
  have R3 := Lib.hid t3
  unfold maxLen at b0 b1 b2 b3 f0 f1 f2 f3
  clear s0 s1 s2 s3 t0 t1 t2 t3
  have T0 := Two.start w (planC P0 P1 P2 P3 d.n0 k0 d.n1 k1 d.n2 k2 d.n3 k3 d.l d.p d.t) (stC A0 A1 A2 A3 s.pods.length c0 s.mnts.length c1 s.devs.length c2 s.lks.length c3 s.ph s.co s.ck s.bo s.ba s.lb s.gd s.pr) 47 40
  obtain ⟨ans, hans⟩ : ∃ ans, (stOkB d s && mayGiveB d s a) = ans := ⟨_, rfl⟩
  rw [hans]
  have HANS := Lib.hid hans
  clear hans
  go_enter Tryz.func217, Tryz.ntmps217
  go_wp2_with fail
  refine (implStateOk_any _ _ d s _ ((HP.out.below T0.A.K (Nat.le_refl _)).more T0.A.K.size) ((HS.out.below T0.A.K (Nat.le_refl _)).more T0.A.K.size)).mono ?_
  rintro e w1 ⟨rfl, hb⟩
  have T1 := T0.step hb
  have hC := T1.A.C
  have hD := T1.O.C
  clear hb T0
  cases hok : stOkB d s
  · have OKB := Lib.hid hok
    clear hok
    go_wp2
    all_goals (go_ret; exact ⟨ret_bool (by rw [← HANS.out, OKB.out]; rfl), T1.A.K⟩)
  · have OK := Lib.hid (stOkB_iff.1 hok)
    have OKB := Lib.hid hok
    clear hok
    go_wp2_with fail
    refine (isIndex_any _ _ _).mono ?_
    rintro e w2 ⟨rfl, rfl⟩
    cases hin : inB a 0 (d.n3 - 1)
    · have HIN := Lib.hid hin
      clear hin
      go_wp2
      all_goals (go_ret; exact ⟨ret_bool (by rw [← HANS.out, OKB.out]; simp [mayGiveB, HIN.out]), T1.A.K⟩)
    · have HIN := Lib.hid hin
      obtain ⟨i, rfl, hi⟩ := index_nat (a := a) (n := d.n3) (by rw [hin]; decide)
      clear hin
      have hld : i < s.devs.length := by rw [OK.out.nd]; exact hi
      obtain ⟨m, hm, hml, hmp⟩ := dev_mnt OK.out.plan hi
      have hlm : m < s.mnts.length := by rw [OK.out.nm]; exact hml
      obtain ⟨b, off, rfl, hb, q0⟩ := (S3.out.own T1.A).cell1 hi
      obtain ⟨b', off', rfl, hb', hc⟩ := (R2.out.below T1.A.K (Nat.le_refl _)).cell hld
      have p0 := (hc 0 (by decide)).trans (devCs_at s.devs (i := i * 1 + 0) (by omega))
      rw [Nat.add_zero, Nat.mul_one] at p0
      obtain ⟨b2_, off2, rfl, hb2, hc2⟩ := (R1.out.below T1.A.K (Nat.le_refl _)).cell hlm
      have r0 := (hc2 0 (by decide)).trans (mntCs_at s.mnts hlm).1
      rw [Nat.add_zero] at r0
      clear hc hc2
      rw [hm] at q0
      have GB : Hid (giveB d s i = (devA s.devs i && !(mntA s.mnts m).1)) := Lib.hid (by unfold giveB; rw [hmp]; rfl)
      have HANS2 : Hid (ans = giveB d s i) := Lib.hid (by rw [← HANS.out, OKB.out]; simp [mayGiveB, HIN.out])
      generalize giveB d s i = g at GB HANS2
      generalize devA s.devs i = x at p0 GB
      generalize (mntA s.mnts m).1 = y at r0 GB
      clear hm hmp
      cases x
      · go_wp2
        all_goals (go_ret; exact ⟨ret_bool (by rw [HANS2.out, GB.out]; rfl), (T1.A).K⟩)
      · go_wp2_with fail
        go_quiet (fail)
        go_wp2
        all_goals (go_ret; exact ⟨ret_bool (by rw [HANS2.out, GB.out]; simp), (T1.A.drewN _).K⟩)

set_option maxRecDepth 100000 in
set_option maxHeartbeats 4000000 in
theorem implChildHeld_any (pv sv : Value) (d : PlanD) (s : StD) (i : Nat) (w : World) (hp : IsPlan w w.heap.size pv d) (hs : IsSt w w.heap.size sv s) (hok : StOk d s) :
    Calls Tryz.prog 229 #[pv, sv, .int .i64 i] w fun e w' => e = .returned (.bool (!(List.range d.n2).all (kidB d s i))) ∧ Below w.heap.size w w' := by
  have HP := Lib.hid hp
  have HS := Lib.hid hs
  obtain ⟨⟨P0, P1, P2, P3, k0, k1, k2, k3, rfl, s0, s1, s2, s3⟩, b0, b1, b2, b3⟩ := hp
  obtain ⟨⟨A0, A1, A2, A3, c0, c1, c2, c3, rfl, t0, t1, t2, t3⟩, f0, f1, f2, f3⟩ := hs
  have S0 := Lib.hid s0
  have S1 := Lib.hid s1
  have S2 := Lib.hid s2
  have S3 := Lib.hid s3
  have R0 := Lib.hid t0
  have R1 := Lib.hid t1
  have R2 := Lib.hid t2
  have R3 := Lib.hid t3
  unfold maxLen at b0 b1 b2 b3 f0 f1 f2 f3
  clear s0 s1 s2 s3 t0 t1 t2 t3
  have T0 := Two.start w (planC P0 P1 P2 P3 d.n0 k0 d.n1 k1 d.n2 k2 d.n3 k3 d.l d.p d.t) (stC A0 A1 A2 A3 s.pods.length c0 s.mnts.length c1 s.devs.length c2 s.lks.length c3 s.ph s.co s.ck s.bo s.ba s.lb s.gd s.pr) 47 40
  have HLN := Lib.hid hok.nm
  obtain ⟨ans, hans⟩ : ∃ ans, (List.range d.n2).all (kidB d s i) = ans := ⟨_, rfl⟩
  rw [hans]
  have HANS := Lib.hid hans
  clear hans hok
  have hC := T0.A.C
  have hD := T0.O.C
  go_enter Tryz.func229, Tryz.ntmps229
  go_wp2
  go_step3
  go_wp2
  go_step3
  go_wp2_with fail
  go_loopw [7, 13] (fun h j wr => h = .bool false ∧ ∃ k : Nat, k ≤ d.n2 ∧ j = .int .i64 k ∧ (∀ j, j < k → kidB d s i j = true) ∧ Two w wr (planC P0 P1 P2 P3 d.n0 k0 d.n1 k1 d.n2 k2 d.n3 k3 d.l d.p d.t) (stC A0 A1 A2 A3 s.pods.length c0 s.mnts.length c1 s.devs.length c2 s.lks.length c3 s.ph s.co s.ck s.bo s.ba s.lb s.gd s.pr)) (fun _ j _ => d.n2 - (intOf j).toNat)
  case atStart => exact ⟨rfl, 0, Nat.zero_le _, rfl, fun j hj => absurd hj (by omega), T0⟩
  case round =>
    clear hC hD T0
    obtain ⟨rfl, k, hk, rfl, hall, T⟩ := hrel
    have HALL := Lib.hid hall
    clear hall
    have hC := T.A.C
    have hD := T.O.C
    by_cases hlt : k < d.n2
    · have hlp : k < s.mnts.length := by rw [HLN.out]; exact hlt
      obtain ⟨b3_, off3, rfl, hb3, q0, q1⟩ := (S2.out.own T.A).cell2 hlt
      obtain ⟨b4_, off4, rfl, hb4, hc⟩ := (R1.out.below T.A.K (Nat.le_refl _)).cell hlp
      have r0 := (hc 0 (by decide)).trans (mntCs_at s.mnts (i := k) hlp).1
      rw [Nat.add_zero] at r0
      clear hc
      have KB : Hid (kidB d s i k = !(decide (d.x2 (k * 2 + 1) = i) && (mntA s.mnts k).1)) := Lib.hid rfl
      have HFALSE : Hid (kidB d s i k = false → ans = false) := Lib.hid fun h => by rw [← HANS.out, all_not hlt h]
      have HSTEP : Hid (kidB d s i k = true → ∀ j, j < k + 1 → kidB d s i j = true) := Lib.hid fun h => step_all HALL.out h
      have hz := T.A.z
      have hz' := T.O.z
      have hb4' : b4_ < wr.heap.size := Nat.lt_of_lt_of_le hb4 T.A.K.size
      generalize kidB d s i k = kb at KB HFALSE HSTEP
      generalize (mntA s.mnts k).1 = z at r0 KB
      generalize d.x2 (k * 2) = p at q0
      cases hv : (d.x2 (k * 2 + 1) != (i : Int))
      · cases z
        · have CF : Hid (kb = true) := Lib.hid (by rw [KB.out]; simp)
          clear KB HFALSE
          go_wp2
          refine ⟨⟨rfl, k + 1, by omega, by go_num, HSTEP.out CF.out, T.step ((Below.refl _ _).alloc (Nat.le_refl _) _)⟩, by simp [intOf]; omega⟩
        · have CF : Hid (kb = false) := Lib.hid (by rw [KB.out]; simp at hv; simp [hv])
          clear KB HSTEP
          go_wp2
          all_goals (first | rw [Exit.noGoto_ret] | skip); all_goals (go_ret; exact ⟨ret_bool (by rw [HFALSE.out CF.out]; rfl), (T.step ((Below.refl _ _).alloc (Nat.le_refl _) _)).A.K⟩)
      · have CF : Hid (kb = true) := Lib.hid (by rw [KB.out]; simp at hv; simp [hv])
        clear KB HFALSE
        go_wp2
        refine ⟨⟨rfl, k + 1, by omega, by go_num, HSTEP.out CF.out, T.step ((Below.refl _ _).alloc (Nat.le_refl _) _)⟩, by simp [intOf]; omega⟩
    · obtain rfl : k = d.n2 := by omega
      go_wp2
      all_goals (first | rw [Exit.noGoto_ret] | skip); all_goals (go_ret; exact ⟨ret_bool (by rw [← HANS.out, all_yes HALL.out]; rfl), T.A.K⟩)

set_option maxRecDepth 100000 in
set_option maxHeartbeats 4000000 in
theorem implMayFree_any (pv sv : Value) (d : PlanD) (s : StD) (a : Int) (w : World) (hp : IsPlan w w.heap.size pv d) (hs : IsSt w w.heap.size sv s) :
    Calls Tryz.prog 216 #[pv, sv, .int .i64 a] w fun e w' => e = .returned (.bool (stOkB d s && mayFreeB d s a)) ∧ Below w.heap.size w w' := by
  have HP := Lib.hid hp
  have HS := Lib.hid hs
  obtain ⟨⟨P0, P1, P2, P3, k0, k1, k2, k3, rfl, s0, s1, s2, s3⟩, b0, b1, b2, b3⟩ := hp
  obtain ⟨⟨A0, A1, A2, A3, c0, c1, c2, c3, rfl, t0, t1, t2, t3⟩, f0, f1, f2, f3⟩ := hs
  have S0 := Lib.hid s0
  have S1 := Lib.hid s1
  have S2 := Lib.hid s2
  have S3 := Lib.hid s3
  have R0 := Lib.hid t0
  have R1 := Lib.hid t1
  have R2 := Lib.hid t2
  have R3 := Lib.hid t3
  unfold maxLen at b0 b1 b2 b3 f0 f1 f2 f3
  clear s0 s1 s2 s3 t0 t1 t2 t3
  have T0 := Two.start w (planC P0 P1 P2 P3 d.n0 k0 d.n1 k1 d.n2 k2 d.n3 k3 d.l d.p d.t) (stC A0 A1 A2 A3 s.pods.length c0 s.mnts.length c1 s.devs.length c2 s.lks.length c3 s.ph s.co s.ck s.bo s.ba s.lb s.gd s.pr) 47 40
  obtain ⟨ans, hans⟩ : ∃ ans, (stOkB d s && mayFreeB d s a) = ans := ⟨_, rfl⟩
  rw [hans]
  have HANS := Lib.hid hans
  clear hans
  go_enter Tryz.func216, Tryz.ntmps216
  go_wp2_with fail
  refine (implStateOk_any _ _ d s _ ((HP.out.below T0.A.K (Nat.le_refl _)).more T0.A.K.size) ((HS.out.below T0.A.K (Nat.le_refl _)).more T0.A.K.size)).mono ?_
  rintro e w1 ⟨rfl, hb⟩
  have T1 := T0.step hb
  have hC := T1.A.C
  have hD := T1.O.C
  clear hb T0
  cases hok : stOkB d s
  · have OKB := Lib.hid hok
    clear hok
    go_wp2
    all_goals (go_ret; exact ⟨ret_bool (by rw [← HANS.out, OKB.out]; rfl), T1.A.K⟩)
  · have OK := Lib.hid (stOkB_iff.1 hok)
    have OKB := Lib.hid hok
    clear hok
    go_wp2_with fail
    refine (isIndex_any _ _ _).mono ?_
    rintro e w2 ⟨rfl, rfl⟩
    cases hin : inB a 0 (d.n2 - 1)
    · have HIN := Lib.hid hin
      clear hin
      go_wp2
      all_goals (go_ret; exact ⟨ret_bool (by rw [← HANS.out, OKB.out]; simp [mayFreeB, HIN.out]), T1.A.K⟩)
    · have HIN := Lib.hid hin
      obtain ⟨i, rfl, hi⟩ := index_nat (a := a) (n := d.n2) (by rw [hin]; decide)
      clear hin
      have HLN := Lib.hid OK.out.nm
      obtain ⟨m, hm, hml, hmp⟩ := mount_pod OK.out.plan hi
      have hlm : m < s.pods.length := by rw [OK.out.np]; exact hml
      obtain ⟨b, off, rfl, hb, q0, -⟩ := (S2.out.own T1.A).cell2 hi
      obtain ⟨b', off', rfl, hb', hc⟩ := (R1.out.below T1.A.K (Nat.le_refl _)).cell (i := i) (by rw [HLN.out]; exact hi)
      have p0 := (hc 0 (by decide)).trans (mntCs_at s.mnts (i := i) (by rw [HLN.out]; exact hi)).1
      obtain ⟨b2_, off2, rfl, hb2, hc2⟩ := (R0.out.below T1.A.K (Nat.le_refl _)).cell hlm
      have r0 := (hc2 0 (by decide)).trans (podCs_at s.pods hlm).1
      have r1 := (hc2 1 (by decide)).trans (podCs_at s.pods hlm).2
      rw [Nat.add_zero] at r0 p0
      clear hc hc2
      rw [hm] at q0
      have GB : Hid (ans = ((mntA s.mnts i).1 && !aliveB (podA s.pods m).1 && (List.range d.n2).all (kidB d s i))) := Lib.hid (by
        rw [← HANS.out, OKB.out, mayFreeB, HIN.out, Int.toNat_natCast]; unfold freeB; rw [hmp]; rfl)
      have hlti : i < s.mnts.length := by rw [HLN.out]; exact hi
      generalize hX : (mntA s.mnts i).1 = x at p0 GB
      generalize podA s.pods m = y at r0 r1 GB
      obtain ⟨y, z⟩ := y
      dsimp only at r0 r1 GB
      clear hX hm hmp HANS
      cases x
      · go_wp2
        all_goals (go_ret; exact ⟨ret_bool (by rw [GB.out]; rfl), T1.A.K⟩)
      · go_upto_region 3 with fail
        have hz := T1.A.z
        have hz' := T1.O.z
        have hzb : b < w1.heap.size := hb
        have hzb2 : b2_ < w1.heap.size := Nat.lt_of_lt_of_le hb2 T1.A.K.size
        go_cut [7] (fun s7 wx => ∃ g, s7 = .pointer (some ⟨g, 0, none⟩) ∧ wx.heap[g]? = some (.cells #[.int .i64 y, .int .i64 z] 140) ∧ Below w1.heap.size w1 wx)
        case first =>
          go_region
          all_goals (go_wp2_with fail; go_meet)
          all_goals
            apply Exists.intro
            refine ⟨rfl, ?h3, ?hb⟩
            case h3 => repeat (first | exact alloc_here (by simp) | refine (alloc_there (by simp <;> omega)).trans ?_)
            case hb => repeat (first | exact Below.refl _ _ | refine Below.drew ?_ | refine Below.alloc ?_ (by simp <;> omega) _)
        case rest =>
          obtain ⟨g, rfl, hg, Kx⟩ := hcut
          have T2 := T1.step Kx
          have XB : ∀ o, wc.cell? ⟨g, o, none⟩ = #[Value.int .i64 y, .int .i64 z][o]? := fun o => cell_of_row _ _ o _ _ _ hg
          clear T1 hC hD hz hz' q0 p0 r0 r1
          have hC := T2.A.C
          have hD := T2.O.C
          go_wp2_with fail
          refine (implAlive_any _ _).mono ?_
          rintro e w5 ⟨rfl, rfl⟩
          cases ha : aliveB y
          · have HAL := Lib.hid ha
            clear ha
            go_wp2_with fail
            refine (implChildHeld_any _ _ d s i _ ((HP.out.below T2.A.K (Nat.le_refl _)).more T2.A.K.size) ((HS.out.below T2.A.K (Nat.le_refl _)).more T2.A.K.size) OK.out).mono ?_
            rintro e w6 ⟨rfl, hb6⟩
            have T3 := T2.step hb6
            clear hb6 T2 hC hD
            generalize (List.range d.n2).all (kidB d s i) = u at GB ⊢
            go_wp2
            all_goals (go_ret; exact ⟨ret_bool (by rw [GB.out, HAL.out]; simp), T3.A.K⟩)
          · have HAL := Lib.hid ha
            clear ha
            go_wp2
            all_goals (go_ret; exact ⟨ret_bool (by rw [GB.out, HAL.out]; rfl), T2.A.K⟩)

end Go.Proofs.YtdphpjnecjofeaaGreatDoor
/- Ib -/
set_option linter.unusedVariables false
namespace Go.Proofs.YtdphpjnecjofeaaGreatDoor
open Go.RowKit

theorem toW {w0 W W' : World} (K : Below w0.heap.size w0 W) (hb : Below W.heap.size W W') : Below w0.heap.size w0 W' := K.trans (hb.mono K.size)
theorem planAt {w0 W : World} {v : Value} {d : PlanD} (h : IsPlan w0 w0.heap.size v d) (K : Below w0.heap.size w0 W) : IsPlan W W.heap.size v d := (h.below K (Nat.le_refl _)).more K.size
theorem stAt {w0 W : World} {v : Value} {s : StD} (h : IsSt w0 w0.heap.size v s) (K : Below w0.heap.size w0 W) : IsSt W W.heap.size v s := (h.below K (Nat.le_refl _)).more K.size
/-- Is a lock waited for? -/
def waitsB (s : StD) : Bool := decide (0 < s.lks.length) && decide (s.ck + 1 < s.lb)
theorem waitsB_iff {s : StD} : waitsB s = true ↔ s.lks ≠ [] ∧ s.ck + 1 < s.lb := by
  unfold waitsB
  rw [Bool.and_eq_true, decide_eq_true_eq, decide_eq_true_eq, List.length_pos_iff]

set_option maxRecDepth 100000 in
set_option maxHeartbeats 8000000 in
theorem waits_any (w0 W : World) (g : Nat) (d : PlanD) (s : StD) (l : List RecD) (h : Tk w0 W g d s l) :
    Calls Tryz.prog 186 #[.pointer (some ⟨g, 0, none⟩)] W fun e w' => e = .returned (.bool (waitsB s)) ∧ Below W.heap.size W w' := by
  obtain ⟨K, pv, sv, v, hp, hs, ⟨pc, sc, ep, es, X⟩, O⟩ := h
  have HP := Lib.hid hp
  have HS := Lib.hid hs
  obtain ⟨⟨P0, P1, P2, P3, k0, k1, k2, k3, rfl, s0, s1, s2, s3⟩, b0, b1, b2, b3⟩ := hp
  obtain ⟨⟨A0, A1, A2, A3, c0, c1, c2, c3, rfl, t0, t1, t2, t3⟩, f0, f1, f2, f3⟩ := hs
  injection ep with ep
  injection es with es
  subst ep es
  unfold maxLen at b0 b1 b2 b3 f0 f1 f2 f3
  replace X : BoxTk W w0.heap.size g (tkC P0 P1 P2 P3 d.n0 k0 d.n1 k1 d.n2 k2 d.n3 k3 d.l d.p d.t A0 A1 A2 A3 s.pods.length c0 s.mnts.length c1 s.devs.length c2 s.lks.length c3 s.ph s.co s.ck s.bo s.ba s.lb s.gd s.pr (s.ck + 1) v).toList := X
  clear s0 s1 s2 s3 t0 t1 t2 t3
  have hC := X.C
  obtain ⟨ans, hans⟩ : ∃ ans, waitsB s = ans := ⟨_, rfl⟩
  rw [hans]
  have HANS := Lib.hid hans
  have HU : Hid (waitsB s = (decide (0 < s.lks.length) && decide (s.ck + 1 < s.lb))) := Lib.hid rfl
  clear hans
  by_cases hl : 0 < s.lks.length
  · have hl2 : (0 : Int) < s.lks.length := by omega
    by_cases hb : s.ck + 1 < s.lb
    · have HA : Hid (ans = true) := Lib.hid (by rw [← HANS.out, HU.out]; simp [hl, hb])
      go_enter Tryz.func186, Tryz.ntmps186
      go_wp2_with fail
      go_quiet (fail)
      go_wp2
      all_goals (go_ret; exact ⟨ret_bool HA.out.symm, below_drewN (Below.refl _ _) _⟩)
    · have HA : Hid (ans = false) := Lib.hid (by rw [← HANS.out, HU.out]; simp [hb])
      go_enter Tryz.func186, Tryz.ntmps186
      go_wp2_with fail
      go_quiet (fail)
      go_wp2
      all_goals (go_ret; exact ⟨ret_bool (by rw [HA.out]; first | rfl | simp [hb]), below_drewN (Below.refl _ _) _⟩)
  · have hl2 : ¬ (0 : Int) < s.lks.length := by omega
    have HA : Hid (ans = false) := Lib.hid (by rw [← HANS.out, HU.out]; simp [hl])
    go_enter Tryz.func186, Tryz.ntmps186
    go_wp2_with fail
    go_quiet (fail)
    go_wp2
    all_goals (go_ret; exact ⟨ret_bool HA.out.symm, below_drewN (Below.refl _ _) _⟩)

theorem any_take_no {L : List Int} {p : Int → Bool} {k : Nat} {x : Int} (hx : L[k]? = some x) (h : (L.take k).any p = false) (hp : p x = false) : (L.take (k + 1)).any p = false := by
  rw [take_at hx, List.any_append, h]
  simp [hp]
theorem any_take_yes {L : List Int} {p : Int → Bool} {k : Nat} {x : Int} (hx : L[k]? = some x) (hp : p x = true) : L.any p = true := List.any_eq_true.2 ⟨x, List.mem_of_getElem? hx, hp⟩
set_option maxRecDepth 100000 in
set_option maxHeartbeats 8000000 in
theorem anyAlive_any (w0 W : World) (g : Nat) (d : PlanD) (s : StD) (l : List RecD) (h : Tk w0 W g d s l) (hok : StOk d s) (B cL : Nat) (AL : Option Addr) (L : List Int)
    (hL : W.ownsRow B 2 1 (.slice AL L.length cL) L.length (L.map (Value.int .i64))) (hin : ∀ k, k < L.length → ∃ i : Nat, L[k]? = some (i : Int) ∧ i < d.n0) (hlen : L.length ≤ 12) :
    Calls Tryz.prog 187 #[.pointer (some ⟨g, 0, none⟩), .slice AL L.length cL] W fun e w' => e = .returned (.bool (L.any fun i => aliveB (podAt s i.toNat).1)) ∧ Below W.heap.size W w' := by
  obtain ⟨K, pv, sv, v, hp, hs, ⟨pc, sc, ep, es, X⟩, O⟩ := h
  have HP := Lib.hid hp
  have HS := Lib.hid hs
  obtain ⟨⟨P0, P1, P2, P3, k0, k1, k2, k3, rfl, s0, s1, s2, s3⟩, b0, b1, b2, b3⟩ := hp
  obtain ⟨⟨A0, A1, A2, A3, c0, c1, c2, c3, rfl, t0, t1, t2, t3⟩, f0, f1, f2, f3⟩ := hs
  injection ep with ep
  injection es with es
  subst ep es
  unfold maxLen at b0 b1 b2 b3 f0 f1 f2 f3
  replace X : BoxTk W w0.heap.size g (tkC P0 P1 P2 P3 d.n0 k0 d.n1 k1 d.n2 k2 d.n3 k3 d.l d.p d.t A0 A1 A2 A3 s.pods.length c0 s.mnts.length c1 s.devs.length c2 s.lks.length c3 s.ph s.co s.ck s.bo s.ba s.lb s.gd s.pr (s.ck + 1) v).toList := X
  have S0 := Lib.hid s0
  have S1 := Lib.hid s1
  have S2 := Lib.hid s2
  have S3 := Lib.hid s3
  have R0 := Lib.hid t0
  have R1 := Lib.hid t1
  have R2 := Lib.hid t2
  have R3 := Lib.hid t3
  clear s0 s1 s2 s3 t0 t1 t2 t3
  have hC := X.C
  have HL := Lib.hid hL
  have HIN := Lib.hid hin
  have HNP := Lib.hid hok.np
  have HK := Lib.hid K
  obtain ⟨ans, hans⟩ : ∃ ans, (L.any fun i => aliveB (podAt s i.toNat).1) = ans := ⟨_, rfl⟩
  rw [hans]
  have HANS := Lib.hid hans
  clear hans hL hin hok O X
  go_enter Tryz.func187, Tryz.ntmps187
  go_wp2_with fail
  go_loopw [9] (fun j wr => ∃ k : Nat, k ≤ L.length ∧ j = .int .i64 k ∧ W = wr ∧ Hid ((L.take k).any (fun i => aliveB (podAt s i.toNat).1) = false)) (fun j _ => L.length - (intOf j).toNat)
  case atStart => exact ⟨0, Nat.zero_le _, rfl, rfl, Lib.hid (by simp)⟩
  case round =>
    obtain ⟨k, hk, rfl, rfl, HNO⟩ := hrel
    by_cases hlt : k < L.length
    · obtain ⟨i, hLi, hi⟩ := HIN.out k hlt
      have hlp : i < s.pods.length := by rw [HNP.out]; exact hi
      obtain ⟨bl, ol, rfl, hbl, q0⟩ := list_at HL.out hLi
      obtain ⟨b', off', rfl, hb', hc⟩ := (R0.out.below HK.out (Nat.le_refl _)).cell hlp
      have p0 := (hc 0 (by decide)).trans (podCs_at s.pods (i := i) hlp).1
      rw [Nat.add_zero] at p0
      clear hc
      have HY : Hid (aliveB (podA s.pods i).1 = true → ans = true) := Lib.hid fun h => by rw [← HANS.out]; exact any_take_yes hLi (by simpa [podAt, podA] using h)
      have HN : Hid (aliveB (podA s.pods i).1 = false → (L.take (k + 1)).any (fun i => aliveB (podAt s i.toNat).1) = false) := Lib.hid fun h => any_take_no hLi HNO.out (by simpa [podAt, podA] using h)
      generalize (podA s.pods i).1 = x at p0 HY HN
      clear hLi
      go_wp2_with fail
      refine (implAlive_any _ _).mono ?_
      rintro e w5 ⟨rfl, rfl⟩
      cases ha : aliveB x
      · have HA := Lib.hid (HN.out ha)
        clear ha
        go_wp2
        exact ⟨⟨k + 1, by omega, by go_num, by trivial, HA⟩, by simp [intOf]; omega⟩
      · have HA := Lib.hid (HY.out ha)
        clear ha
        go_wp2
        all_goals (go_ret; exact ⟨ret_bool HA.out.symm, Below.refl _ _⟩)
    · obtain rfl : k = L.length := by omega
      have HA : Hid (ans = false) := Lib.hid (by rw [← HANS.out]; have := HNO.out; rwa [List.take_length] at this)
      go_wp2
      all_goals (go_ret; exact ⟨ret_bool HA.out.symm, Below.refl _ _⟩)

set_option maxRecDepth 100000 in
set_option maxHeartbeats 8000000 in
theorem bandBehind_any (w0 W : World) (g : Nat) (d : PlanD) (s : StD) (l : List RecD) (h : Tk w0 W g d s l) :
    Calls Tryz.prog 188 #[.pointer (some ⟨g, 0, none⟩)] W fun e w' => e = .returned (.int .i64 (nextB d s.ba)) ∧ Below W.heap.size W w' := by
  obtain ⟨K, pv, sv, v, hp, hs, ⟨pc, sc, ep, es, X⟩, O⟩ := h
  have HP := Lib.hid hp
  have HS := Lib.hid hs
  obtain ⟨⟨P0, P1, P2, P3, k0, k1, k2, k3, rfl, s0, s1, s2, s3⟩, b0, b1, b2, b3⟩ := hp
  obtain ⟨⟨A0, A1, A2, A3, c0, c1, c2, c3, rfl, t0, t1, t2, t3⟩, f0, f1, f2, f3⟩ := hs
  injection ep with ep
  injection es with es
  subst ep es
  unfold maxLen at b0 b1 b2 b3 f0 f1 f2 f3
  replace X : BoxTk W w0.heap.size g (tkC P0 P1 P2 P3 d.n0 k0 d.n1 k1 d.n2 k2 d.n3 k3 d.l d.p d.t A0 A1 A2 A3 s.pods.length c0 s.mnts.length c1 s.devs.length c2 s.lks.length c3 s.ph s.co s.ck s.bo s.ba s.lb s.gd s.pr (s.ck + 1) v).toList := X
  clear s0 s1 s2 s3 t0 t1 t2 t3
  have HK := Lib.hid K
  have HX := Lib.hid X
  have HB : Hid (nextB d s.ba = if nextL d s.ba < 0 then 6 else nextL d s.ba) := Lib.hid rfl
  have Q0 : (∀ o, W.cell? ⟨g, o, none⟩ = (tkC P0 P1 P2 P3 d.n0 k0 d.n1 k1 d.n2 k2 d.n3 k3 d.l d.p d.t A0 A1 A2 A3 s.pods.length c0 s.mnts.length c1 s.devs.length c2 s.lks.length c3 s.ph s.co s.ck s.bo s.ba s.lb s.gd s.pr (s.ck + 1) v)[o]?) ∧ Below W.heap.size W W := ⟨X.C, Below.refl _ _⟩
  clear K X O
  go_enter Tryz.func188, Tryz.ntmps188
  go_wp2_with fail
  go_region_held3 (fun w' => (∀ o, w'.cell? ⟨g, o, none⟩ = (tkC P0 P1 P2 P3 d.n0 k0 d.n1 k1 d.n2 k2 d.n3 k3 d.l d.p d.t A0 A1 A2 A3 s.pods.length c0 s.mnts.length c1 s.devs.length c2 s.lks.length c3 s.ph s.co s.ck s.bo s.ba s.lb s.gd s.pr (s.ck + 1) v)[o]?) ∧ Below W.heap.size W w')
    (first | exact Q2 | exact Q0 | exact ⟨Q0.1, Q0.2.drew⟩)
    (first
      | (go_at_call 211
         have K0 : Below W.heap.size W W.drew := (Below.refl _ _).drew
         refine (implNext_any _ d _ _ (planAt HP.out (toW HK.out K0))).mono ?_
         rintro e w5 ⟨rfl, hb⟩
         have K1 : Below W.heap.size W w5 := K0.trans hb
         have Q2 := And.intro (HX.out.go K1).C K1))
  rename_i hHeld
  clear hHeld Q0 Q2 K0 hb
  generalize nextL d s.ba = nb at HB ⊢
  by_cases hnb : nb < 0
  · have HN := Lib.hid hnb
    have hnb2 : ¬ 0 ≤ nb := by omega
    go_wp2
    all_goals (go_ret; exact ⟨ret_int (by rw [HB.out, if_pos HN.out]), K1⟩)
  · have HN := Lib.hid hnb
    have hnb2 : 0 ≤ nb := by omega
    go_wp2
    all_goals (go_ret; exact ⟨ret_int (by rw [HB.out, if_neg (by have := HN.out; omega)]), K1⟩)

theorem heldLit_any (b : Bool) (n : Int) (w : World) : Calls Tryz.prog 214 #[.agg #[.bool b, .int .i64 n]] w fun e w' => e = .returned (.bool b) ∧ Below w.heap.size w w' := by
  go_enter Tryz.func214, Tryz.ntmps214
  go_wp2
  all_goals (go_ret; exact ⟨rfl, (Below.refl _ _).alloc (Nat.le_refl _) _⟩)
set_option maxRecDepth 100000 in
set_option maxHeartbeats 8000000 in
theorem indexHeld_any (M : List (Bool × Int)) (A : Option Addr) (c : Nat) (w : World) (h : SlV w w.heap.size 2 A M.length (mntCs M)) (hl : M.length ≤ maxLen) :
    Calls Tryz.prog 227 #[.slice A M.length c, .func (.func 214) #[] #[]] w fun e w' =>
      (∃ k : Nat, e = .returned (.int .i64 k) ∧ k ≤ 9223372036854775807 ∧ M.any (fun q => q.1) = true ∨ e = .returned (.int .i64 (-1)) ∧ M.any (fun q => q.1) = false) ∧ Below w.heap.size w w' := by
  unfold maxLen at hl
  have H := Lib.hid h
  clear h
  obtain ⟨ans, hans⟩ : ∃ ans, M.any (fun q => q.1) = ans := ⟨_, rfl⟩
  rw [hans]
  have HANS := Lib.hid hans
  clear hans
  go_enter Tryz.func227, Tryz.ntmps227
  go_wp2_with fail
  go_loopw [8] (fun j wr => ∃ k : Nat, k ≤ M.length ∧ j = .int .i64 k ∧ Hid (anyUp M (fun q => q.1) (false, 0) k) ∧ Below w.heap.size w wr) (fun j _ => M.length - (intOf j).toNat)
  case atStart => exact ⟨0, Nat.zero_le _, rfl, Lib.hid fun j hj => absurd hj (by omega), Below.refl _ _⟩
  case round =>
    obtain ⟨k, hk, rfl, HALL, K⟩ := hrel
    by_cases hlt : k < M.length
    · obtain ⟨b', off', rfl, hb', hc⟩ := (H.out.below K (Nat.le_refl _)).cell hlt
      have p0 := (hc 0 (by decide)).trans (mntCs_at M (i := k) hlt).1
      have p1 := (hc 1 (by decide)).trans (mntCs_at M (i := k) hlt).2
      rw [Nat.add_zero] at p0
      clear hc
      have HY : Hid ((mntA M k).1 = true → ans = true) := Lib.hid fun h => by rw [← HANS.out, any_some hlt h]
      have HN : Hid ((mntA M k).1 = false → anyUp M (fun q => q.1) (false, 0) (k + 1)) := Lib.hid fun h => anyUp_next HALL.out h
      generalize mntA M k = q at p0 p1 HY HN
      obtain ⟨x, y⟩ := q
      dsimp only at p0 p1 HY HN
      go_wp2_with fail
      refine (heldLit_any _ _ _).mono ?_
      rintro e w5 ⟨rfl, hb5⟩
      have K5 := K.trans (hb5.mono K.size)
      cases x
      · have HA := Lib.hid (HN.out rfl)
        go_wp2
        exact ⟨⟨k + 1, by omega, by go_num, HA, K5⟩, by simp [intOf]; omega⟩
      · have HA := Lib.hid (HY.out rfl)
        go_wp2
        all_goals (go_ret; exact ⟨⟨k, .inl ⟨rfl, by omega, HA.out⟩⟩, K5⟩)
    · obtain rfl : k = M.length := by omega
      have HA : Hid (ans = false) := Lib.hid (by rw [← HANS.out, any_none HALL.out])
      go_wp2
      all_goals (go_ret; exact ⟨⟨0, .inr ⟨rfl, HA.out⟩⟩, K⟩)
theorem containsHeld_any (M : List (Bool × Int)) (A : Option Addr) (c : Nat) (w : World) (h : SlV w w.heap.size 2 A M.length (mntCs M)) (hl : M.length ≤ maxLen) :
    Calls Tryz.prog 213 #[.slice A M.length c, .func (.func 214) #[] #[]] w fun e w' => e = .returned (.bool (M.any fun q => q.1)) ∧ Below w.heap.size w w' := by
  have H := Lib.hid h
  clear h
  obtain ⟨ans, hans⟩ : ∃ ans, M.any (fun q => q.1) = ans := ⟨_, rfl⟩
  rw [hans]
  have HANS := Lib.hid hans
  clear hans
  go_enter Tryz.func213, Tryz.ntmps213
  go_wp2_with fail
  refine (indexHeld_any M A c w H.out hl).mono ?_
  rw [HANS.out]
  rintro e w1 ⟨⟨k, ⟨rfl, hk, hc⟩ | ⟨rfl, hc⟩⟩, K⟩
  · have HC := Lib.hid hc
    clear hc
    go_wp2
    all_goals (go_ret; exact ⟨by rw [HC.out]; rfl, K⟩)
  · have HC := Lib.hid hc
    clear hc
    go_wp2
    all_goals (go_ret; exact ⟨by rw [HC.out]; rfl, K⟩)
set_option maxRecDepth 100000 in
set_option maxHeartbeats 8000000 in
theorem indexTrue_any (D : List Bool) (A : Option Addr) (c : Nat) (w : World) (h : SlV w w.heap.size 1 A D.length (devCs D)) (hl : D.length ≤ maxLen) :
    Calls Tryz.prog 228 #[.slice A D.length c, .bool true] w fun e w' =>
      (∃ k : Nat, e = .returned (.int .i64 k) ∧ k ≤ 9223372036854775807 ∧ D.any (fun x => x) = true ∨ e = .returned (.int .i64 (-1)) ∧ D.any (fun x => x) = false) ∧ w = w' := by
  unfold maxLen at hl
  have H := Lib.hid h
  clear h
  obtain ⟨ans, hans⟩ : ∃ ans, D.any (fun x => x) = ans := ⟨_, rfl⟩
  rw [hans]
  have HANS := Lib.hid hans
  clear hans
  go_enter Tryz.func228, Tryz.ntmps228
  go_wp2_with fail
  go_loopw [8] (fun j wr => ∃ k : Nat, k ≤ D.length ∧ j = .int .i64 k ∧ Hid (anyUp D (fun x => x) false k) ∧ w = wr) (fun j _ => D.length - (intOf j).toNat)
  case atStart => exact ⟨0, Nat.zero_le _, rfl, Lib.hid fun j hj => absurd hj (by omega), rfl⟩
  case round =>
    obtain ⟨k, hk, rfl, HALL, rfl⟩ := hrel
    by_cases hlt : k < D.length
    · obtain ⟨b', off', rfl, hb', hc⟩ := H.out.cell hlt
      have p0 := (hc 0 (by decide)).trans (devCs_at D (i := k * 1 + 0) (by omega))
      rw [Nat.add_zero, Nat.mul_one] at p0
      clear hc
      have HY : Hid (devA D k = true → ans = true) := Lib.hid fun h => by rw [← HANS.out, any_some (l := D) (p := fun x => x) (z := false) hlt h]
      have HN : Hid (devA D k = false → anyUp D (fun x => x) false (k + 1)) := Lib.hid fun h => anyUp_next HALL.out h
      generalize devA D k = x at p0 HY HN
      cases x
      · have HA := Lib.hid (HN.out rfl)
        go_wp2
        exact ⟨⟨k + 1, by omega, by go_num, HA, by trivial⟩, by simp [intOf]; omega⟩
      · have HA := Lib.hid (HY.out rfl)
        go_wp2
        all_goals (go_ret; exact ⟨⟨k, .inl ⟨rfl, by omega, HA.out⟩⟩, rfl⟩)
    · obtain rfl : k = D.length := by omega
      have HA : Hid (ans = false) := Lib.hid (by rw [← HANS.out, any_none HALL.out])
      go_wp2
      all_goals (go_ret; exact ⟨⟨0, .inr ⟨rfl, HA.out⟩⟩, rfl⟩)
theorem containsTrue_any (D : List Bool) (A : Option Addr) (c : Nat) (w : World) (h : SlV w w.heap.size 1 A D.length (devCs D)) (hl : D.length ≤ maxLen) :
    Calls Tryz.prog 215 #[.slice A D.length c, .bool true] w fun e w' => e = .returned (.bool (D.any fun x => x)) ∧ w = w' := by
  have H := Lib.hid h
  clear h
  obtain ⟨ans, hans⟩ : ∃ ans, D.any (fun x => x) = ans := ⟨_, rfl⟩
  rw [hans]
  have HANS := Lib.hid hans
  clear hans
  go_enter Tryz.func215, Tryz.ntmps215
  go_wp2_with fail
  refine (indexTrue_any D A c w H.out hl).mono ?_
  rw [HANS.out]
  rintro e w1 ⟨⟨k, ⟨rfl, hk, hc⟩ | ⟨rfl, hc⟩⟩, rfl⟩
  · have HC := Lib.hid hc
    clear hc
    go_wp2
    all_goals (go_ret; exact ⟨by rw [HC.out]; rfl, rfl⟩)
  · have HC := Lib.hid hc
    clear hc
    go_wp2
    all_goals (go_ret; exact ⟨by rw [HC.out]; rfl, rfl⟩)
set_option maxRecDepth 100000 in
set_option maxHeartbeats 8000000 in
theorem implHeld_any (sv : Value) (s : StD) (w : World) (hs : IsSt w w.heap.size sv s) :
    Calls Tryz.prog 190 #[sv] w fun e w' => e = .returned (.bool (heldB s)) ∧ Below w.heap.size w w' := by
  obtain ⟨⟨A0, A1, A2, A3, c0, c1, c2, c3, rfl, -, t1, t2, -⟩, -, f1, f2, -⟩ := hs
  have R1 := Lib.hid t1
  have R2 := Lib.hid t2
  clear t1 t2
  have X0 := Own.box w (stC A0 A1 A2 A3 s.pods.length c0 s.mnts.length c1 s.devs.length c2 s.lks.length c3 s.ph s.co s.ck s.bo s.ba s.lb s.gd s.pr) 40
  have hC := X0.C
  have HX := Lib.hid X0
  have HB : Hid (heldB s = (s.mnts.any (fun q => q.1) || s.devs.any (fun x => x))) := Lib.hid rfl
  clear X0
  go_enter Tryz.func190, Tryz.ntmps190
  go_wp2_with fail
  refine (containsHeld_any s.mnts _ _ _ ((R1.out.below HX.out.K (Nat.le_refl _)).more HX.out.K.size) f1).mono ?_
  rintro e w1 ⟨rfl, hb⟩
  have X1 := HX.out.step hb
  clear hC hb
  have hC := X1.C
  cases hx : s.mnts.any (fun q => q.1)
  · have HX := Lib.hid hx
    clear hx
    go_wp2_with fail
    refine (containsTrue_any s.devs _ _ _ ((R2.out.below X1.K (Nat.le_refl _)).more X1.K.size) f2).mono ?_
    rintro e w2 ⟨rfl, rfl⟩
    generalize s.devs.any (fun x => x) = y at HB ⊢
    go_wp2
    all_goals (go_ret; exact ⟨ret_bool (by rw [HB.out, HX.out]; rfl), X1.K⟩)
  · have HX := Lib.hid hx
    clear hx
    go_wp2
    all_goals (go_ret; exact ⟨ret_bool (by rw [HB.out, HX.out]; rfl), X1.K⟩)
end Go.Proofs.YtdphpjnecjofeaaGreatDoor
/- Ic -/
set_option linter.unusedVariables false
namespace Go.Proofs.YtdphpjnecjofeaaGreatDoor
open Go.RowKit

theorem implPodStep_any (gr ba grace hook st since clock : Int) (w : World) (h0 : 0 ≤ since ∧ since ≤ 1000000) (h1 : 0 ≤ clock ∧ clock ≤ 1000001) :
    Calls Tryz.prog 212 #[.agg #[.int .i64 gr, .int .i64 ba, .int .i64 grace, .int .i64 hook], .agg #[.int .i64 st, .int .i64 since], .int .i64 clock] w fun e w' =>
      e = .returned (.int .i64 (podStep hook grace (st, since) clock)) ∧ Below w.heap.size w w' := by
  have e : podStep hook grace (st, since) clock = stepD hook grace st (wrap64 (clock - since)) := by
    rw [IntWalk.wrap64_in _ (by omega)]
    rfl
  rw [e]
  exact implStep_any _ _ _ _ _ _ _ w
theorem elem_dead {d : PlanD} {s : StD} {c i : Int} : elemG d s c i = if podStep (hookOf d i.toNat) (graceOf d i.toNat) (podAt s i.toNat) c = (podAt s i.toNat).1 then none else some ⟨2, i, podStep (hookOf d i.toNat) (graceOf d i.toNat) (podAt s i.toNat) c⟩ := by
  unfold elemG
  cases ha : aliveB (podAt s i.toNat).1
  · rw [if_pos (dead_step ha)]
    rfl
  · rfl

set_option maxRecDepth 100000 in
set_option maxHeartbeats 8000000 in
theorem stepPods_any (w0 W : World) (g : Nat) (d : PlanD) (s : StD) (l : List RecD) (h : Tk w0 W g d s l) (hok : StOk d s) (hl : l.length ≤ 1) (B cL : Nat) (AL : Option Addr) (L : List Int)
    (hL : W.ownsRow B 2 1 (.slice AL L.length cL) L.length (L.map (Value.int .i64))) (hin : ∀ k, k < L.length → ∃ i : Nat, L[k]? = some (i : Int) ∧ i < d.n0) (hlen : L.length ≤ 12) :
    Calls Tryz.prog 189 #[.pointer (some ⟨g, 0, none⟩), .slice AL L.length cL] W (TkP w0 W g d s (l ++ L.filterMap (elemG d s (s.ck + 1)))) := by
  have HT := Lib.hid h
  have HL := Lib.hid hL
  have HIN := Lib.hid hin
  have OK := Lib.hid hok
  have HLN := Lib.hid hl
  clear h hL hin hok hl
  go_enter Tryz.func189, Tryz.ntmps189
  go_wp2_with fail
  go_loopw [10] (fun j wr => ∃ k : Nat, k ≤ L.length ∧ j = .int .i64 k ∧ Hid (Tk w0 wr g d s (l ++ (L.take k).filterMap (elemG d s (s.ck + 1)))) ∧ Hid (KRow W wr)) (fun j _ => L.length - (intOf j).toNat)
  case atStart => exact ⟨0, Nat.zero_le _, rfl, Lib.hid (by simpa using HT.out), Lib.hid (KRow.refl W)⟩
  case round =>
    clear HT
    obtain ⟨k, hk, rfl, HT, HKR⟩ := hrel
    by_cases hlt : k < L.length
    · obtain ⟨i, hLi, hi⟩ := HIN.out k hlt
      have HLI := Lib.hid hLi
      have hlp : i < s.pods.length := by rw [OK.out.np]; exact hi
      obtain ⟨bl, ol, rfl, hbl, q0⟩ := list_at (HKR.out B _ 1 _ _ _ (by decide) (by decide) HL.out) hLi
      clear hLi
      obtain ⟨K, pv, sv, v, hp, hs, ⟨pc, sc, ep, es, X⟩, O⟩ := HT.out
      have HP := Lib.hid hp
      have HS := Lib.hid hs
      obtain ⟨⟨P0, P1, P2, P3, k0, k1, k2, k3, rfl, s0, s1, s2, s3⟩, b0, b1, b2, b3⟩ := hp
      obtain ⟨⟨A0, A1, A2, A3, c0, c1, c2, c3, rfl, t0, t1, t2, t3⟩, f0, f1, f2, f3⟩ := hs
      injection ep with ep
      injection es with es
      subst ep es
      unfold maxLen at b0 f0
      clear b1 b2 b3 f1 f2 f3 O
      replace X : BoxTk wr w0.heap.size g (tkC P0 P1 P2 P3 d.n0 k0 d.n1 k1 d.n2 k2 d.n3 k3 d.l d.p d.t A0 A1 A2 A3 s.pods.length c0 s.mnts.length c1 s.devs.length c2 s.lks.length c3 s.ph s.co s.ck s.bo s.ba s.lb s.gd s.pr (s.ck + 1) v).toList := X
      obtain ⟨b', off', rfl, hb', hc⟩ := (t0.below K (Nat.le_refl _)).cell hlp
      have p0 := (hc 0 (by decide)).trans (podCs_at s.pods (i := i) hlp).1
      have p1 := (hc 1 (by decide)).trans (podCs_at s.pods (i := i) hlp).2
      rw [Nat.add_zero] at p0
      clear hc
      obtain ⟨bp, op, rfl, hbp, g0, g1, g2, g3⟩ := ((s0.below K (Nat.le_refl _)).more K.size).cell4 hi
      clear s0 s1 s2 s3 t0 t1 t2 t3
      have hpo := (podAt_ok OK.out hi).2
      have hck : 0 ≤ s.ck + 1 ∧ s.ck + 1 ≤ 1000001 := by have := OK.out.ck; omega
      have HEL : Hid (elemG d s (s.ck + 1) (i : Int) = if podStep (d.x0 (i * 4 + 3)) (d.x0 (i * 4 + 2)) (podA s.pods i) (s.ck + 1) = (podA s.pods i).1 then none else some ⟨2, i, podStep (d.x0 (i * 4 + 3)) (d.x0 (i * 4 + 2)) (podA s.pods i) (s.ck + 1)⟩) := Lib.hid (by rw [elem_dead, Int.toNat_natCast]; rfl)
      have HF1 : Hid (l ++ (L.take (k + 1)).filterMap (elemG d s (s.ck + 1)) = (l ++ (L.take k).filterMap (elemG d s (s.ck + 1))) ++ (match elemG d s (s.ck + 1) (i : Int) with | some r => [r] | none => [])) := Lib.hid (by
        rw [take_at HLI.out, List.filterMap_append, List.append_assoc]
        cases he : elemG d s (s.ck + 1) (i : Int) <;> simp [he])
      have HLE : Hid ((l ++ (L.take k).filterMap (elemG d s (s.ck + 1))).length ≤ 100) := Lib.hid (by
        have := List.length_filterMap_le (elemG d s (s.ck + 1)) (L.take k)
        have h2 : (L.take k).length ≤ L.length := by rw [List.length_take]; omega
        have := HLN.out
        rw [List.length_append]
        omega)
      generalize elemG d s (s.ck + 1) (i : Int) = el at HEL HF1
      generalize (l ++ (L.take k).filterMap (elemG d s (s.ck + 1))) = lk at HF1 HLE HT
      rw [show podAt s i = podA s.pods i from rfl] at hpo
      generalize podA s.pods i = q at p0 p1 HEL hpo
      obtain ⟨x, y⟩ := q
      dsimp only at p0 p1 HEL hpo
      have hC := X.C
      go_wp2_with fail
      have K1 : Below wr.heap.size wr (wr.alloc (.cells #[.int .i64 x, .int .i64 y] 140)) := (Below.refl _ _).alloc (Nat.le_refl _) _
      have XB := two_row (heap_alloc_new wr (.cells #[.int .i64 x, .int .i64 y] 140))
      have hgz : wr.heap.size < (wr.alloc (.cells #[.int .i64 x, .int .i64 y] 140)).heap.size := by simp
      have HX1 := Lib.hid (X.go K1)
      replace g0 := (K1.cell (p := ⟨bp, op + i * 4, none⟩) hbp).trans g0
      replace g1 := (K1.cell (p := ⟨bp, op + i * 4 + 1, none⟩) hbp).trans g1
      replace g2 := (K1.cell (p := ⟨bp, op + i * 4 + 2, none⟩) hbp).trans g2
      replace g3 := (K1.cell (p := ⟨bp, op + i * 4 + 3, none⟩) hbp).trans g3
      replace hbp := Nat.lt_of_lt_of_le hbp K1.size
      clear hC q0 p0 p1 hb' hbl X
      generalize wr.alloc (.cells #[.int .i64 x, .int .i64 y] 140) = wc at K1 XB hgz HX1 g0 g1 g2 g3 hbp ⊢
      obtain ⟨gb, hgb⟩ : ∃ gb, wr.heap.size = gb := ⟨_, rfl⟩
      rw [hgb] at XB hgz ⊢
      have Q0 : (∀ o, wc.cell? ⟨g, o, none⟩ = (tkC (some ⟨bp, op, none⟩) P1 P2 P3 d.n0 k0 d.n1 k1 d.n2 k2 d.n3 k3 d.l d.p d.t (some ⟨b', off', none⟩) A1 A2 A3 s.pods.length c0 s.mnts.length c1 s.devs.length c2 s.lks.length c3 s.ph s.co s.ck s.bo s.ba s.lb s.gd s.pr (s.ck + 1) v)[o]?) ∧ (∀ o, wc.cell? ⟨gb, o, none⟩ = #[Value.int .i64 x, .int .i64 y][o]?) ∧ wc.cell? ⟨bp, op + i * 4, none⟩ = some (.int .i64 (d.x0 (i * 4))) ∧ wc.cell? ⟨bp, op + i * 4 + 1, none⟩ = some (.int .i64 (d.x0 (i * 4 + 1))) ∧ wc.cell? ⟨bp, op + i * 4 + 2, none⟩ = some (.int .i64 (d.x0 (i * 4 + 2))) ∧ wc.cell? ⟨bp, op + i * 4 + 3, none⟩ = some (.int .i64 (d.x0 (i * 4 + 3))) ∧ Below wc.heap.size wc wc := ⟨HX1.out.C, XB, g0, g1, g2, g3, Below.refl _ _⟩
      clear XB g0 g1 g2 g3
      go_region_held3 (fun w' => (∀ o, w'.cell? ⟨g, o, none⟩ = (tkC (some ⟨bp, op, none⟩) P1 P2 P3 d.n0 k0 d.n1 k1 d.n2 k2 d.n3 k3 d.l d.p d.t (some ⟨b', off', none⟩) A1 A2 A3 s.pods.length c0 s.mnts.length c1 s.devs.length c2 s.lks.length c3 s.ph s.co s.ck s.bo s.ba s.lb s.gd s.pr (s.ck + 1) v)[o]?) ∧ (∀ o, w'.cell? ⟨gb, o, none⟩ = #[Value.int .i64 x, .int .i64 y][o]?) ∧ w'.cell? ⟨bp, op + i * 4, none⟩ = some (.int .i64 (d.x0 (i * 4))) ∧ w'.cell? ⟨bp, op + i * 4 + 1, none⟩ = some (.int .i64 (d.x0 (i * 4 + 1))) ∧ w'.cell? ⟨bp, op + i * 4 + 2, none⟩ = some (.int .i64 (d.x0 (i * 4 + 2))) ∧ w'.cell? ⟨bp, op + i * 4 + 3, none⟩ = some (.int .i64 (d.x0 (i * 4 + 3))) ∧ Below wc.heap.size wc w')
        (first | exact Q2 | exact Q0 | exact ⟨Q0.1, Q0.2.1, Q0.2.2.1, Q0.2.2.2.1, Q0.2.2.2.2.1, Q0.2.2.2.2.2.1, Q0.2.2.2.2.2.2.drew⟩)
        (first
          | (go_at_call 212
             have K0 : Below wc.heap.size wc wc.drew := (Below.refl _ _).drew
             refine (implPodStep_any _ _ _ _ _ _ _ _ hpo hck).mono ?_
             rintro e w6 ⟨rfl, hb6⟩
             have K2 : Below wc.heap.size wc w6 := K0.trans hb6
             have Q2 := And.intro (HX1.out.go K2).C (And.intro (fun o => (K2.cell (p := ⟨gb, o, none⟩) hgz).trans (Q0.2.1 o)) (And.intro ((K2.cell (p := ⟨bp, op + i * 4, none⟩) hbp).trans Q0.2.2.1) (And.intro ((K2.cell (p := ⟨bp, op + i * 4 + 1, none⟩) hbp).trans Q0.2.2.2.1) (And.intro ((K2.cell (p := ⟨bp, op + i * 4 + 2, none⟩) hbp).trans Q0.2.2.2.2.1) (And.intro ((K2.cell (p := ⟨bp, op + i * 4 + 3, none⟩) hbp).trans Q0.2.2.2.2.2.1) K2)))))))
      have K6 : Below wr.heap.size wr w6 := K1.trans (K2.mono K1.size)
      have HT6 := Lib.hid (HT.out.step K6)
      have HKR6 := Lib.hid (HKR.out.step K6)
      have XB := Q2.2.1
      clear Q0 Q2 K0 K1 K2 K6 hb6 HT HKR
      rename_i hHeld
      clear hHeld
      generalize podStep (d.x0 (i * 4 + 3)) (d.x0 (i * 4 + 2)) (x, y) (s.ck + 1) = st at HEL ⊢
      cases hst : (st != x)
      · have HST : Hid (st = x) := Lib.hid (by simpa using hst)
        go_wp2
        exact ⟨⟨k + 1, by omega, by go_num, Lib.hid (by rw [HF1.out, HEL.out, if_pos HST.out]; simpa using HT6.out), HKR6⟩, by simp [intOf]; omega⟩
      · have HST : Hid (¬ st = x) := Lib.hid (by simpa using hst)
        go_wp2_with fail
        refine (collect_any w0 _ g d s lk 2 i st HT6.out HLE.out).mono ?_
        rintro e w7 ⟨rfl, hT7, hKR7⟩
        have HT7 := Lib.hid hT7
        have HKR7 := Lib.hid (HKR6.out.trans hKR7)
        clear hT7 hKR7 XB
        go_wp2
        exact ⟨⟨k + 1, by omega, by go_num, Lib.hid (by rw [HF1.out, HEL.out, if_neg HST.out]; exact HT7.out), HKR7⟩, by simp [intOf]; omega⟩
    · obtain rfl : k = L.length := by omega
      rw [List.take_length] at HT
      go_wp2
      refine bodyPost_ret (v := .tuple #[]) (by simp [results, Tryz.results189, go_sem]) rfl ?_
      exact ⟨rfl, HT.out, HKR.out⟩

set_option maxRecDepth 100000 in
set_option maxHeartbeats 8000000 in
theorem freeMounts_any (w0 W : World) (g : Nat) (d : PlanD) (s : StD) (l : List RecD) (h : Tk w0 W g d s l) (hok : StOk d s) (hl : l.length ≤ 1) :
    Calls Tryz.prog 191 #[.pointer (some ⟨g, 0, none⟩)] W (TkP w0 W g d s (l ++ recsOf d.n2 (freeG d s) mntRec)) := by
  have HT := Lib.hid h
  have OK := Lib.hid hok
  have HLN := Lib.hid hl
  obtain ⟨K, pv, sv, v, hp, hs, ⟨pc, sc, ep, es, X⟩, O⟩ := h
  have HP := Lib.hid hp
  have HS := Lib.hid hs
  obtain ⟨⟨P0, P1, P2, P3, k0, k1, k2, k3, rfl, s0, s1, s2, s3⟩, b0, b1, b2, b3⟩ := hp
  obtain ⟨⟨A0, A1, A2, A3, c0, c1, c2, c3, rfl, t0, t1, t2, t3⟩, f0, f1, f2, f3⟩ := hs
  injection ep with ep
  injection es with es
  subst ep es
  unfold maxLen at f1
  replace X : BoxTk W w0.heap.size g (tkC P0 P1 P2 P3 d.n0 k0 d.n1 k1 d.n2 k2 d.n3 k3 d.l d.p d.t A0 A1 A2 A3 s.pods.length c0 s.mnts.length c1 s.devs.length c2 s.lks.length c3 s.ph s.co s.ck s.bo s.ba s.lb s.gd s.pr (s.ck + 1) v).toList := X
  have RM := Lib.hid t1
  have hC := X.C
  have HNM := Lib.hid hok.nm
  have HSZ := Lib.hid (size_ok hok.plan)
  clear s0 s1 s2 s3 t0 t1 t2 t3 b0 b1 b2 b3 f0 f2 f3 hok hl X O K HP HS
  go_enter Tryz.func191, Tryz.ntmps191
  go_wp2_with fail
  go_loopw [11] (fun j wr => ∃ k : Nat, k ≤ s.mnts.length ∧ j = .int .i64 k ∧ Hid (Tk w0 wr g d s (l ++ recsOf k (freeG d s) mntRec)) ∧ Hid (KRow W wr)) (fun j _ => s.mnts.length - (intOf j).toNat)
  case atStart => exact ⟨0, Nat.zero_le _, rfl, Lib.hid (by rw [recsOf_zero, List.append_nil]; exact HT.out), Lib.hid (KRow.refl W)⟩
  case round =>
    clear HT hC P0 P1 P2 P3 k0 k1 k2 k3 A0 A2 A3 c0 c2 c3 v
    obtain ⟨k, hk, rfl, HT, HKR⟩ := hrel
    by_cases hlt : k < s.mnts.length
    · have hi : k < d.n2 := by rw [← HNM.out]; exact hlt
      obtain ⟨K, pv, sv, v, hp, hs, ⟨pc, sc, ep, es, X⟩, O⟩ := HT.out
      have HP := Lib.hid hp
      have HS := Lib.hid hs
      obtain ⟨⟨P0, P1, P2, P3, k0, k1, k2, k3, rfl, s0, s1, s2, s3⟩, b0, b1, b2, b3⟩ := hp
      obtain ⟨⟨A0, A1_, A2, A3, c0, c1_, c2, c3, rfl, t0, t1, t2, t3⟩, f0, f1, f2, f3⟩ := hs
      injection ep with ep
      injection es with es
      subst ep es
      clear b0 b1 b2 b3 f0 f2 f3 O s0 s1 s2 s3 t0 t1 t2 t3
      replace X : BoxTk wr w0.heap.size g (tkC P0 P1 P2 P3 d.n0 k0 d.n1 k1 d.n2 k2 d.n3 k3 d.l d.p d.t A0 A1_ A2 A3 s.pods.length c0 s.mnts.length c1_ s.devs.length c2 s.lks.length c3 s.ph s.co s.ck s.bo s.ba s.lb s.gd s.pr (s.ck + 1) v).toList := X
      obtain ⟨b', off', rfl, hb', hc⟩ := (RM.out.below K (Nat.le_refl _)).cell hlt
      have p0 := (hc 0 (by decide)).trans (mntCs_at s.mnts (i := k) hlt).1
      have p1 := (hc 1 (by decide)).trans (mntCs_at s.mnts (i := k) hlt).2
      rw [Nat.add_zero] at p0
      clear hc
      have hmo := (mntAt_ok OK.out hi).1
      have HM : Hid ((stOkB d s && mayFreeB d s k) = freeB d s k) := Lib.hid (by
        rw [stOkB_iff.2 OK.out, mayFreeB, Int.toNat_natCast, show inB (k : Int) 0 (d.n2 - 1) = true by rw [inB_true]; omega]; rfl)
      have HG : Hid (freeG d s k = if freeB d s k then some (if 0 < (mntA s.mnts k).2 then (true, (mntA s.mnts k).2 - 1) else (false, 0)) else none) := Lib.hid rfl
      have HN1 : Hid (l ++ recsOf (k + 1) (freeG d s) mntRec = (l ++ recsOf k (freeG d s) mntRec) ++ (match freeG d s k with | some q => [mntRec k q] | none => [])) := Lib.hid (by rw [recsOf_next, List.append_assoc]; cases freeG d s k <;> rfl)
      have HLE : Hid ((l ++ recsOf k (freeG d s) mntRec).length ≤ 100) := Lib.hid (by have := recsOf_le k (freeG d s) mntRec; have := HLN.out; have := HSZ.out; rw [List.length_append]; omega)
      rw [show mntAt s k = mntA s.mnts k from rfl] at hmo
      generalize freeG d s k = fg at HG HN1
      generalize mntA s.mnts k = q at p0 p1 HG hmo
      obtain ⟨x, y⟩ := q
      dsimp only at p0 p1 HG hmo
      generalize l ++ recsOf k (freeG d s) mntRec = lk at HN1 HLE HT
      go_wp2_with fail
      have K1 : Below wr.heap.size wr (wr.alloc (.cells #[.bool x, .int .i64 y] 142)) := (Below.refl _ _).alloc (Nat.le_refl _) _
      have XB := two_row (heap_alloc_new wr (.cells #[.bool x, .int .i64 y] 142))
      have hgz : wr.heap.size < (wr.alloc (.cells #[.bool x, .int .i64 y] 142)).heap.size := by simp
      have HX1 := Lib.hid (X.go K1)
      have KC := Lib.hid (toW K K1)
      clear p0 p1 hb' X K
      generalize wr.alloc (.cells #[.bool x, .int .i64 y] 142) = wc at K1 XB hgz HX1 KC ⊢
      obtain ⟨gb, hgb⟩ : ∃ gb, wr.heap.size = gb := ⟨_, rfl⟩
      rw [hgb] at XB hgz ⊢
      have Q0 : (∀ o, wc.cell? ⟨g, o, none⟩ = (tkC P0 P1 P2 P3 d.n0 k0 d.n1 k1 d.n2 k2 d.n3 k3 d.l d.p d.t A0 A1_ A2 A3 s.pods.length c0 s.mnts.length c1_ s.devs.length c2 s.lks.length c3 s.ph s.co s.ck s.bo s.ba s.lb s.gd s.pr (s.ck + 1) v)[o]?) ∧ (∀ o, wc.cell? ⟨gb, o, none⟩ = #[Value.bool x, .int .i64 y][o]?) ∧ Below wc.heap.size wc wc := ⟨HX1.out.C, XB, Below.refl _ _⟩
      clear XB
      go_region_held3 (fun w' => (∀ o, w'.cell? ⟨g, o, none⟩ = (tkC P0 P1 P2 P3 d.n0 k0 d.n1 k1 d.n2 k2 d.n3 k3 d.l d.p d.t A0 A1_ A2 A3 s.pods.length c0 s.mnts.length c1_ s.devs.length c2 s.lks.length c3 s.ph s.co s.ck s.bo s.ba s.lb s.gd s.pr (s.ck + 1) v)[o]?) ∧ (∀ o, w'.cell? ⟨gb, o, none⟩ = #[Value.bool x, .int .i64 y][o]?) ∧ Below wc.heap.size wc w')
        (first | exact Q2 | exact Q0 | exact ⟨Q0.1, Q0.2.1, Q0.2.2.drew⟩)
        (first
          | (go_at_call 216
             have K0 : Below wc.heap.size wc wc.drew := (Below.refl _ _).drew
             refine (implMayFree_any _ _ d s (k : Int) _ (planAt HP.out (toW KC.out K0)) (stAt HS.out (toW KC.out K0))).mono ?_
             rintro e w6 ⟨rfl, hb6⟩
             rw [HM.out]
             have K2 : Below wc.heap.size wc w6 := K0.trans hb6
             have Q2 := And.intro (HX1.out.go K2).C (And.intro (fun o => (K2.cell (p := ⟨gb, o, none⟩) hgz).trans (Q0.2.1 o)) K2)))
      have K6 : Below wr.heap.size wr w6 := K1.trans (K2.mono K1.size)
      have HT6 := Lib.hid (HT.out.step K6)
      have HKR6 := Lib.hid (HKR.out.step K6)
      have XB := Q2.2.1
      clear Q0 Q2 K0 K1 K2 K6 hb6 HT HKR HM
      rename_i hHeld
      clear hHeld
      generalize freeB d s k = fb at HG ⊢
      cases fb
      · go_wp2
        exact ⟨⟨k + 1, by omega, by go_num, Lib.hid (by rw [HN1.out, HG.out]; simpa using HT6.out), HKR6⟩, by simp [intOf]; omega⟩
      · by_cases hy : 0 < y
        · have HY := Lib.hid hy
          go_wp2_with fail
          refine (collect_any w0 _ g d s lk 3 k (y - 1) HT6.out HLE.out).mono ?_
          rintro e w7 ⟨rfl, hT7, hKR7⟩
          have HT7 := Lib.hid hT7
          have HKR7 := Lib.hid (HKR6.out.trans hKR7)
          clear hT7 hKR7 XB
          go_wp2
          exact ⟨⟨k + 1, by omega, by go_num, Lib.hid (by rw [HN1.out, HG.out, if_pos trivial, if_pos HY.out]; exact HT7.out), HKR7⟩, by simp [intOf]; omega⟩
        · have HY := Lib.hid hy
          go_wp2_with fail
          refine (collect_any w0 _ g d s lk 4 k 0 HT6.out HLE.out).mono ?_
          rintro e w7 ⟨rfl, hT7, hKR7⟩
          have HT7 := Lib.hid hT7
          have HKR7 := Lib.hid (HKR6.out.trans hKR7)
          clear hT7 hKR7 XB
          go_wp2
          exact ⟨⟨k + 1, by omega, by go_num, Lib.hid (by rw [HN1.out, HG.out, if_pos trivial, if_neg (by have := HY.out; omega)]; exact HT7.out), HKR7⟩, by simp [intOf]; omega⟩
    · obtain rfl : k = s.mnts.length := by omega
      rw [HNM.out] at HT
      go_wp2
      refine bodyPost_ret (v := .tuple #[]) (by simp [results, Tryz.results191, go_sem]) rfl ?_
      exact ⟨rfl, HT.out, HKR.out⟩

set_option maxRecDepth 100000 in
set_option maxHeartbeats 8000000 in
theorem giveDevices_any (w0 W : World) (g : Nat) (d : PlanD) (s : StD) (l : List RecD) (h : Tk w0 W g d s l) (hok : StOk d s) (hl : l.length ≤ 40) :
    Calls Tryz.prog 192 #[.pointer (some ⟨g, 0, none⟩)] W (TkP w0 W g d s (l ++ recsOf d.n3 (giveG d s) (fun i _ => ⟨5, i, 0⟩))) := by
  have HT := Lib.hid h
  have OK := Lib.hid hok
  have HLN := Lib.hid hl
  obtain ⟨K, pv, sv, v, hp, hs, ⟨pc, sc, ep, es, X⟩, O⟩ := h
  have HP := Lib.hid hp
  have HS := Lib.hid hs
  obtain ⟨⟨P0, P1, P2, P3, k0, k1, k2, k3, rfl, s0, s1, s2, s3⟩, b0, b1, b2, b3⟩ := hp
  obtain ⟨⟨A0, A1, A2, A3, c0, c1, c2, c3, rfl, t0, t1, t2, t3⟩, f0, f1, f2, f3⟩ := hs
  injection ep with ep
  injection es with es
  subst ep es
  unfold maxLen at f2
  replace X : BoxTk W w0.heap.size g (tkC P0 P1 P2 P3 d.n0 k0 d.n1 k1 d.n2 k2 d.n3 k3 d.l d.p d.t A0 A1 A2 A3 s.pods.length c0 s.mnts.length c1 s.devs.length c2 s.lks.length c3 s.ph s.co s.ck s.bo s.ba s.lb s.gd s.pr (s.ck + 1) v).toList := X
  have hC := X.C
  have HND := Lib.hid hok.nd
  have HSZ := Lib.hid (size_ok hok.plan)
  clear s0 s1 s2 s3 t0 t1 t2 t3 b0 b1 b2 b3 f0 f1 f3 hok hl X O K HP HS
  go_enter Tryz.func192, Tryz.ntmps192
  go_wp2_with fail
  go_loopw [10] (fun j wr => ∃ k : Nat, k ≤ s.devs.length ∧ j = .int .i64 k ∧ Hid (Tk w0 wr g d s (l ++ recsOf k (giveG d s) (fun i _ => ⟨5, i, 0⟩))) ∧ Hid (KRow W wr)) (fun j _ => s.devs.length - (intOf j).toNat)
  case atStart => exact ⟨0, Nat.zero_le _, rfl, Lib.hid (by rw [recsOf_zero, List.append_nil]; exact HT.out), Lib.hid (KRow.refl W)⟩
  case round =>
    clear HT hC P0 P1 P2 P3 k0 k1 k2 k3 A0 A1 A3 c0 c1 c3 v
    obtain ⟨k, hk, rfl, HT, HKR⟩ := hrel
    by_cases hlt : k < s.devs.length
    · have hi : k < d.n3 := by rw [← HND.out]; exact hlt
      obtain ⟨K, pv, sv, v, hp, hs, ⟨pc, sc, ep, es, X⟩, O⟩ := HT.out
      have HP := Lib.hid hp
      have HS := Lib.hid hs
      obtain ⟨⟨P0, P1, P2, P3, k0, k1, k2, k3, rfl, s0, s1, s2, s3⟩, b0, b1, b2, b3⟩ := hp
      obtain ⟨⟨A0, A1, A2, A3, c0, c1, c2, c3, rfl, t0, t1, t2, t3⟩, f0, f1, f2, f3⟩ := hs
      injection ep with ep
      injection es with es
      subst ep es
      clear b0 b1 b2 b3 f0 f1 f3 O s0 s1 s2 s3 t0 t1 t2 t3
      replace X : BoxTk wr w0.heap.size g (tkC P0 P1 P2 P3 d.n0 k0 d.n1 k1 d.n2 k2 d.n3 k3 d.l d.p d.t A0 A1 A2 A3 s.pods.length c0 s.mnts.length c1 s.devs.length c2 s.lks.length c3 s.ph s.co s.ck s.bo s.ba s.lb s.gd s.pr (s.ck + 1) v).toList := X
      have HM : Hid ((stOkB d s && mayGiveB d s k) = giveB d s k) := Lib.hid (by
        rw [stOkB_iff.2 OK.out, mayGiveB, Int.toNat_natCast, show inB (k : Int) 0 (d.n3 - 1) = true by rw [inB_true]; omega]; rfl)
      have HG : Hid (giveG d s k = if giveB d s k then some () else none) := Lib.hid rfl
      have HN1 : Hid (l ++ recsOf (k + 1) (giveG d s) (fun i _ => ⟨5, i, 0⟩) = (l ++ recsOf k (giveG d s) (fun i _ => ⟨5, i, 0⟩)) ++ (match giveG d s k with | some _ => [⟨5, k, 0⟩] | none => [])) := Lib.hid (by rw [recsOf_next, List.append_assoc]; cases giveG d s k <;> rfl)
      have HLE : Hid ((l ++ recsOf k (giveG d s) (fun i _ => (⟨5, i, 0⟩ : RecD))).length ≤ 100) := Lib.hid (by have := recsOf_le k (giveG d s) (fun i _ => (⟨5, i, 0⟩ : RecD)); have := HLN.out; have := HSZ.out; rw [List.length_append]; omega)
      generalize giveG d s k = fg at HG HN1
      generalize l ++ recsOf k (giveG d s) (fun i _ => (⟨5, i, 0⟩ : RecD)) = lk at HN1 HLE HT
      go_wp2_with fail
      have HX1 := Lib.hid X
      have KC := Lib.hid K
      have Q0 : (∀ o, wr.cell? ⟨g, o, none⟩ = (tkC P0 P1 P2 P3 d.n0 k0 d.n1 k1 d.n2 k2 d.n3 k3 d.l d.p d.t A0 A1 A2 A3 s.pods.length c0 s.mnts.length c1 s.devs.length c2 s.lks.length c3 s.ph s.co s.ck s.bo s.ba s.lb s.gd s.pr (s.ck + 1) v)[o]?) ∧ Below wr.heap.size wr wr := ⟨X.C, Below.refl _ _⟩
      clear X K
      go_region_held3 (fun w' => (∀ o, w'.cell? ⟨g, o, none⟩ = (tkC P0 P1 P2 P3 d.n0 k0 d.n1 k1 d.n2 k2 d.n3 k3 d.l d.p d.t A0 A1 A2 A3 s.pods.length c0 s.mnts.length c1 s.devs.length c2 s.lks.length c3 s.ph s.co s.ck s.bo s.ba s.lb s.gd s.pr (s.ck + 1) v)[o]?) ∧ Below wr.heap.size wr w')
        (first | exact Q2 | exact Q0 | exact ⟨Q0.1, Q0.2.drew⟩)
        (first
          | (go_at_call 217
             have K0 : Below wr.heap.size wr wr.drew := (Below.refl _ _).drew
             refine (implMayGive_any _ _ d s (k : Int) _ (planAt HP.out (toW KC.out K0)) (stAt HS.out (toW KC.out K0))).mono ?_
             rintro e w6 ⟨rfl, hb6⟩
             rw [HM.out]
             have K2 : Below wr.heap.size wr w6 := K0.trans hb6
             have Q2 := And.intro (HX1.out.go K2).C K2))
      have HT6 := Lib.hid (HT.out.step K2)
      have HKR6 := Lib.hid (HKR.out.step K2)
      clear Q0 Q2 K0 K2 hb6 HT HKR HM
      rename_i hHeld
      clear hHeld
      generalize giveB d s k = fb at HG ⊢
      cases fb
      · go_wp2
        exact ⟨⟨k + 1, by omega, by go_num, Lib.hid (by rw [HN1.out, HG.out]; simpa using HT6.out), HKR6⟩, by simp [intOf]; omega⟩
      · go_wp2_with fail
        refine (collect_any w0 _ g d s lk 5 k 0 HT6.out HLE.out).mono ?_
        rintro e w7 ⟨rfl, hT7, hKR7⟩
        have HT7 := Lib.hid hT7
        have HKR7 := Lib.hid (HKR6.out.trans hKR7)
        clear hT7 hKR7
        go_wp2
        exact ⟨⟨k + 1, by omega, by go_num, Lib.hid (by rw [HN1.out, HG.out, if_pos trivial]; exact HT7.out), HKR7⟩, by simp [intOf]; omega⟩
    · obtain rfl : k = s.devs.length := by omega
      rw [HND.out] at HT
      go_wp2
      refine bodyPost_ret (v := .tuple #[]) (by simp [results, Tryz.results192, go_sem]) rfl ?_
      exact ⟨rfl, HT.out, HKR.out⟩
end Go.Proofs.YtdphpjnecjofeaaGreatDoor
/- Oa -/
set_option linter.unusedVariables false
namespace Go.Proofs.YtdphpjnecjofeaaGreatDoor
open Go.RowKit

/-- A box that holds a list of records, the call's own. -/
def BoxG (w : World) (B g : Nat) (v : Value) : Prop := w.ownsRow B 60 1 (.slice (some ⟨g, 0, none⟩) 1 1) 1 [v]
theorem BoxG.new {W : World} {B g : Nat} {v : Value} (hg : W.heap.size = g) (hB : B ≤ W.heap.size) : BoxG (W.alloc (.cells #[v] 60)) B g v := by
  subst hg
  exact own_of_heap (cur := #[v]) (heap_alloc_new W _) (by simp) (by simp) hB (by unfold maxLen; decide)
theorem BoxG.C {w : World} {B g : Nat} {v : Value} (h : BoxG w B g v) : ∀ o, w.cell? ⟨g, o, none⟩ = (#[v] : Array Value)[o]? := by
  intro o
  obtain ⟨hl, ⟨hv, _⟩ | ⟨g', cap, cur, hv, hb, hh, hnc, hcm, hsz, ht⟩⟩ := id h
  · cases hv
  · injection hv with h1 h2 h3
    injection h1 with h1
    injection h1 with h1 _ _
    subst h1 h3
    by_cases ho : o < 1
    · rw [show w.cell? ⟨g, o, none⟩ = [v][o]? from World.ownsRow.cellAt h o (by omega)]
      simp
    · rw [cell_of_row _ _ _ _ _ _ hh, Array.getElem?_eq_none (by omega), Array.getElem?_eq_none (by simp; omega)]
theorem BoxG.frozen {w : World} {B g : Nat} {v : Value} (h : BoxG w B g v) (o : Nat) : w.frozen? ⟨g, o, none⟩ = false := World.ownsRow.frozenAt h o
theorem BoxG.lt {w : World} {B g : Nat} {v : Value} (h : BoxG w B g v) : B ≤ g ∧ g < w.heap.size := World.ownsRow.lt h g rfl
theorem BoxG.go {w w' : World} {B g : Nat} {v : Value} (h : BoxG w B g v) (hb : Below w.heap.size w w') : BoxG w' B g v := ownsRow_below h hb
theorem keeps_setG (w : World) (g o : Nat) (u : Value) : Keeps (· = g) w (w.setCell ⟨g, o, none⟩ u) := (Keeps.refl (· = g) w).set rfl u

/-- Rows but of lists of records and of records are as they were. -/
def KRowG (W W' : World) : Prop := ∀ (B e k n : Nat) (u : Value) (xs : List Value), e ≠ 60 → e ≠ 50 → W.ownsRow B e k u n xs → W'.ownsRow B e k u n xs
theorem KRowG.refl (W : World) : KRowG W W := fun _ _ _ _ _ _ _ _ h => h
theorem KRowG.trans {a b c : World} (h : KRowG a b) (h' : KRowG b c) : KRowG a c := fun B e k n u xs h1 h2 x => h' B e k n u xs h1 h2 (h B e k n u xs h1 h2 x)
theorem KRowG.step {a b c : World} (h : KRowG a b) (hb : Below b.heap.size b c) : KRowG a c := fun B e k n u xs h1 h2 x => ownsRow_below (h B e k n u xs h1 h2 x) hb
theorem KRowG.row {a b c : World} {B e k n : Nat} {v : Value} {xs : List Value} (h : KRowG a b) (O : b.ownsRow B e k v n xs) (he : e = 60 ∨ e = 50) (kp : Keeps (fun q => v.ownBlock = some q) b c) : KRowG a c := fun B' e' k' n' u ys h1 h2 x =>
  ownsRow_keeps (h B' e' k' n' u ys h1 h2 x) kp fun r hr hv => by
    have := row_type (h B' e' k' n' u ys h1 h2 x) O hr hv
    rcases he with rfl | rfl
    · exact h1 this
    · exact h2 this

/-- What has been told so far, in its box. -/
def Gv (w0 W : World) (g : Nat) (l : List RecD) : Prop := Below w0.heap.size w0 W ∧ ∃ v, BoxG W w0.heap.size g v ∧ OR W w0.heap.size v l
theorem Gv.step {w0 W W' : World} {g : Nat} {l : List RecD} (h : Gv w0 W g l) (hb : Below W.heap.size W W') : Gv w0 W' g l := by
  obtain ⟨K, v, X, O⟩ := h
  exact ⟨K.trans (hb.mono K.size), v, X.go hb, O.below hb⟩
def GvP (w0 W : World) (g : Nat) (l : List RecD) (e : Ending) (w' : World) : Prop := e = .returned (.tuple #[]) ∧ Gv w0 w' g l ∧ KRowG W w'

set_option maxRecDepth 100000 in
set_option maxHeartbeats 8000000 in
theorem giveUp_any (w0 W : World) (g : Nat) (l : List RecD) (k a b : Int) (h : Gv w0 W g l) (hl : l.length ≤ 100) :
    Calls Tryz.prog 193 #[.int .i64 k, .int .i64 a, .int .i64 b, .pointer (some ⟨g, 0, none⟩)] W (GvP w0 W g (l ++ [⟨k, a, b⟩])) := by
  obtain ⟨K, v, X, O⟩ := h
  obtain ⟨A, c, rfl, -, -⟩ := O.slv
  have KR := KRowG.refl W
  have hC := X.C
  go_enter Tryz.func193, Tryz.ntmps193
  go_wp2_with (at_builtin; refine append_rec k a b _ _ rfl rfl rfl O rfl rfl (by omega) K.size ?_; rintro v2 w2 O2 hb2 kp; obtain ⟨A2, c2, rfl, -, -⟩ := O2.slv; rw [show (l ++ [(⟨k, a, b⟩ : RecD)]).length = l.length + 1 from by simp] at O2; have X2 : BoxG w2 w0.heap.size g (.slice A l.length c) := ownsRow_keeps X kp (fun r hr e => absurd (row_type X O hr e) (by decide)); have hC2 := X2.C; have hF2 := X2.frozen)
  replace KR := KR.row O (.inr rfl) kp
  have K2 := K.trans (hb2.mono (Nat.le_refl _))
  have kp2 : Keeps (fun b => (Value.slice (some ⟨g, 0, none⟩) 1 1).ownBlock = some b) w2 (w2.setCell ⟨g, 0, none⟩ (.slice A2 (l.length + 1) c2)) := (keeps_setG w2 g 0 _).mono fun b e => by rw [e]; rfl
  have K3 := K2.setCell (p := ⟨g, 0, none⟩) X2.lt.1 (.slice A2 (l.length + 1) c2)
  have KR3 := KR.row X2 (.inl rfl) kp2
  have O3 : OR _ _ _ _ := ownsRow_keeps O2 kp2 fun r hr e => absurd (row_type O2 X2 hr e) (by decide)
  have X3 : BoxG _ _ _ _ := (World.ownsRow.stored X2 0 (.slice A2 (l.length + 1) c2)).1
  refine bodyPost_ret (v := .tuple #[]) (by simp [results, Tryz.results193, go_sem]) rfl ?_
  exact ⟨rfl, ⟨K3, _, X3, O3⟩, KR3⟩
end Go.Proofs.YtdphpjnecjofeaaGreatDoor
