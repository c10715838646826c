/-
  The model's ProbeRecs.
-/
import Derived.Test.YtdkmhaghnfhajaaGreatMZ10
import Derived.Test.YtdkmhaghnfhajaaGreatMZxWc
/- Wl -/
set_option linter.unusedVariables false
namespace Go.Proofs.YtdkmhaghnfhajaaGreat
open Go.RowKit

def tickD (d : PlanD) (s : StD) : List RecD × Int := if 1000000 ≤ s.ck then noR 7 else (tickL d s, 0)
def bootD (d : PlanD) (s : StD) (id : Int) : List RecD × Int := if inB id 1 1000000 then (if id = s.bo then noR 6 else (bootL d s id, 0)) else noR 1
def probeD (d : PlanD) (s : StD) (good : Bool) : List RecD × Int := if s.ph = 6 ∨ s.ph = 7 then (probeL d s good, 0) else noR 3
theorem recs_one (w : World) (cs os : Array Value) (t t' : TypeId) (k a b : Int) : Two w (((w.alloc (.cells cs t)).alloc (.cells os t')).alloc (.cells #[.int .i64 k, .int .i64 a, .int .i64 b] 60)) cs os ∧
    OR (((w.alloc (.cells cs t)).alloc (.cells os t')).alloc (.cells #[.int .i64 k, .int .i64 a, .int .i64 b] 60)) (w.heap.size + 2) (.slice (some ⟨w.heap.size + 1 + 1, 0, none⟩) 1 1) [⟨k, a, b⟩] := by
  have T0 := Two.start w cs os t t'
  have O1 : OR _ (w.heap.size + 2) _ [⟨k, a, b⟩] := OR.first (w := (w.alloc (.cells cs t)).alloc (.cells os t')) T0.O.z k a b
  have e : ((w.alloc (.cells cs t)).alloc (.cells os t')).heap.size = w.heap.size + 1 + 1 := by simp
  rw [e] at O1
  exact ⟨T0.step ((Below.refl _ _).alloc (Nat.le_refl _) _), O1⟩
theorem shutL_le {d : PlanD} {s : StD} {c : Int} (h : planOkB d = true) : (shutL d s c).length ≤ 12 := by
  have h0 := size_ok h
  have h1 := recsOf_le d.n0 (stepG d s s.ba c) (fun i x => (⟨2, i, x⟩ : RecD))
  unfold shutL
  split
  · simp
  · split
    · simp
    · split
      · omega
      · simp
theorem releaseL_le {d : PlanD} {s : StD} (h : planOkB d = true) : (releaseL d s).length ≤ 24 := by
  have h0 := size_ok h
  have h1 := recsOf_le d.n2 (freeG d s) mntRec
  have h2 := recsOf_le d.n3 (giveG d s) (fun i _ => (⟨5, i, 0⟩ : RecD))
  unfold releaseL
  split
  · rw [List.length_append]; omega
  · simp

set_option maxRecDepth 4000 in
set_option maxHeartbeats 8000000 in
theorem l11Tick_any (pv sv : Value) (d : PlanD) (s : StD) (w : World) (hp : IsPlan w w.heap.size pv d) (hs : IsSt w w.heap.size sv s) (hok : StOk d s) :
    Calls Tryz.prog 122 #[pv, sv] w (RecsA w (tickD d s)) := by
  have HP := Lib.hid hp
  have HS := Lib.hid hs
  obtain ⟨⟨P0, P1, P2, P3, k0, k1, k2, k3, rfl, s0, s1, s2, s3⟩, b0, b1, b2, b3⟩ := hp
  obtain ⟨⟨A0, A1, A2, A3, c0, c1, c2, c3, rfl, t0, t1, t2, t3⟩, f0, f1, f2, f3⟩ := hs
  have S0 := Lib.hid s0
  have S1 := Lib.hid s1
  have S2 := Lib.hid s2
  have S3 := Lib.hid s3
  have R0 := Lib.hid t0
  have R1 := Lib.hid t1
  have R2 := Lib.hid t2
  have R3 := Lib.hid t3
  unfold maxLen at b0 b1 b2 b3 f0 f1 f2 f3
  clear s0 s1 s2 s3 t0 t1 t2 t3
  have T0 := Two.start w (planC P0 P1 P2 P3 d.n0 k0 d.n1 k1 d.n2 k2 d.n3 k3 d.l d.p d.t) (stC A0 A1 A2 A3 s.pods.length c0 s.mnts.length c1 s.devs.length c2 s.lks.length c3 s.ph s.co s.ck s.bo s.ba s.lb s.gd s.pr) 29 38
  have OK := Lib.hid hok
  clear hok
  obtain ⟨ans, hans⟩ : ∃ ans, tickD d s = ans := ⟨_, rfl⟩
  rw [hans]
  have HANS := Lib.hid hans
  clear hans
  have hC := T0.A.C
  have hD := T0.O.C
  have hck := OK.out.ck
  by_cases hsp : 1000000 ≤ s.ck
  · have H := Lib.hid hsp
    go_enter Tryz.func122, Tryz.ntmps122
    go_wp2_with fail
    refine (l10No_any 7 _).mono ?_
    rintro e w9 hR
    obtain ⟨v9, rfl, O9, K9⟩ := hR.back T0.A.K
    go_wp2
    all_goals (go_ret2; rw [← HANS.out, tickD, if_pos (by have := H.out; omega)]; exact ⟨v9, rfl, O9, K9⟩)
  · have H := Lib.hid hsp
    have HANS2 : Hid (ans = ([⟨8, s.ck + 1, 0⟩] ++ (if s.ph = 3 then shutL d s (s.ck + 1) else if s.ph = 4 then releaseL d s else []), 0)) := Lib.hid (by rw [← HANS.out, tickD, if_neg H.out]; rfl)
    obtain ⟨T1, O1⟩ := recs_one w (planC P0 P1 P2 P3 d.n0 k0 d.n1 k1 d.n2 k2 d.n3 k3 d.l d.p d.t) (stC A0 A1 A2 A3 s.pods.length c0 s.mnts.length c1 s.devs.length c2 s.lks.length c3 s.ph s.co s.ck s.bo s.ba s.lb s.gd s.pr) 29 38 8 (s.ck + 1) 0
    have HT := Lib.hid T1
    have HO := Lib.hid O1
    clear HANS T1 O1
    cases h3 : (s.ph == 3)
    case true =>
      have H3 : Hid (s.ph = 3) := Lib.hid (by simpa using h3)
      go_enter Tryz.func122, Tryz.ntmps122
      go_wp2_with fail
      refine (l11Shutting_any _ _ d s _ _ ((HP.out.below HT.out.A.K (Nat.le_refl _)).more HT.out.A.K.size) ((HS.out.below HT.out.A.K (Nat.le_refl _)).more HT.out.A.K.size) OK.out (by omega)).mono ?_
      rintro e w2 ⟨v2, rfl, O2, hb⟩
      have T2 := HT.out.step hb
      have HO2 := Lib.hid (HO.out.below hb)
      have HLE := Lib.hid (shutL_le (d := d) (s := s) (c := s.ck + 1) OK.out.plan)
      obtain ⟨A2_, c2_, rfl, hr2, R2_⟩ := O2.slv
      go_wp2_with (at_builtin; refine append_recs _ _ rfl rfl rfl HO2.out rfl hr2 R2_ (by have := HLE.out; simp; omega) T2.O.z ?_; rintro v' w' O' hb' -)
      all_goals (go_ret2; rw [HANS2.out, if_pos H3.out]; exact ⟨_, rfl, O'.base (by omega), (T2.low hb' (Nat.le_refl _)).A.K⟩)
    case false =>
      have H3 : Hid (¬ s.ph = 3) := Lib.hid (by simpa using h3)
      cases h4 : (s.ph == 4)
      case true =>
        have H4 : Hid (s.ph = 4) := Lib.hid (by simpa using h4)
        go_enter Tryz.func122, Tryz.ntmps122
        go_wp2_with fail
        refine (l11Releasing_any _ _ d s _ ((HP.out.below HT.out.A.K (Nat.le_refl _)).more HT.out.A.K.size) ((HS.out.below HT.out.A.K (Nat.le_refl _)).more HT.out.A.K.size) OK.out).mono ?_
        rintro e w2 ⟨v2, rfl, O2, hb⟩
        have T2 := HT.out.step hb
        have HO2 := Lib.hid (HO.out.below hb)
        have HLE := Lib.hid (releaseL_le (d := d) (s := s) OK.out.plan)
        obtain ⟨A2_, c2_, rfl, hr2, R2_⟩ := O2.slv
        go_wp2_with (at_builtin; refine append_recs _ _ rfl rfl rfl HO2.out rfl hr2 R2_ (by have := HLE.out; simp; omega) T2.O.z ?_; rintro v' w' O' hb' -)
        all_goals (go_ret2; rw [HANS2.out, if_neg H3.out, if_pos H4.out]; exact ⟨_, rfl, O'.base (by omega), (T2.low hb' (Nat.le_refl _)).A.K⟩)
      case false =>
        have H4 : Hid (¬ s.ph = 4) := Lib.hid (by simpa using h4)
        go_enter Tryz.func122, Tryz.ntmps122
        go_wp2
        all_goals (go_ret2; rw [HANS2.out, if_neg H3.out, if_neg H4.out]; exact ⟨_, rfl, HO.out.base (by omega), HT.out.A.K⟩)

set_option maxHeartbeats 4000000 in
theorem tickRecs_any (pv sv : Value) (d : PlanD) (s : StD) (w : World) (hp : IsPlan w w.heap.size pv d) (hs : IsSt w w.heap.size sv s) :
    Calls Tryz.prog 117 #[pv, sv] w (RecsA w (if stOkB d s then tickD d s else noR 1)) := by
  have HP := Lib.hid hp
  have HS := Lib.hid hs
  obtain ⟨⟨P0, P1, P2, P3, k0, k1, k2, k3, rfl, s0, s1, s2, s3⟩, b0, b1, b2, b3⟩ := hp
  obtain ⟨⟨A0, A1, A2, A3, c0, c1, c2, c3, rfl, t0, t1, t2, t3⟩, f0, f1, f2, f3⟩ := hs
  have S0 := Lib.hid s0
  have S1 := Lib.hid s1
  have S2 := Lib.hid s2
  have S3 := Lib.hid s3
  have R0 := Lib.hid t0
  have R1 := Lib.hid t1
  have R2 := Lib.hid t2
  have R3 := Lib.hid t3
  unfold maxLen at b0 b1 b2 b3 f0 f1 f2 f3
  clear s0 s1 s2 s3 t0 t1 t2 t3
  have T0 := Two.start w (planC P0 P1 P2 P3 d.n0 k0 d.n1 k1 d.n2 k2 d.n3 k3 d.l d.p d.t) (stC A0 A1 A2 A3 s.pods.length c0 s.mnts.length c1 s.devs.length c2 s.lks.length c3 s.ph s.co s.ck s.bo s.ba s.lb s.gd s.pr) 29 38
  obtain ⟨ans, hans⟩ : ∃ ans, (if stOkB d s then tickD d s else noR 1) = ans := ⟨_, rfl⟩
  rw [hans]
  have HANS := Lib.hid hans
  clear hans
  go_enter Tryz.func117, Tryz.ntmps117
  go_wp2_with fail
  refine (specStateOk_any _ _ d s _ ((HP.out.below T0.A.K (Nat.le_refl _)).more T0.A.K.size) ((HS.out.below T0.A.K (Nat.le_refl _)).more T0.A.K.size)).mono ?_
  rintro e w1 ⟨rfl, hb⟩
  have T1 := T0.step hb
  have hC := T1.A.C
  have hD := T1.O.C
  clear hb T0
  cases hok : stOkB d s
  · have OKB : Hid (¬ stOkB d s = true) := Lib.hid (by rw [hok]; decide)
    clear hok
    go_wp2_with fail
    refine (l10No_any 1 _).mono ?_
    rintro e w9 hR
    obtain ⟨v9, rfl, O9, K9⟩ := hR.back T1.A.K
    go_wp2
    all_goals (go_ret2; rw [← HANS.out, if_neg OKB.out]; exact ⟨v9, rfl, O9, K9⟩)
  · have OK := Lib.hid (stOkB_iff.1 hok)
    have OKB := Lib.hid hok
    clear hok
    go_wp2_with fail
    refine (l11Tick_any _ _ d s _ ((HP.out.below T1.A.K (Nat.le_refl _)).more T1.A.K.size) ((HS.out.below T1.A.K (Nat.le_refl _)).more T1.A.K.size) OK.out).mono ?_
    rintro e w9 hR
    obtain ⟨v9, rfl, O9, K9⟩ := hR.back T1.A.K
    go_wp2
    all_goals (go_ret2; rw [← HANS.out, if_pos OKB.out]; exact ⟨v9, rfl, O9, K9⟩)

set_option maxRecDepth 4000 in
set_option maxHeartbeats 16000000 in
theorem bootRecs_any (pv sv : Value) (d : PlanD) (s : StD) (id : Int) (w : World) (hp : IsPlan w w.heap.size pv d) (hs : IsSt w w.heap.size sv s) :
    Calls Tryz.prog 118 #[pv, sv, .int .i64 id] w (RecsA w (if stOkB d s then bootD d s id else noR 1)) := by
  have HP := Lib.hid hp
  have HS := Lib.hid hs
  obtain ⟨⟨P0, P1, P2, P3, k0, k1, k2, k3, rfl, s0, s1, s2, s3⟩, b0, b1, b2, b3⟩ := hp
  obtain ⟨⟨A0, A1, A2, A3, c0, c1, c2, c3, rfl, t0, t1, t2, t3⟩, f0, f1, f2, f3⟩ := hs
  have S0 := Lib.hid s0
  have S1 := Lib.hid s1
  have S2 := Lib.hid s2
  have S3 := Lib.hid s3
  have R0 := Lib.hid t0
  have R1 := Lib.hid t1
  have R2 := Lib.hid t2
  have R3 := Lib.hid t3
  unfold maxLen at b0 b1 b2 b3 f0 f1 f2 f3
  clear s0 s1 s2 s3 t0 t1 t2 t3
  have T0 := Two.start w (planC P0 P1 P2 P3 d.n0 k0 d.n1 k1 d.n2 k2 d.n3 k3 d.l d.p d.t) (stC A0 A1 A2 A3 s.pods.length c0 s.mnts.length c1 s.devs.length c2 s.lks.length c3 s.ph s.co s.ck s.bo s.ba s.lb s.gd s.pr) 29 38
  obtain ⟨ans, hans⟩ : ∃ ans, (if stOkB d s then bootD d s id else noR 1) = ans := ⟨_, rfl⟩
  rw [hans]
  have HANS := Lib.hid hans
  clear hans
  go_enter Tryz.func118, Tryz.ntmps118
  go_wp2_with fail
  refine (specStateOk_any _ _ d s _ ((HP.out.below T0.A.K (Nat.le_refl _)).more T0.A.K.size) ((HS.out.below T0.A.K (Nat.le_refl _)).more T0.A.K.size)).mono ?_
  rintro e w1 ⟨rfl, hb⟩
  have T1 := T0.step hb
  have hC := T1.A.C
  have hD := T1.O.C
  clear hb T0
  cases hok : stOkB d s
  · have OKB : Hid (¬ stOkB d s = true) := Lib.hid (by rw [hok]; decide)
    clear hok
    go_wp2_with fail
    refine (l10No_any 1 _).mono ?_
    rintro e w9 hR
    obtain ⟨v9, rfl, O9, K9⟩ := hR.back T1.A.K
    go_wp2
    all_goals (go_ret2; rw [← HANS.out, if_neg OKB.out]; exact ⟨v9, rfl, O9, K9⟩)
  · have OK := Lib.hid (stOkB_iff.1 hok)
    have HANS2 : Hid (ans = bootD d s id) := Lib.hid (by rw [← HANS.out, if_pos hok])
    clear hok HANS
    go_wp2_with fail
    refine (in_any _ _ _ _).mono ?_
    rintro e w2 ⟨rfl, rfl⟩
    cases hin : inB id 1 1000000
    · have HIN : Hid (¬ inB id 1 1000000 = true) := Lib.hid (by rw [hin]; decide)
      clear hin
      go_wp2_with fail
      refine (l10No_any 1 _).mono ?_
      rintro e w9 hR
      obtain ⟨v9, rfl, O9, K9⟩ := hR.back T1.A.K
      go_wp2
      all_goals (go_ret2; rw [HANS2.out, bootD, if_neg HIN.out]; exact ⟨v9, rfl, O9, K9⟩)
    · have HIN := Lib.hid hin
      clear hin
      cases hb : (id == s.bo)
      case true =>
        have HB : Hid (id = s.bo) := Lib.hid (by simpa using hb)
        go_wp2_with fail
        refine (l10No_any 6 _).mono ?_
        rintro e w9 hR
        obtain ⟨v9, rfl, O9, K9⟩ := hR.back T1.A.K
        go_wp2
        all_goals (go_ret2; rw [HANS2.out, bootD, if_pos HIN.out, if_pos HB.out]; exact ⟨v9, rfl, O9, K9⟩)
      case false =>
        have HB : Hid (¬ id = s.bo) := Lib.hid (by simpa using hb)
        have HANS3 : Hid (ans = (bootL d s id, 0)) := Lib.hid (by rw [HANS2.out, bootD, if_pos HIN.out, if_neg HB.out])
        obtain ⟨al, ac⟩ := ans
        obtain rfl : ac = 0 := congrArg Prod.snd HANS3.out
        have HA0 : Hid (al = [⟨10, id, 0⟩] ++ (recsOf d.n0 (failG s) (fun i x => ⟨2, i, x⟩) ++ (recsOf d.n2 (looseG s) mntRec ++ (recsOf d.n3 (emptyG s) (fun i _ => ⟨5, i, 0⟩) ++ (s.lks.map (fun x => (⟨7, x, 0⟩ : RecD)) ++ ⟨12, 0, 0⟩ :: (if s.ph = 8 then [] else [⟨1, 6, 0⟩])))))) := Lib.hid ((congrArg Prod.fst HANS3.out).trans rfl)
        have HNP := Lib.hid OK.out.np
        have HNM := Lib.hid OK.out.nm
        have HND := Lib.hid OK.out.nd
        have HSZ := Lib.hid (size_ok OK.out.plan)
        have HLK : Hid (s.lks.length ≤ 8) := Lib.hid (by have := rise_len (a := 0) OK.out.rise OK.out.lks (by omega); omega)
        have O2 : OR (w1.alloc (.cells #[.int .i64 10, .int .i64 id, .int .i64 0] 60)) (w.heap.size + 2) (.slice (some ⟨w1.heap.size, 0, none⟩) 1 1) [⟨10, id, 0⟩] := OR.first T1.O.z 10 id 0
        have HO := Lib.hid O2
        have HT := Lib.hid (T1.step ((Below.refl _ _).alloc (Nat.le_refl _) (.cells #[.int .i64 10, .int .i64 id, .int .i64 0] 60)))
        have HL0 : Hid (([⟨10, id, 0⟩] : List RecD).length ≤ 1) := Lib.hid (by simp)
        have hz := T1.A.z
        have hz' := T1.O.z
        generalize ([⟨10, id, 0⟩] : List RecD) = b0_ at HA0 HO HL0
        clear HANS2 HANS3 O2
        go_wp2_with fail
        go_loopw [8, 9] (fun v j wr => ∃ k : Nat, k ≤ s.pods.length ∧ j = .int .i64 k ∧ Hid (OR wr (w.heap.size + 2) v (b0_ ++ recsOf k (failG s) (fun i x => ⟨2, i, x⟩))) ∧ Two w wr (planC P0 P1 P2 P3 d.n0 k0 d.n1 k1 d.n2 k2 d.n3 k3 d.l d.p d.t) (stC A0 A1 A2 A3 s.pods.length c0 s.mnts.length c1 s.devs.length c2 s.lks.length c3 s.ph s.co s.ck s.bo s.ba s.lb s.gd s.pr)) (fun _ j _ => s.pods.length - (intOf j).toNat)
        case atStart => exact ⟨0, Nat.zero_le _, rfl, Lib.hid (by rw [recsOf_zero, List.append_nil]; exact HO.out), HT.out⟩
        case round =>
          clear HO HT hC hD
          obtain ⟨k, hk, rfl, HO, T⟩ := hrel
          have hC := T.A.C
          have hD := T.O.C
          by_cases hlt : k < s.pods.length
          · obtain ⟨b', off', rfl, hb', hc⟩ := (R0.out.below T.A.K (Nat.le_refl _)).cell hlt
            have p0 := (hc 0 (by decide)).trans (podCs_at s.pods (i := k) hlt).1
            rw [Nat.add_zero] at p0
            clear hc
            have HN1 : Hid (b0_ ++ recsOf (k + 1) (failG s) (fun i x => ⟨2, i, x⟩) = (b0_ ++ recsOf k (failG s) (fun i x => ⟨2, i, x⟩)) ++ (if aliveB (podA s.pods k).1 then [⟨2, k, 5⟩] else [])) := Lib.hid (by
              rw [recsOf_next, List.append_assoc]
              have : failG s k = if aliveB (podA s.pods k).1 then some 5 else none := rfl
              rw [this]
              cases aliveB (podA s.pods k).1 <;> rfl)
            have HLE : Hid ((b0_ ++ recsOf k (failG s) (fun i x => ⟨2, i, x⟩)).length ≤ 13) := Lib.hid (by have := recsOf_le k (failG s) (fun i x => (⟨2, i, x⟩ : RecD)); have := HL0.out; have := HNP.out; have := HSZ.out; rw [List.length_append]; omega)
            generalize (podA s.pods k).1 = x at p0 HN1
            generalize hR : b0_ ++ recsOf k (failG s) (fun i x => ⟨2, i, x⟩) = done at HN1 HLE HO
            clear hR
            go_wp2_with fail
            refine (alive_any _ _).mono ?_
            rintro e w9 ⟨rfl, rfl⟩
            cases ha : aliveB x
            · have HA := Lib.hid ha
              clear ha
              go_wp2
              refine ⟨⟨k + 1, by omega, by go_num, Lib.hid (by rw [HN1.out, HA.out]; simpa using HO.out), T⟩, by simp [intOf]; omega⟩
            · have HA := Lib.hid ha
              clear ha
              go_wp2_with (at_builtin; refine append_rec 2 k 5 _ _ rfl rfl rfl HO.out rfl rfl (by have := HLE.out; omega) T.O.z ?_; rintro v' w' O' hb' -)
              refine ⟨⟨k + 1, by omega, by go_num, Lib.hid (by rw [HN1.out, HA.out, if_pos rfl]; exact O'), T.low hb' (Nat.le_refl _)⟩, by simp [intOf]; omega⟩
          · obtain ⟨rfl⟩ : d.n0 = k := by have := HNP.out; omega
            have hx : ¬ d.n0 < s.pods.length := by rw [HNP.out]; omega
            have HAQ : Hid (al = (b0_ ++ recsOf d.n0 (failG s) (fun i x => ⟨2, i, x⟩)) ++ (recsOf d.n2 (looseG s) mntRec ++ (recsOf d.n3 (emptyG s) (fun i _ => ⟨5, i, 0⟩) ++ (s.lks.map (fun x => (⟨7, x, 0⟩ : RecD)) ++ ⟨12, 0, 0⟩ :: (if s.ph = 8 then [] else [⟨1, 6, 0⟩]))))) := Lib.hid (by rw [HA0.out, List.append_assoc])
            have HL1 : Hid ((b0_ ++ recsOf d.n0 (failG s) (fun i x => ⟨2, i, x⟩)).length ≤ 13) := Lib.hid (by have := HL0.out; have := HSZ.out; have := recsOf_le d.n0 (failG s) (fun i x => (⟨2, i, x⟩ : RecD)); rw [List.length_append]; omega)
            generalize hR : b0_ ++ recsOf d.n0 (failG s) (fun i x => ⟨2, i, x⟩) = b1_ at HAQ HL1 HO
            clear hR
            have HA1 := HAQ
            clear HAQ
            have HT := Lib.hid T
            clear T
            go_wp2_with fail
            go_loopw [8, 10] (fun v j wr => ∃ k : Nat, k ≤ s.mnts.length ∧ j = .int .i64 k ∧ Hid (OR wr (w.heap.size + 2) v (b1_ ++ recsOf k (looseG s) mntRec)) ∧ Two w wr (planC P0 P1 P2 P3 d.n0 k0 d.n1 k1 d.n2 k2 d.n3 k3 d.l d.p d.t) (stC A0 A1 A2 A3 s.pods.length c0 s.mnts.length c1 s.devs.length c2 s.lks.length c3 s.ph s.co s.ck s.bo s.ba s.lb s.gd s.pr)) (fun _ j _ => s.mnts.length - (intOf j).toNat)
            case atStart => exact ⟨0, Nat.zero_le _, rfl, Lib.hid (by rw [recsOf_zero, List.append_nil]; exact HO.out), HT.out⟩
            case round =>
              clear HO HT hC hD
              obtain ⟨k, hk, rfl, HO, T⟩ := hrel
              have hC := T.A.C
              have hD := T.O.C
              by_cases hlt : k < s.mnts.length
              · obtain ⟨b', off', rfl, hb', hc⟩ := (R1.out.below T.A.K (Nat.le_refl _)).cell hlt
                have p0 := (hc 0 (by decide)).trans (mntCs_at s.mnts (i := k) hlt).1
                rw [Nat.add_zero] at p0
                clear hc
                have HN1 : Hid (b1_ ++ recsOf (k + 1) (looseG s) mntRec = (b1_ ++ recsOf k (looseG s) mntRec) ++ (if (mntA s.mnts k).1 then [⟨4, k, 0⟩] else [])) := Lib.hid (by
                  rw [recsOf_next, List.append_assoc]
                  have : looseG s k = if (mntA s.mnts k).1 then some (false, 0) else none := rfl
                  rw [this]
                  cases (mntA s.mnts k).1 <;> rfl)
                have HLE : Hid ((b1_ ++ recsOf k (looseG s) mntRec).length ≤ 24+1) := Lib.hid (by have := recsOf_le k (looseG s) mntRec; have := HL1.out; have := HNM.out; have := HSZ.out; rw [List.length_append]; omega)
                generalize (mntA s.mnts k).1 = x at p0 HN1
                generalize hR : b1_ ++ recsOf k (looseG s) mntRec = done at HN1 HLE HO
                clear hR
                cases x
                · go_wp2
                  refine ⟨⟨k + 1, by omega, by go_num, Lib.hid (by rw [HN1.out]; simpa using HO.out), T⟩, by simp [intOf]; omega⟩
                · go_wp2_with (at_builtin; refine append_rec 4 k 0 _ _ rfl rfl rfl HO.out rfl rfl (by have := HLE.out; omega) T.O.z ?_; rintro v' w' O' hb' -)
                  refine ⟨⟨k + 1, by omega, by go_num, Lib.hid (by rw [HN1.out]; exact O'), T.low hb' (Nat.le_refl _)⟩, by simp [intOf]; omega⟩
              · obtain ⟨rfl⟩ : d.n2 = k := by have := HNM.out; omega
                have hx : ¬ d.n2 < s.mnts.length := by rw [HNM.out]; omega
                have HAQ : Hid (al = (b1_ ++ recsOf d.n2 (looseG s) mntRec) ++ (recsOf d.n3 (emptyG s) (fun i _ => ⟨5, i, 0⟩) ++ (s.lks.map (fun x => (⟨7, x, 0⟩ : RecD)) ++ ⟨12, 0, 0⟩ :: (if s.ph = 8 then [] else [⟨1, 6, 0⟩])))) := Lib.hid (by rw [HA1.out, List.append_assoc])
                have HL2 : Hid ((b1_ ++ recsOf d.n2 (looseG s) mntRec).length ≤ 25) := Lib.hid (by have := HL1.out; have := HSZ.out; have := recsOf_le d.n2 (looseG s) (mntRec); rw [List.length_append]; omega)
                generalize hR : b1_ ++ recsOf d.n2 (looseG s) mntRec = b2_ at HAQ HL2 HO
                clear hR
                have HA2 := HAQ
                clear HAQ
                have HT := Lib.hid T
                clear T
                go_wp2_with fail
                go_loopw [8, 11] (fun v j wr => ∃ k : Nat, k ≤ s.devs.length ∧ j = .int .i64 k ∧ Hid (OR wr (w.heap.size + 2) v (b2_ ++ recsOf k (emptyG s) (fun i _ => ⟨5, i, 0⟩))) ∧ Two w wr (planC P0 P1 P2 P3 d.n0 k0 d.n1 k1 d.n2 k2 d.n3 k3 d.l d.p d.t) (stC A0 A1 A2 A3 s.pods.length c0 s.mnts.length c1 s.devs.length c2 s.lks.length c3 s.ph s.co s.ck s.bo s.ba s.lb s.gd s.pr)) (fun _ j _ => s.devs.length - (intOf j).toNat)
                case atStart => exact ⟨0, Nat.zero_le _, rfl, Lib.hid (by rw [recsOf_zero, List.append_nil]; exact HO.out), HT.out⟩
                case round =>
                  clear HO HT hC hD
                  obtain ⟨k, hk, rfl, HO, T⟩ := hrel
                  have hC := T.A.C
                  have hD := T.O.C
                  by_cases hlt : k < s.devs.length
                  · obtain ⟨b', off', rfl, hb', hc⟩ := (R2.out.below T.A.K (Nat.le_refl _)).cell hlt
                    have p0 := (hc 0 (by decide)).trans (devCs_at s.devs (i := k * 1 + 0) (by omega))
                    rw [Nat.add_zero, Nat.mul_one] at p0
                    clear hc
                    have HN1 : Hid (b2_ ++ recsOf (k + 1) (emptyG s) (fun i _ => ⟨5, i, 0⟩) = (b2_ ++ recsOf k (emptyG s) (fun i _ => ⟨5, i, 0⟩)) ++ (if devA s.devs k then [⟨5, k, 0⟩] else [])) := Lib.hid (by
                      rw [recsOf_next, List.append_assoc]
                      have : emptyG s k = if devA s.devs k then some () else none := rfl
                      rw [this]
                      cases devA s.devs k <;> rfl)
                    have HLE : Hid ((b2_ ++ recsOf k (emptyG s) (fun i _ => ⟨5, i, 0⟩)).length ≤ 36+1) := Lib.hid (by have := recsOf_le k (emptyG s) (fun i _ => (⟨5, i, 0⟩ : RecD)); have := HL2.out; have := HND.out; have := HSZ.out; rw [List.length_append]; omega)
                    generalize devA s.devs k = x at p0 HN1
                    generalize hR : b2_ ++ recsOf k (emptyG s) (fun i _ => ⟨5, i, 0⟩) = done at HN1 HLE HO
                    clear hR
                    cases x
                    · go_wp2
                      refine ⟨⟨k + 1, by omega, by go_num, Lib.hid (by rw [HN1.out]; simpa using HO.out), T⟩, by simp [intOf]; omega⟩
                    · go_wp2_with (at_builtin; refine append_rec 5 k 0 _ _ rfl rfl rfl HO.out rfl rfl (by have := HLE.out; omega) T.O.z ?_; rintro v' w' O' hb' -)
                      refine ⟨⟨k + 1, by omega, by go_num, Lib.hid (by rw [HN1.out]; exact O'), T.low hb' (Nat.le_refl _)⟩, by simp [intOf]; omega⟩
                  · obtain ⟨rfl⟩ : d.n3 = k := by have := HND.out; omega
                    have hx : ¬ d.n3 < s.devs.length := by rw [HND.out]; omega
                    have HAQ : Hid (al = (b2_ ++ recsOf d.n3 (emptyG s) (fun i _ => ⟨5, i, 0⟩)) ++ (s.lks.map (fun x => (⟨7, x, 0⟩ : RecD)) ++ ⟨12, 0, 0⟩ :: (if s.ph = 8 then [] else [⟨1, 6, 0⟩]))) := Lib.hid (by rw [HA2.out, List.append_assoc])
                    have HL3 : Hid ((b2_ ++ recsOf d.n3 (emptyG s) (fun i _ => ⟨5, i, 0⟩)).length ≤ 37) := Lib.hid (by have := HL2.out; have := HSZ.out; have := recsOf_le d.n3 (emptyG s) (fun i _ => (⟨5, i, 0⟩ : RecD)); rw [List.length_append]; omega)
                    generalize hR : b2_ ++ recsOf d.n3 (emptyG s) (fun i _ => ⟨5, i, 0⟩) = b3_ at HAQ HL3 HO
                    clear hR
                    have HA3 := HAQ
                    clear HAQ
                    have HT := Lib.hid T
                    clear T
                    go_wp2_with fail
                    go_loopw [8, 12] (fun v j wr => ∃ k : Nat, k ≤ s.lks.length ∧ j = .int .i64 k ∧ Hid (OR wr (w.heap.size + 2) v (b3_ ++ (s.lks.take k).map (fun x => (⟨7, x, 0⟩ : RecD)))) ∧ Two w wr (planC P0 P1 P2 P3 d.n0 k0 d.n1 k1 d.n2 k2 d.n3 k3 d.l d.p d.t) (stC A0 A1 A2 A3 s.pods.length c0 s.mnts.length c1 s.devs.length c2 s.lks.length c3 s.ph s.co s.ck s.bo s.ba s.lb s.gd s.pr)) (fun _ j _ => s.lks.length - (intOf j).toNat)
                    case atStart => exact ⟨0, Nat.zero_le _, rfl, Lib.hid (by rw [List.take_zero, List.map_nil, List.append_nil]; exact HO.out), HT.out⟩
                    case round =>
                      clear HO HT hC hD
                      obtain ⟨k, hk, rfl, HO, T⟩ := hrel
                      have hC := T.A.C
                      have hD := T.O.C
                      by_cases hlt : k < s.lks.length
                      · obtain ⟨b', off', rfl, hb', hc⟩ := (R3.out.below T.A.K (Nat.le_refl _)).cell hlt
                        have p0 := (hc 0 (by decide)).trans (lkCs_at s.lks (i := k * 1 + 0) (by omega))
                        rw [Nat.add_zero, Nat.mul_one] at p0
                        clear hc
                        have HN1 : Hid (b3_ ++ (s.lks.take (k + 1)).map (fun x => (⟨7, x, 0⟩ : RecD)) = (b3_ ++ (s.lks.take k).map (fun x => (⟨7, x, 0⟩ : RecD))) ++ [⟨7, lkA s.lks k, 0⟩]) := Lib.hid (by
                          rw [List.append_assoc, take_at (i := lkA s.lks k) (by rw [List.getElem?_eq_getElem hlt]; simp [lkA, List.getD, List.getElem?_eq_getElem hlt]), List.map_append]
                          rfl)
                        have HLE : Hid ((b3_ ++ (s.lks.take k).map (fun x => (⟨7, x, 0⟩ : RecD))).length ≤ 46) := Lib.hid (by
                          have := HL3.out
                          have hf := HLK.out
                          rw [List.length_append, List.length_map, List.length_take]
                          omega)
                        generalize lkA s.lks k = x at p0 HN1
                        generalize hR : b3_ ++ (s.lks.take k).map (fun x => (⟨7, x, 0⟩ : RecD)) = done at HN1 HLE HO
                        clear hR
                        go_wp2_with (at_builtin; refine append_rec 7 x 0 _ _ rfl rfl rfl HO.out rfl rfl (by have := HLE.out; omega) T.O.z ?_; rintro v' w' O' hb' -)
                        refine ⟨⟨k + 1, by omega, by go_num, Lib.hid (by rw [HN1.out]; exact O'), T.low hb' (Nat.le_refl _)⟩, by simp [intOf]; omega⟩
                      · obtain rfl : k = s.lks.length := by omega
                        rw [List.take_length] at HO
                        have HAQ : Hid (al = (b3_ ++ s.lks.map (fun x => (⟨7, x, 0⟩ : RecD))) ++ (⟨12, 0, 0⟩ :: (if s.ph = 8 then [] else [⟨1, 6, 0⟩]))) := Lib.hid (by rw [HA3.out, List.append_assoc])
                        have HL4 : Hid ((b3_ ++ s.lks.map (fun x => (⟨7, x, 0⟩ : RecD))).length ≤ 46) := Lib.hid (by have := HL3.out; have := HLK.out; rw [List.length_append, List.length_map]; omega)
                        generalize hR : b3_ ++ s.lks.map (fun x => (⟨7, x, 0⟩ : RecD)) = b4_ at HAQ HL4 HO
                        clear hR
                        cases h8 : (s.ph != 8)
                        · have H8 : Hid (s.ph = 8) := Lib.hid (by simpa using h8)
                          go_wp2_with (at_builtin; refine append_rec 12 0 0 _ _ rfl rfl rfl HO.out rfl rfl (by have := HL4.out; omega) T.O.z ?_; rintro v' w' O' hb' -; have T' := T.low hb' (Nat.le_refl _); have hC' := T'.A.C; have hD' := T'.O.C)
                          all_goals (go_ret2; exact ⟨_, rfl, by show OR _ _ _ al; rw [HAQ.out, if_pos H8.out]; exact O'.base (by omega), (T.low hb' (Nat.le_refl _)).A.K⟩)
                        · have H8 : Hid (¬ s.ph = 8) := Lib.hid (by simpa using h8)
                          go_wp2_with (first
                            | (at_builtin; refine append_rec 1 6 0 _ _ rfl rfl rfl O' rfl rfl (by rw [List.length_append]; have := HL4.out; simp; omega) T'.O.z ?_; rintro v9 w9 O9 hb9 -)
                            | (at_builtin; refine append_rec 12 0 0 _ _ rfl rfl rfl HO.out rfl rfl (by have := HL4.out; omega) T.O.z ?_; rintro v' w' O' hb' -; have T' := T.low hb' (Nat.le_refl _); have hC' := T'.A.C; have hD' := T'.O.C))
                          all_goals (go_ret2; exact ⟨_, rfl, by show OR _ _ _ al; rw [HAQ.out, if_neg H8.out]; simpa [List.append_assoc] using O9.base (by omega), (T'.low hb9 (Nat.le_refl _)).A.K⟩)

end Go.Proofs.YtdkmhaghnfhajaaGreat
/- Wm -/
set_option linter.unusedVariables false
namespace Go.Proofs.YtdkmhaghnfhajaaGreat
open Go.RowKit

set_option maxRecDepth 4000 in
set_option maxHeartbeats 16000000 in
theorem probeRecs_any (pv sv : Value) (d : PlanD) (s : StD) (good : Bool) (w : World) (hp : IsPlan w w.heap.size pv d) (hs : IsSt w w.heap.size sv s) :
    Calls Tryz.prog 38 #[pv, sv, .bool good] w (RecsA w (if stOkB d s then probeD d s good else noR 1)) := by
  have HP := Lib.hid hp
  have HS := Lib.hid hs
  obtain ⟨⟨P0, P1, P2, P3, k0, k1, k2, k3, rfl, s0, s1, s2, s3⟩, b0, b1, b2, b3⟩ := hp
  obtain ⟨⟨A0, A1, A2, A3, c0, c1, c2, c3, rfl, t0, t1, t2, t3⟩, f0, f1, f2, f3⟩ := hs
  have S0 := Lib.hid s0
  have S1 := Lib.hid s1
  have S2 := Lib.hid s2
  have S3 := Lib.hid s3
  have R0 := Lib.hid t0
  have R1 := Lib.hid t1
  have R2 := Lib.hid t2
  have R3 := Lib.hid t3
  unfold maxLen at b0 b1 b2 b3 f0 f1 f2 f3
  clear s0 s1 s2 s3 t0 t1 t2 t3
  have T0 := Two.start w (planC P0 P1 P2 P3 d.n0 k0 d.n1 k1 d.n2 k2 d.n3 k3 d.l d.p d.t) (stC A0 A1 A2 A3 s.pods.length c0 s.mnts.length c1 s.devs.length c2 s.lks.length c3 s.ph s.co s.ck s.bo s.ba s.lb s.gd s.pr) 29 38
  obtain ⟨ans, hans⟩ : ∃ ans, (if stOkB d s then probeD d s good else noR 1) = ans := ⟨_, rfl⟩
  rw [hans]
  have HANS := Lib.hid hans
  clear hans
  go_enter Tryz.func38, Tryz.ntmps38
  go_wp2_with fail
  refine (specStateOk_any _ _ d s _ ((HP.out.below T0.A.K (Nat.le_refl _)).more T0.A.K.size) ((HS.out.below T0.A.K (Nat.le_refl _)).more T0.A.K.size)).mono ?_
  rintro e w1 ⟨rfl, hb⟩
  have T1 := T0.step hb
  have hC := T1.A.C
  have hD := T1.O.C
  clear hb T0
  cases hok : stOkB d s
  · have OKB : Hid (¬ stOkB d s = true) := Lib.hid (by rw [hok]; decide)
    clear hok
    go_wp2_with fail
    refine (l10No_any 1 _).mono ?_
    rintro e w9 hR
    obtain ⟨v9, rfl, O9, K9⟩ := hR.back T1.A.K
    go_wp2
    all_goals (go_ret2; rw [← HANS.out, if_neg OKB.out]; exact ⟨v9, rfl, O9, K9⟩)
  · have OK := Lib.hid (stOkB_iff.1 hok)
    have HANS2 : Hid (ans = probeD d s good) := Lib.hid (by rw [← HANS.out, if_pos hok])
    clear hok HANS
    have hgd := OK.out.gd
    have hpr := OK.out.pr
    have htm := (times_ok OK.out.plan).2
    have hz := T1.A.z
    have hz' := T1.O.z
    cases h6 : (s.ph != 6)
    · have H6 : Hid (s.ph = 6) := Lib.hid (by simpa using h6)
      have H1 : Hid (s.ph = 6 ∨ s.ph = 7) := Lib.hid (.inl H6.out)
      have h8 : (s.ph == 6) = true := by simpa using H6.out
      cases good
      · have hn1 : ¬ d.p ≤ 0 := by omega
        have HANS3 : Hid (ans = ([⟨12, 0, s.pr + 1⟩] ++ (if d.p ≤ 0 then [⟨1, 0, 0⟩] else if d.t ≤ s.pr + 1 then [⟨1, 8, 0⟩] else if s.ph = 6 then [⟨1, 7, 0⟩] else []), 0)) := Lib.hid (by rw [HANS2.out, probeD, if_pos H1.out, probeL]; rfl)
        have HO : Hid (OR (w1.alloc (.cells #[.int .i64 12, .int .i64 (0), .int .i64 (s.pr + 1)] 60)) (w.heap.size + 2) (.slice (some ⟨w1.heap.size, 0, none⟩) 1 1) [⟨12, 0, s.pr + 1⟩]) := Lib.hid (OR.first T1.O.z 12 (0) (s.pr + 1))
        have HT := Lib.hid (T1.step ((Below.refl _ _).alloc (Nat.le_refl _) (.cells #[.int .i64 12, .int .i64 (0), .int .i64 (s.pr + 1)] 60)))
        by_cases c1 : d.p ≤ 0
        · have C1 := Lib.hid c1
          exact absurd c1 hn1
        · have C1 := Lib.hid c1
          by_cases c2 : d.t ≤ s.pr + 1
          · have C2 := Lib.hid c2
            go_wp2_with (at_builtin; refine append_rec 1 8 0 _ _ rfl rfl rfl HO.out (by simp) rfl (by simp) HT.out.O.z ?_; rintro v' w' O' hb' -)
            all_goals (go_ret2; rw [HANS3.out, if_neg (by have := C1.out; omega), if_pos (by have := C2.out; omega)]; exact ⟨_, rfl, O'.base (by omega), (HT.out.low hb' (Nat.le_refl _)).A.K⟩)
          · have C2 := Lib.hid c2
            go_wp2_with (at_builtin; refine append_rec 1 7 0 _ _ rfl rfl rfl HO.out (by simp) rfl (by simp) HT.out.O.z ?_; rintro v' w' O' hb' -)
            all_goals (go_ret2; rw [HANS3.out, if_neg (by have := C1.out; omega), if_neg (by have := C2.out; omega), if_pos H6.out]; exact ⟨_, rfl, O'.base (by omega), (HT.out.low hb' (Nat.le_refl _)).A.K⟩)
      · have HANS3 : Hid (ans = ([⟨12, s.gd + 1, s.pr + 1⟩] ++ (if d.p ≤ s.gd + 1 then [⟨1, 0, 0⟩] else if d.t ≤ s.pr + 1 then [⟨1, 8, 0⟩] else if s.ph = 6 then [⟨1, 7, 0⟩] else []), 0)) := Lib.hid (by rw [HANS2.out, probeD, if_pos H1.out, probeL]; rfl)
        have HO : Hid (OR (w1.alloc (.cells #[.int .i64 12, .int .i64 (s.gd + 1), .int .i64 (s.pr + 1)] 60)) (w.heap.size + 2) (.slice (some ⟨w1.heap.size, 0, none⟩) 1 1) [⟨12, s.gd + 1, s.pr + 1⟩]) := Lib.hid (OR.first T1.O.z 12 (s.gd + 1) (s.pr + 1))
        have HT := Lib.hid (T1.step ((Below.refl _ _).alloc (Nat.le_refl _) (.cells #[.int .i64 12, .int .i64 (s.gd + 1), .int .i64 (s.pr + 1)] 60)))
        by_cases c1 : d.p ≤ s.gd + 1
        · have C1 := Lib.hid c1
          go_wp2_with (at_builtin; refine append_rec 1 0 0 _ _ rfl rfl rfl HO.out (by simp) rfl (by simp) HT.out.O.z ?_; rintro v' w' O' hb' -)
          all_goals (go_ret2; rw [HANS3.out, if_pos (by have := C1.out; omega)]; exact ⟨_, rfl, O'.base (by omega), (HT.out.low hb' (Nat.le_refl _)).A.K⟩)
        · have C1 := Lib.hid c1
          by_cases c2 : d.t ≤ s.pr + 1
          · have C2 := Lib.hid c2
            go_wp2_with (at_builtin; refine append_rec 1 8 0 _ _ rfl rfl rfl HO.out (by simp) rfl (by simp) HT.out.O.z ?_; rintro v' w' O' hb' -)
            all_goals (go_ret2; rw [HANS3.out, if_neg (by have := C1.out; omega), if_pos (by have := C2.out; omega)]; exact ⟨_, rfl, O'.base (by omega), (HT.out.low hb' (Nat.le_refl _)).A.K⟩)
          · have C2 := Lib.hid c2
            go_wp2_with (at_builtin; refine append_rec 1 7 0 _ _ rfl rfl rfl HO.out (by simp) rfl (by simp) HT.out.O.z ?_; rintro v' w' O' hb' -)
            all_goals (go_ret2; rw [HANS3.out, if_neg (by have := C1.out; omega), if_neg (by have := C2.out; omega), if_pos H6.out]; exact ⟨_, rfl, O'.base (by omega), (HT.out.low hb' (Nat.le_refl _)).A.K⟩)
    · have H6 : Hid (¬ s.ph = 6) := Lib.hid (by simpa using h6)
      have h8 : (s.ph == 6) = false := by simpa using H6.out
      cases h7 : (s.ph != 7)
      · have H1 : Hid (s.ph = 6 ∨ s.ph = 7) := Lib.hid (.inr (by simpa using h7))
        cases good
        · have hn1 : ¬ d.p ≤ 0 := by omega
          have HANS3 : Hid (ans = ([⟨12, 0, s.pr + 1⟩] ++ (if d.p ≤ 0 then [⟨1, 0, 0⟩] else if d.t ≤ s.pr + 1 then [⟨1, 8, 0⟩] else if s.ph = 6 then [⟨1, 7, 0⟩] else []), 0)) := Lib.hid (by rw [HANS2.out, probeD, if_pos H1.out, probeL]; rfl)
          have HO : Hid (OR (w1.alloc (.cells #[.int .i64 12, .int .i64 (0), .int .i64 (s.pr + 1)] 60)) (w.heap.size + 2) (.slice (some ⟨w1.heap.size, 0, none⟩) 1 1) [⟨12, 0, s.pr + 1⟩]) := Lib.hid (OR.first T1.O.z 12 (0) (s.pr + 1))
          have HT := Lib.hid (T1.step ((Below.refl _ _).alloc (Nat.le_refl _) (.cells #[.int .i64 12, .int .i64 (0), .int .i64 (s.pr + 1)] 60)))
          by_cases c1 : d.p ≤ 0
          · have C1 := Lib.hid c1
            exact absurd c1 hn1
          · have C1 := Lib.hid c1
            by_cases c2 : d.t ≤ s.pr + 1
            · have C2 := Lib.hid c2
              go_wp2_with (at_builtin; refine append_rec 1 8 0 _ _ rfl rfl rfl HO.out (by simp) rfl (by simp) HT.out.O.z ?_; rintro v' w' O' hb' -)
              all_goals (go_ret2; rw [HANS3.out, if_neg (by have := C1.out; omega), if_pos (by have := C2.out; omega)]; exact ⟨_, rfl, O'.base (by omega), (HT.out.low hb' (Nat.le_refl _)).A.K⟩)
            · have C2 := Lib.hid c2
              go_wp2
              all_goals (go_ret2; rw [HANS3.out, if_neg (by have := C1.out; omega), if_neg (by have := C2.out; omega), if_neg H6.out]; exact ⟨_, rfl, HO.out.base (by omega), HT.out.A.K⟩)
        · have HANS3 : Hid (ans = ([⟨12, s.gd + 1, s.pr + 1⟩] ++ (if d.p ≤ s.gd + 1 then [⟨1, 0, 0⟩] else if d.t ≤ s.pr + 1 then [⟨1, 8, 0⟩] else if s.ph = 6 then [⟨1, 7, 0⟩] else []), 0)) := Lib.hid (by rw [HANS2.out, probeD, if_pos H1.out, probeL]; rfl)
          have HO : Hid (OR (w1.alloc (.cells #[.int .i64 12, .int .i64 (s.gd + 1), .int .i64 (s.pr + 1)] 60)) (w.heap.size + 2) (.slice (some ⟨w1.heap.size, 0, none⟩) 1 1) [⟨12, s.gd + 1, s.pr + 1⟩]) := Lib.hid (OR.first T1.O.z 12 (s.gd + 1) (s.pr + 1))
          have HT := Lib.hid (T1.step ((Below.refl _ _).alloc (Nat.le_refl _) (.cells #[.int .i64 12, .int .i64 (s.gd + 1), .int .i64 (s.pr + 1)] 60)))
          by_cases c1 : d.p ≤ s.gd + 1
          · have C1 := Lib.hid c1
            go_wp2_with (at_builtin; refine append_rec 1 0 0 _ _ rfl rfl rfl HO.out (by simp) rfl (by simp) HT.out.O.z ?_; rintro v' w' O' hb' -)
            all_goals (go_ret2; rw [HANS3.out, if_pos (by have := C1.out; omega)]; exact ⟨_, rfl, O'.base (by omega), (HT.out.low hb' (Nat.le_refl _)).A.K⟩)
          · have C1 := Lib.hid c1
            by_cases c2 : d.t ≤ s.pr + 1
            · have C2 := Lib.hid c2
              go_wp2_with (at_builtin; refine append_rec 1 8 0 _ _ rfl rfl rfl HO.out (by simp) rfl (by simp) HT.out.O.z ?_; rintro v' w' O' hb' -)
              all_goals (go_ret2; rw [HANS3.out, if_neg (by have := C1.out; omega), if_pos (by have := C2.out; omega)]; exact ⟨_, rfl, O'.base (by omega), (HT.out.low hb' (Nat.le_refl _)).A.K⟩)
            · have C2 := Lib.hid c2
              go_wp2
              all_goals (go_ret2; rw [HANS3.out, if_neg (by have := C1.out; omega), if_neg (by have := C2.out; omega), if_neg H6.out]; exact ⟨_, rfl, HO.out.base (by omega), HT.out.A.K⟩)
      · have H1 : Hid (¬ (s.ph = 6 ∨ s.ph = 7)) := Lib.hid (by have := H6.out; simp at h7; omega)
        go_wp2_with fail
        refine (l10No_any 3 _).mono ?_
        rintro e w9 hR
        obtain ⟨v9, rfl, O9, K9⟩ := hR.back T1.A.K
        go_wp2
        all_goals (go_ret2; rw [HANS2.out, probeD, if_neg H1.out]; exact ⟨v9, rfl, O9, K9⟩)

end Go.Proofs.YtdkmhaghnfhajaaGreat
