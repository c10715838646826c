/-
  Small things for the law walks of AppliedAll and AppliedRec.
-/
import Derived.Test.YtdphpjnecjofeaaMZ13
import Derived.Test.YtdphpjnecjofeaaMZxWc
import Derived.Test.YtdphpjnecjofeaaMZ10
import Derived.Test.YtdphpjnecjofeaaMZxUl
/- Wl -/
set_option linter.unusedVariables false
namespace Go.Proofs.Ytdphpjnecjofeaa
open Go.RowKit

def bootD (d : PlanD) (s : StD) (id : Int) : List RecD × Int := if inB id 1 1000000 then (if id = s.bo then noR 6 else (bootL d s id, 0)) else noR 1
def probeD (d : PlanD) (s : StD) (good : Bool) : List RecD × Int := if s.ph = 6 ∨ s.ph = 7 then (probeL d s good, 0) else noR 3
set_option maxRecDepth 4000 in
set_option maxHeartbeats 16000000 in
theorem bootRecs_any (pv sv : Value) (d : PlanD) (s : StD) (id : Int) (w : World) (hp : IsPlan w w.heap.size pv d) (hs : IsSt w w.heap.size sv s) :
    Calls Try.prog 37 #[pv, sv, .int .i64 id] w (RecsA w (if stOkB d s then bootD d s id else noR 1)) := by
  have HP := Lib.hid hp
  have HS := Lib.hid hs
  obtain ⟨⟨P0, P1, P2, P3, k0, k1, k2, k3, rfl, s0, s1, s2, s3⟩, b0, b1, b2, b3⟩ := hp
  obtain ⟨⟨A0, A1, A2, A3, c0, c1, c2, c3, rfl, t0, t1, t2, t3⟩, f0, f1, f2, f3⟩ := hs
  have S0 := Lib.hid s0
  have S1 := Lib.hid s1
  have S2 := Lib.hid s2
  have S3 := Lib.hid s3
  have R0 := Lib.hid t0
  have R1 := Lib.hid t1
  have R2 := Lib.hid t2
  have R3 := Lib.hid t3
  unfold maxLen at b0 b1 b2 b3 f0 f1 f2 f3
  clear s0 s1 s2 s3 t0 t1 t2 t3
  have T0 := Two.start w (planC P0 P1 P2 P3 d.n0 k0 d.n1 k1 d.n2 k2 d.n3 k3 d.l d.p d.t) (stC A0 A1 A2 A3 s.pods.length c0 s.mnts.length c1 s.devs.length c2 s.lks.length c3 s.ph s.co s.ck s.bo s.ba s.lb s.gd s.pr) 41 46
  obtain ⟨ans, hans⟩ : ∃ ans, (if stOkB d s then bootD d s id else noR 1) = ans := ⟨_, rfl⟩
  rw [hans]
  have HANS := Lib.hid hans
  clear hans
  go_enter Try.func37, Try.ntmps37
  go_wp2_with fail
  refine (specStateOk_any _ _ d s _ ((HP.out.below T0.A.K (Nat.le_refl _)).more T0.A.K.size) ((HS.out.below T0.A.K (Nat.le_refl _)).more T0.A.K.size)).mono ?_
  rintro e w1 ⟨rfl, hb⟩
  have T1 := T0.step hb
  have hC := T1.A.C
  have hD := T1.O.C
  clear hb T0
  cases hok : stOkB d s
  · have OKB : Hid (¬ stOkB d s = true) := Lib.hid (by rw [hok]; decide)
    clear hok
    go_wp2_with fail
    refine (l10No_any 1 _).mono ?_
    rintro e w9 hR
    obtain ⟨v9, rfl, O9, K9⟩ := hR.back T1.A.K
    go_wp2
    all_goals (go_ret2; rw [← HANS.out, if_neg OKB.out]; exact ⟨v9, rfl, O9, K9⟩)
  · have OK := Lib.hid (stOkB_iff.1 hok)
    have HANS2 : Hid (ans = bootD d s id) := Lib.hid (by rw [← HANS.out, if_pos hok])
    clear hok HANS
    go_wp2_with fail
    refine (in_any _ _ _ _).mono ?_
    rintro e w2 ⟨rfl, rfl⟩
    cases hin : inB id 1 1000000
    · have HIN : Hid (¬ inB id 1 1000000 = true) := Lib.hid (by rw [hin]; decide)
      clear hin
      go_wp2_with fail
      refine (l10No_any 1 _).mono ?_
      rintro e w9 hR
      obtain ⟨v9, rfl, O9, K9⟩ := hR.back T1.A.K
      go_wp2
      all_goals (go_ret2; rw [HANS2.out, bootD, if_neg HIN.out]; exact ⟨v9, rfl, O9, K9⟩)
    · have HIN := Lib.hid hin
      clear hin
      cases hb : (id == s.bo)
      case true =>
        have HB : Hid (id = s.bo) := Lib.hid (by simpa using hb)
        go_wp2_with fail
        refine (l10No_any 6 _).mono ?_
        rintro e w9 hR
        obtain ⟨v9, rfl, O9, K9⟩ := hR.back T1.A.K
        go_wp2
        all_goals (go_ret2; rw [HANS2.out, bootD, if_pos HIN.out, if_pos HB.out]; exact ⟨v9, rfl, O9, K9⟩)
      case false =>
        have HB : Hid (¬ id = s.bo) := Lib.hid (by simpa using hb)
        have HANS3 : Hid (ans = (bootL d s id, 0)) := Lib.hid (by rw [HANS2.out, bootD, if_pos HIN.out, if_neg HB.out])
        obtain ⟨al, ac⟩ := ans
        obtain rfl : ac = 0 := congrArg Prod.snd HANS3.out
        have HA0 : Hid (al = [⟨10, id, 0⟩] ++ (recsOf d.n0 (failG s) (fun i x => ⟨2, i, x⟩) ++ (recsOf d.n2 (looseG s) mntRec ++ (recsOf d.n3 (emptyG s) (fun i _ => ⟨5, i, 0⟩) ++ (s.lks.map (fun x => (⟨7, x, 0⟩ : RecD)) ++ ⟨12, 0, 0⟩ :: (if s.ph = 8 then [] else [⟨1, 6, 0⟩])))))) := Lib.hid ((congrArg Prod.fst HANS3.out).trans rfl)
        have HNP := Lib.hid OK.out.np
        have HNM := Lib.hid OK.out.nm
        have HND := Lib.hid OK.out.nd
        have HSZ := Lib.hid (size_ok OK.out.plan)
        have HLK : Hid (s.lks.length ≤ 8) := Lib.hid (by have := rise_len (a := 0) OK.out.rise OK.out.lks (by omega); omega)
        have O2 : OR (w1.alloc (.cells #[.int .i64 10, .int .i64 id, .int .i64 0] 80)) (w.heap.size + 2) (.slice (some ⟨w1.heap.size, 0, none⟩) 1 1) [⟨10, id, 0⟩] := OR.first T1.O.z 10 id 0
        have HO := Lib.hid O2
        have HT := Lib.hid (T1.step ((Below.refl _ _).alloc (Nat.le_refl _) (.cells #[.int .i64 10, .int .i64 id, .int .i64 0] 80)))
        have HL0 : Hid (([⟨10, id, 0⟩] : List RecD).length ≤ 1) := Lib.hid (by simp)
        have hz := T1.A.z
        have hz' := T1.O.z
        generalize ([⟨10, id, 0⟩] : List RecD) = b0_ at HA0 HO HL0
        clear HANS2 HANS3 O2
        go_wp2_with fail
        go_loopw [8, 9] (fun v j wr => ∃ k : Nat, k ≤ s.pods.length ∧ j = .int .i64 k ∧ Hid (OR wr (w.heap.size + 2) v (b0_ ++ recsOf k (failG s) (fun i x => ⟨2, i, x⟩))) ∧ Two w wr (planC P0 P1 P2 P3 d.n0 k0 d.n1 k1 d.n2 k2 d.n3 k3 d.l d.p d.t) (stC A0 A1 A2 A3 s.pods.length c0 s.mnts.length c1 s.devs.length c2 s.lks.length c3 s.ph s.co s.ck s.bo s.ba s.lb s.gd s.pr)) (fun _ j _ => s.pods.length - (intOf j).toNat)
        case atStart => exact ⟨0, Nat.zero_le _, rfl, Lib.hid (by rw [recsOf_zero, List.append_nil]; exact HO.out), HT.out⟩
        case round =>
          clear HO HT hC hD
          obtain ⟨k, hk, rfl, HO, T⟩ := hrel
          have hC := T.A.C
          have hD := T.O.C
          by_cases hlt : k < s.pods.length
          · obtain ⟨b', off', rfl, hb', hc⟩ := (R0.out.below T.A.K (Nat.le_refl _)).cell hlt
            have p0 := (hc 0 (by decide)).trans (podCs_at s.pods (i := k) hlt).1
            rw [Nat.add_zero] at p0
            clear hc
            have HN1 : Hid (b0_ ++ recsOf (k + 1) (failG s) (fun i x => ⟨2, i, x⟩) = (b0_ ++ recsOf k (failG s) (fun i x => ⟨2, i, x⟩)) ++ (if aliveB (podA s.pods k).1 then [⟨2, k, 5⟩] else [])) := Lib.hid (by
              rw [recsOf_next, List.append_assoc]
              have : failG s k = if aliveB (podA s.pods k).1 then some 5 else none := rfl
              rw [this]
              cases aliveB (podA s.pods k).1 <;> rfl)
            have HLE : Hid ((b0_ ++ recsOf k (failG s) (fun i x => ⟨2, i, x⟩)).length ≤ 13) := Lib.hid (by have := recsOf_le k (failG s) (fun i x => (⟨2, i, x⟩ : RecD)); have := HL0.out; have := HNP.out; have := HSZ.out; rw [List.length_append]; omega)
            generalize (podA s.pods k).1 = x at p0 HN1
            generalize hR : b0_ ++ recsOf k (failG s) (fun i x => ⟨2, i, x⟩) = done at HN1 HLE HO
            clear hR
            go_wp2_with fail
            refine (alive_any _ _).mono ?_
            rintro e w9 ⟨rfl, rfl⟩
            cases ha : aliveB x
            · have HA := Lib.hid ha
              clear ha
              go_wp2
              refine ⟨⟨k + 1, by omega, by go_num, Lib.hid (by rw [HN1.out, HA.out]; simpa using HO.out), T⟩, by simp [intOf]; omega⟩
            · have HA := Lib.hid ha
              clear ha
              go_wp2_with (at_builtin; refine append_rec 2 k 5 _ _ rfl rfl rfl HO.out rfl rfl (by have := HLE.out; omega) T.O.z ?_; rintro v' w' O' hb' -)
              refine ⟨⟨k + 1, by omega, by go_num, Lib.hid (by rw [HN1.out, HA.out, if_pos rfl]; exact O'), T.low hb' (Nat.le_refl _)⟩, by simp [intOf]; omega⟩
          · obtain ⟨rfl⟩ : d.n0 = k := by have := HNP.out; omega
            have hx : ¬ d.n0 < s.pods.length := by rw [HNP.out]; omega
            have HAQ : Hid (al = (b0_ ++ recsOf d.n0 (failG s) (fun i x => ⟨2, i, x⟩)) ++ (recsOf d.n2 (looseG s) mntRec ++ (recsOf d.n3 (emptyG s) (fun i _ => ⟨5, i, 0⟩) ++ (s.lks.map (fun x => (⟨7, x, 0⟩ : RecD)) ++ ⟨12, 0, 0⟩ :: (if s.ph = 8 then [] else [⟨1, 6, 0⟩]))))) := Lib.hid (by rw [HA0.out, List.append_assoc])
            have HL1 : Hid ((b0_ ++ recsOf d.n0 (failG s) (fun i x => ⟨2, i, x⟩)).length ≤ 13) := Lib.hid (by have := HL0.out; have := HSZ.out; have := recsOf_le d.n0 (failG s) (fun i x => (⟨2, i, x⟩ : RecD)); rw [List.length_append]; omega)
            generalize hR : b0_ ++ recsOf d.n0 (failG s) (fun i x => ⟨2, i, x⟩) = b1_ at HAQ HL1 HO
            clear hR
            have HA1 := HAQ
            clear HAQ
            have HT := Lib.hid T
            clear T
            go_wp2_with fail
            go_loopw [8, 10] (fun v j wr => ∃ k : Nat, k ≤ s.mnts.length ∧ j = .int .i64 k ∧ Hid (OR wr (w.heap.size + 2) v (b1_ ++ recsOf k (looseG s) mntRec)) ∧ Two w wr (planC P0 P1 P2 P3 d.n0 k0 d.n1 k1 d.n2 k2 d.n3 k3 d.l d.p d.t) (stC A0 A1 A2 A3 s.pods.length c0 s.mnts.length c1 s.devs.length c2 s.lks.length c3 s.ph s.co s.ck s.bo s.ba s.lb s.gd s.pr)) (fun _ j _ => s.mnts.length - (intOf j).toNat)
            case atStart => exact ⟨0, Nat.zero_le _, rfl, Lib.hid (by rw [recsOf_zero, List.append_nil]; exact HO.out), HT.out⟩
            case round =>
              clear HO HT hC hD
              obtain ⟨k, hk, rfl, HO, T⟩ := hrel
              have hC := T.A.C
              have hD := T.O.C
              by_cases hlt : k < s.mnts.length
              · obtain ⟨b', off', rfl, hb', hc⟩ := (R1.out.below T.A.K (Nat.le_refl _)).cell hlt
                have p0 := (hc 0 (by decide)).trans (mntCs_at s.mnts (i := k) hlt).1
                rw [Nat.add_zero] at p0
                clear hc
                have HN1 : Hid (b1_ ++ recsOf (k + 1) (looseG s) mntRec = (b1_ ++ recsOf k (looseG s) mntRec) ++ (if (mntA s.mnts k).1 then [⟨4, k, 0⟩] else [])) := Lib.hid (by
                  rw [recsOf_next, List.append_assoc]
                  have : looseG s k = if (mntA s.mnts k).1 then some (false, 0) else none := rfl
                  rw [this]
                  cases (mntA s.mnts k).1 <;> rfl)
                have HLE : Hid ((b1_ ++ recsOf k (looseG s) mntRec).length ≤ 24+1) := Lib.hid (by have := recsOf_le k (looseG s) mntRec; have := HL1.out; have := HNM.out; have := HSZ.out; rw [List.length_append]; omega)
                generalize (mntA s.mnts k).1 = x at p0 HN1
                generalize hR : b1_ ++ recsOf k (looseG s) mntRec = done at HN1 HLE HO
                clear hR
                cases x
                · go_wp2
                  refine ⟨⟨k + 1, by omega, by go_num, Lib.hid (by rw [HN1.out]; simpa using HO.out), T⟩, by simp [intOf]; omega⟩
                · go_wp2_with (at_builtin; refine append_rec 4 k 0 _ _ rfl rfl rfl HO.out rfl rfl (by have := HLE.out; omega) T.O.z ?_; rintro v' w' O' hb' -)
                  refine ⟨⟨k + 1, by omega, by go_num, Lib.hid (by rw [HN1.out]; exact O'), T.low hb' (Nat.le_refl _)⟩, by simp [intOf]; omega⟩
              · obtain ⟨rfl⟩ : d.n2 = k := by have := HNM.out; omega
                have hx : ¬ d.n2 < s.mnts.length := by rw [HNM.out]; omega
                have HAQ : Hid (al = (b1_ ++ recsOf d.n2 (looseG s) mntRec) ++ (recsOf d.n3 (emptyG s) (fun i _ => ⟨5, i, 0⟩) ++ (s.lks.map (fun x => (⟨7, x, 0⟩ : RecD)) ++ ⟨12, 0, 0⟩ :: (if s.ph = 8 then [] else [⟨1, 6, 0⟩])))) := Lib.hid (by rw [HA1.out, List.append_assoc])
                have HL2 : Hid ((b1_ ++ recsOf d.n2 (looseG s) mntRec).length ≤ 25) := Lib.hid (by have := HL1.out; have := HSZ.out; have := recsOf_le d.n2 (looseG s) (mntRec); rw [List.length_append]; omega)
                generalize hR : b1_ ++ recsOf d.n2 (looseG s) mntRec = b2_ at HAQ HL2 HO
                clear hR
                have HA2 := HAQ
                clear HAQ
                have HT := Lib.hid T
                clear T
                go_wp2_with fail
                go_loopw [8, 11] (fun v j wr => ∃ k : Nat, k ≤ s.devs.length ∧ j = .int .i64 k ∧ Hid (OR wr (w.heap.size + 2) v (b2_ ++ recsOf k (emptyG s) (fun i _ => ⟨5, i, 0⟩))) ∧ Two w wr (planC P0 P1 P2 P3 d.n0 k0 d.n1 k1 d.n2 k2 d.n3 k3 d.l d.p d.t) (stC A0 A1 A2 A3 s.pods.length c0 s.mnts.length c1 s.devs.length c2 s.lks.length c3 s.ph s.co s.ck s.bo s.ba s.lb s.gd s.pr)) (fun _ j _ => s.devs.length - (intOf j).toNat)
                case atStart => exact ⟨0, Nat.zero_le _, rfl, Lib.hid (by rw [recsOf_zero, List.append_nil]; exact HO.out), HT.out⟩
                case round =>
                  clear HO HT hC hD
                  obtain ⟨k, hk, rfl, HO, T⟩ := hrel
                  have hC := T.A.C
                  have hD := T.O.C
                  by_cases hlt : k < s.devs.length
                  · obtain ⟨b', off', rfl, hb', hc⟩ := (R2.out.below T.A.K (Nat.le_refl _)).cell hlt
                    have p0 := (hc 0 (by decide)).trans (devCs_at s.devs (i := k * 1 + 0) (by omega))
                    rw [Nat.add_zero, Nat.mul_one] at p0
                    clear hc
                    have HN1 : Hid (b2_ ++ recsOf (k + 1) (emptyG s) (fun i _ => ⟨5, i, 0⟩) = (b2_ ++ recsOf k (emptyG s) (fun i _ => ⟨5, i, 0⟩)) ++ (if devA s.devs k then [⟨5, k, 0⟩] else [])) := Lib.hid (by
                      rw [recsOf_next, List.append_assoc]
                      have : emptyG s k = if devA s.devs k then some () else none := rfl
                      rw [this]
                      cases devA s.devs k <;> rfl)
                    have HLE : Hid ((b2_ ++ recsOf k (emptyG s) (fun i _ => ⟨5, i, 0⟩)).length ≤ 36+1) := Lib.hid (by have := recsOf_le k (emptyG s) (fun i _ => (⟨5, i, 0⟩ : RecD)); have := HL2.out; have := HND.out; have := HSZ.out; rw [List.length_append]; omega)
                    generalize devA s.devs k = x at p0 HN1
                    generalize hR : b2_ ++ recsOf k (emptyG s) (fun i _ => ⟨5, i, 0⟩) = done at HN1 HLE HO
                    clear hR
                    cases x
                    · go_wp2
                      refine ⟨⟨k + 1, by omega, by go_num, Lib.hid (by rw [HN1.out]; simpa using HO.out), T⟩, by simp [intOf]; omega⟩
                    · go_wp2_with (at_builtin; refine append_rec 5 k 0 _ _ rfl rfl rfl HO.out rfl rfl (by have := HLE.out; omega) T.O.z ?_; rintro v' w' O' hb' -)
                      refine ⟨⟨k + 1, by omega, by go_num, Lib.hid (by rw [HN1.out]; exact O'), T.low hb' (Nat.le_refl _)⟩, by simp [intOf]; omega⟩
                  · obtain ⟨rfl⟩ : d.n3 = k := by have := HND.out; omega
                    have hx : ¬ d.n3 < s.devs.length := by rw [HND.out]; omega
                    have HAQ : Hid (al = (b2_ ++ recsOf d.n3 (emptyG s) (fun i _ => ⟨5, i, 0⟩)) ++ (s.lks.map (fun x => (⟨7, x, 0⟩ : RecD)) ++ ⟨12, 0, 0⟩ :: (if s.ph = 8 then [] else [⟨1, 6, 0⟩]))) := Lib.hid (by rw [HA2.out, List.append_assoc])
                    have HL3 : Hid ((b2_ ++ recsOf d.n3 (emptyG s) (fun i _ => ⟨5, i, 0⟩)).length ≤ 37) := Lib.hid (by have := HL2.out; have := HSZ.out; have := recsOf_le d.n3 (emptyG s) (fun i _ => (⟨5, i, 0⟩ : RecD)); rw [List.length_append]; omega)
                    generalize hR : b2_ ++ recsOf d.n3 (emptyG s) (fun i _ => ⟨5, i, 0⟩) = b3_ at HAQ HL3 HO
                    clear hR
                    have HA3 := HAQ
                    clear HAQ
                    have HT := Lib.hid T
                    clear T
                    go_wp2_with fail
                    go_loopw [8, 12] (fun v j wr => ∃ k : Nat, k ≤ s.lks.length ∧ j = .int .i64 k ∧ Hid (OR wr (w.heap.size + 2) v (b3_ ++ (s.lks.take k).map (fun x => (⟨7, x, 0⟩ : RecD)))) ∧ Two w wr (planC P0 P1 P2 P3 d.n0 k0 d.n1 k1 d.n2 k2 d.n3 k3 d.l d.p d.t) (stC A0 A1 A2 A3 s.pods.length c0 s.mnts.length c1 s.devs.length c2 s.lks.length c3 s.ph s.co s.ck s.bo s.ba s.lb s.gd s.pr)) (fun _ j _ => s.lks.length - (intOf j).toNat)
                    case atStart => exact ⟨0, Nat.zero_le _, rfl, Lib.hid (by rw [List.take_zero, List.map_nil, List.append_nil]; exact HO.out), HT.out⟩
                    case round =>
                      clear HO HT hC hD
                      obtain ⟨k, hk, rfl, HO, T⟩ := hrel
                      have hC := T.A.C
                      have hD := T.O.C
                      by_cases hlt : k < s.lks.length
                      · obtain ⟨b', off', rfl, hb', hc⟩ := (R3.out.below T.A.K (Nat.le_refl _)).cell hlt
                        have p0 := (hc 0 (by decide)).trans (lkCs_at s.lks (i := k * 1 + 0) (by omega))
                        rw [Nat.add_zero, Nat.mul_one] at p0
                        clear hc
                        have HN1 : Hid (b3_ ++ (s.lks.take (k + 1)).map (fun x => (⟨7, x, 0⟩ : RecD)) = (b3_ ++ (s.lks.take k).map (fun x => (⟨7, x, 0⟩ : RecD))) ++ [⟨7, lkA s.lks k, 0⟩]) := Lib.hid (by
                          rw [List.append_assoc, take_at (i := lkA s.lks k) (by rw [List.getElem?_eq_getElem hlt]; simp [lkA, List.getD, List.getElem?_eq_getElem hlt]), List.map_append]
                          rfl)
                        have HLE : Hid ((b3_ ++ (s.lks.take k).map (fun x => (⟨7, x, 0⟩ : RecD))).length ≤ 46) := Lib.hid (by
                          have := HL3.out
                          have hf := HLK.out
                          rw [List.length_append, List.length_map, List.length_take]
                          omega)
                        generalize lkA s.lks k = x at p0 HN1
                        generalize hR : b3_ ++ (s.lks.take k).map (fun x => (⟨7, x, 0⟩ : RecD)) = done at HN1 HLE HO
                        clear hR
                        go_wp2_with (at_builtin; refine append_rec 7 x 0 _ _ rfl rfl rfl HO.out rfl rfl (by have := HLE.out; omega) T.O.z ?_; rintro v' w' O' hb' -)
                        refine ⟨⟨k + 1, by omega, by go_num, Lib.hid (by rw [HN1.out]; exact O'), T.low hb' (Nat.le_refl _)⟩, by simp [intOf]; omega⟩
                      · obtain rfl : k = s.lks.length := by omega
                        rw [List.take_length] at HO
                        have HAQ : Hid (al = (b3_ ++ s.lks.map (fun x => (⟨7, x, 0⟩ : RecD))) ++ (⟨12, 0, 0⟩ :: (if s.ph = 8 then [] else [⟨1, 6, 0⟩]))) := Lib.hid (by rw [HA3.out, List.append_assoc])
                        have HL4 : Hid ((b3_ ++ s.lks.map (fun x => (⟨7, x, 0⟩ : RecD))).length ≤ 46) := Lib.hid (by have := HL3.out; have := HLK.out; rw [List.length_append, List.length_map]; omega)
                        generalize hR : b3_ ++ s.lks.map (fun x => (⟨7, x, 0⟩ : RecD)) = b4_ at HAQ HL4 HO
                        clear hR
                        cases h8 : (s.ph != 8)
                        · have H8 : Hid (s.ph = 8) := Lib.hid (by simpa using h8)
                          go_wp2_with (at_builtin; refine append_rec 12 0 0 _ _ rfl rfl rfl HO.out rfl rfl (by have := HL4.out; omega) T.O.z ?_; rintro v' w' O' hb' -; have T' := T.low hb' (Nat.le_refl _); have hC' := T'.A.C; have hD' := T'.O.C)
                          all_goals (go_ret2; exact ⟨_, rfl, by show OR _ _ _ al; rw [HAQ.out, if_pos H8.out]; exact O'.base (by omega), (T.low hb' (Nat.le_refl _)).A.K⟩)
                        · have H8 : Hid (¬ s.ph = 8) := Lib.hid (by simpa using h8)
                          go_wp2_with (first
                            | (at_builtin; refine append_rec 1 6 0 _ _ rfl rfl rfl O' rfl rfl (by rw [List.length_append]; have := HL4.out; simp; omega) T'.O.z ?_; rintro v9 w9 O9 hb9 -)
                            | (at_builtin; refine append_rec 12 0 0 _ _ rfl rfl rfl HO.out rfl rfl (by have := HL4.out; omega) T.O.z ?_; rintro v' w' O' hb' -; have T' := T.low hb' (Nat.le_refl _); have hC' := T'.A.C; have hD' := T'.O.C))
                          all_goals (go_ret2; exact ⟨_, rfl, by show OR _ _ _ al; rw [HAQ.out, if_neg H8.out]; simpa [List.append_assoc] using O9.base (by omega), (T'.low hb9 (Nat.le_refl _)).A.K⟩)

end Go.Proofs.Ytdphpjnecjofeaa
/- Ya -/
set_option linter.unusedVariables false
namespace Go.Proofs.Ytdphpjnecjofeaa
open Go.RowKit

set_option maxRecDepth 100000 in
set_option maxHeartbeats 2000000 in
theorem markPlan_num (d : PlanD) (g0 g1 g2 g3 : Nat) (w0 w : World) (h : NewPlan w0 w d g0 g1 g2 g3) (h0 : d.n0 ≤ 1048576) (h1 : d.n1 ≤ 1048576) (h2 : d.n2 ≤ 1048576) (h3 : d.n3 ≤ 1048576) :
    Calls Try.prog 21 #[newPlanV d g0 g1 g2 g3, .int .i64 1] w fun e w' => e = .returned (.int .i64 (1 + 4 * d.n0 + d.n1 + 2 * d.n2 + d.n3)) ∧ Keeps (fun b => g0 ≤ b ∧ b ≤ g3) w w' := by
  obtain ⟨l0, l1, l2, l3, l4, R0, R1, R2, R3⟩ := h
  obtain ⟨n0, n1, n2, n3, x0, x1, x2, x3, l, p, t⟩ := d
  dsimp only at *
  have H0 := Lib.hid h0
  have H1 := Lib.hid h1
  have H2 := Lib.hid h2
  have H3 := Lib.hid h3
  clear h0 h1 h2 h3
  have b0 : (n0 : Int) ≤ 1048576 := by have := H0.out; omega
  have b1 : (n1 : Int) ≤ 1048576 := by have := H1.out; omega
  have b2 : (n2 : Int) ≤ 1048576 := by have := H2.out; omega
  have b3 : (n3 : Int) ≤ 1048576 := by have := H3.out; omega
  go_enter Try.func21, Try.ntmps21
  go_wp2_with fail
  have X := cell_new w (planC (some ⟨g0, 0, none⟩) (some ⟨g1, 0, none⟩) (some ⟨g2, 0, none⟩) (some ⟨g3, 0, none⟩) n0 n0 n1 n1 n2 n2 n3 n3 l p t) 41
  have A1 := (Below.refl w.heap.size w).alloc (Nat.le_refl _) (.cells (planC (some ⟨g0, 0, none⟩) (some ⟨g1, 0, none⟩) (some ⟨g2, 0, none⟩) (some ⟨g3, 0, none⟩) n0 n0 n1 n1 n2 n2 n3 n3 l p t) 41)
  have K1 : Keeps (fun b => g0 ≤ b ∧ b ≤ g3) w _ := Keeps.of_below A1
  have R0 := R0.below A1 (by omega)
  have R1 := R1.below A1 (by omega)
  have R2 := R2.below A1 (by omega)
  have R3 := R3.below A1 (by omega)
  have z1 : w.heap.size < (w.alloc (.cells (planC (some ⟨g0, 0, none⟩) (some ⟨g1, 0, none⟩) (some ⟨g2, 0, none⟩) (some ⟨g3, 0, none⟩) n0 n0 n1 n1 n2 n2 n3 n3 l p t) 41)).heap.size := by simp
  refine (markPodS_any _ n0 _ g0 _ x0 _ (fun _ => rfl) R0 H0.out (by omega) (by omega)).mono ?_
  rintro e w2 ⟨rfl, k⟩
  have hC2 : ∀ o, w2.cell? ⟨w.heap.size, o, none⟩ = _ := fun o => (k.cell (p := ⟨w.heap.size, o, none⟩) z1 (by show ¬ w.heap.size = g0; omega)).trans (X o)
  have R1 := R1.keeps k (by omega) (by omega)
  have R2 := R2.keeps k (by omega) (by omega)
  have R3 := R3.keeps k (by omega) (by omega)
  have K2 := K1.trans (k.mono (T := fun b => g0 ≤ b ∧ b ≤ g3) (by rintro b rfl; omega))
  have z2 := Nat.lt_of_lt_of_le z1 k.size
  clear X A1 K1 R0 z1 k
  go_wp2_with fail
  refine (markInt64S_any _ n1 _ g1 _ x1 _ (fun _ => rfl) R1 H1.out (by omega) (by omega)).mono ?_
  rintro e w3 ⟨rfl, -, k⟩
  have hC3 : ∀ o, w3.cell? ⟨w.heap.size, o, none⟩ = _ := fun o => (k.cell (p := ⟨w.heap.size, o, none⟩) z2 (by show ¬ w.heap.size = g1; omega)).trans (hC2 o)
  have R2 := R2.keeps k (by omega) (by omega)
  have R3 := R3.keeps k (by omega) (by omega)
  have K3 := K2.trans (k.mono (T := fun b => g0 ≤ b ∧ b ≤ g3) (by rintro b rfl; omega))
  have z3 := Nat.lt_of_lt_of_le z2 k.size
  clear hC2 K2 R1 z2 k
  go_wp2_with fail
  refine (markMountS_any _ n2 _ g2 _ x2 _ (fun _ => rfl) R2 H2.out (by omega) (by omega)).mono ?_
  rintro e w4 ⟨rfl, k⟩
  have hC4 : ∀ o, w4.cell? ⟨w.heap.size, o, none⟩ = _ := fun o => (k.cell (p := ⟨w.heap.size, o, none⟩) z3 (by show ¬ w.heap.size = g2; omega)).trans (hC3 o)
  have R3 := R3.keeps k (by omega) (by omega)
  have K4 := K3.trans (k.mono (T := fun b => g0 ≤ b ∧ b ≤ g3) (by rintro b rfl; omega))
  have z4 := Nat.lt_of_lt_of_le z3 k.size
  clear hC3 K3 R2 z3 k
  go_wp2_with fail
  refine (markDeviceS_any _ n3 _ g3 _ x3 _ (fun _ => rfl) R3 H3.out (by omega) (by omega)).mono ?_
  rintro e w5 ⟨rfl, k⟩
  have K5 := K4.trans (k.mono (T := fun b => g0 ≤ b ∧ b ≤ g3) (by rintro b rfl; omega))
  clear hC4 K4 R3 z4 k
  go_wp2_with fail
  go_ret
  exact ⟨ret_int (by omega), K5⟩
theorem NewSt.rowsIn {w w' : World} {s : StD} {g0 g1 g2 g3 : Nat} (h : NewSt w w' s g0 g1 g2 g3) : RowsIn w' (newStV s g0 g1 g2 g3) s w.heap.size w'.heap.size := by
  have R := h.rows
  obtain ⟨l0, l1, l2, l3, l4, R0, R1, R2, R3⟩ := h
  exact ⟨g0, g1, g2, g3, R, ⟨l0, by omega, by omega, by omega⟩, fun _ => by omega, fun _ => by omega, fun _ => by omega, fun _ => by omega⟩
theorem BoxS.own {w W : World} {B g : Nat} {cs : Array Value} (h : BoxS W B g cs.toList) (K : Below w.heap.size w W) : Own w W g cs := ⟨K, h.lt.2, h.C, fun o => h.frozen o⟩
/-- A row in a block of the heap. -/
structure RowB (w : World) (g N : Nat) (x : Nat → Int) : Prop where
  R : RowF w g N x
  z : g < w.heap.size
theorem RowB.go {w w' : World} {g N : Nat} {x : Nat → Int} (h : RowB w g N x) (hb : Below w.heap.size w w') : RowB w' g N x := ⟨h.R.below hb h.z, Nat.lt_of_lt_of_le h.z hb.size⟩
theorem RowB.keeps {S : Nat → Prop} {w w' : World} {g N : Nat} {x : Nat → Int} (h : RowB w g N x) (k : Keeps S w w') (hn : ¬ S g) : RowB w' g N x := ⟨h.R.keeps k h.z hn, Nat.lt_of_lt_of_le h.z k.size⟩
theorem Two.keeps {S : Nat → Prop} {w w1 w2 : World} {cs os : Array Value} (h : Two w w1 cs os) (k : Keeps S w1 w2) (hS : ∀ b, S b → w.heap.size + 1 < b) : Two w w2 cs os :=
  ⟨h.A.keeps k (fun b hb => by have := hS b hb; omega) (fun hb => by have := hS _ hb; omega), h.O.keeps k (fun b hb => by have := hS b hb; omega) (fun hb => by have := hS _ hb; omega)⟩
theorem tot_half {s : StD} {m : Int} (h : (s.pods.length + s.mnts.length + s.devs.length + s.lks.length : Nat) ≤ m) : (totS s : Int) ≤ 2 * m := by unfold totS; omega
end Go.Proofs.Ytdphpjnecjofeaa
