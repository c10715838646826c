/-
  Chapter 12 of the program: what is given up.
-/
import Derived.Test.YtdphpjnecjofeaaGreatDoorMZ21
import Derived.Test.YtdphpjnecjofeaaGreatDoorMZ6
import Derived.Test.YtdphpjnecjofeaaGreatDoorMZ19
import Derived.Test.YtdphpjnecjofeaaGreatDoorMZ18
/- Ob -/
set_option linter.unusedVariables false
namespace Go.Proofs.YtdphpjnecjofeaaGreatDoor
open Go.RowKit

theorem stAt_ {w0 W : World} {v : Value} {s : StD} (h : IsSt w0 w0.heap.size v s) (K : Below w0.heap.size w0 W) : IsSt W W.heap.size v s := (h.below K (Nat.le_refl _)).more K.size
theorem stPl {w0 W : World} {v : Value} {d : PlanD} (h : IsPlan w0 w0.heap.size v d) (K : Below w0.heap.size w0 W) : IsPlan W W.heap.size v d := (h.below K (Nat.le_refl _)).more K.size
/-- What is given up where a machine boots. -/
def givenL (d : PlanD) (s : StD) : List RecD := recsOf d.n0 (failG s) (fun i x => ⟨2, i, x⟩) ++ (recsOf d.n2 (looseG s) mntRec ++ (recsOf d.n3 (emptyG s) (fun i _ => ⟨5, i, 0⟩) ++ s.lks.map (fun x => (⟨7, x, 0⟩ : RecD))))
theorem bootL_given {d : PlanD} {s : StD} {id : Int} : bootL d s id = [⟨10, id, 0⟩] ++ (givenL d s ++ (⟨12, 0, 0⟩ :: (if s.ph = 8 then [] else [⟨1, 6, 0⟩]))) := by
  simp [bootL, givenL, List.append_assoc]
theorem givenL_le {d : PlanD} {s : StD} (h : StOk d s) : (givenL d s).length ≤ 44 := by
  have h0 := size_ok h.plan
  have h1 := recsOf_le d.n0 (failG s) (fun i x => (⟨2, i, x⟩ : RecD))
  have h2 := recsOf_le d.n2 (looseG s) mntRec
  have h3 := recsOf_le d.n3 (emptyG s) (fun i _ => (⟨5, i, 0⟩ : RecD))
  have h4 : s.lks.length ≤ 8 := by have := rise_len (a := 0) h.rise h.lks (by omega); omega
  simp only [givenL, List.length_append, List.length_map]
  omega
theorem live_recs (s : StD) : ∀ n, (picks n (liveP s)).map (fun x => (⟨2, x, 5⟩ : RecD)) = recsOf n (failG s) (fun i x => ⟨2, i, x⟩)
  | 0 => rfl
  | n + 1 => by
    cases h : liveP s n
    · rw [picks_no h, recsOf_none (g := failG s) (show (if liveP s n then some (5 : Int) else none) = none from by rw [h]; rfl)]
      exact live_recs s n
    · rw [picks_yes h, recsOf_some (g := failG s) (x := 5) (show (if liveP s n then some (5 : Int) else none) = some 5 from by rw [h]; rfl), List.map_append, live_recs s n]
      rfl

set_option maxRecDepth 100000 in
set_option maxHeartbeats 16000000 in
theorem givenUp_any (sv : Value) (d : PlanD) (s : StD) (w : World) (hs : IsSt w w.heap.size sv s) (hok : StOk d s) :
    Calls Tryz.prog 143 #[sv] w fun e w' => ∃ v, e = .returned v ∧ OR w' w.heap.size v (givenL d s) ∧ Below w.heap.size w w' := by
  have HS := Lib.hid hs
  have OK := Lib.hid hok
  obtain ⟨⟨A0, A1, A2, A3, c0, c1, c2, c3, rfl, t0, t1, t2, t3⟩, f0, f1, f2, f3⟩ := hs
  have R1 := Lib.hid t1
  have R2 := Lib.hid t2
  have R3 := Lib.hid t3
  unfold maxLen at f0 f1 f2 f3
  have HNP := Lib.hid hok.np
  have HNM := Lib.hid hok.nm
  have HND := Lib.hid hok.nd
  have HSZ := Lib.hid (size_ok hok.plan)
  have HLK : Hid (s.lks.length ≤ 8) := Lib.hid (by have := rise_len (a := 0) hok.rise hok.lks (by omega); omega)
  have HLV : Hid ((liveL s).map (fun x => (⟨2, x, 5⟩ : RecD)) = recsOf d.n0 (failG s) (fun i x => ⟨2, i, x⟩)) := Lib.hid (by rw [← hok.np]; exact live_recs s _)
  have HLL : Hid ((liveL s).length ≤ 12) := Lib.hid (by have := liveL_le s; have := hok.np; have := size_ok hok.plan; omega)
  have X0 := Own.box w (stC A0 A1 A2 A3 s.pods.length c0 s.mnts.length c1 s.devs.length c2 s.lks.length c3 s.ph s.co s.ck s.bo s.ba s.lb s.gd s.pr) 40
  clear t0 t1 t2 t3 hok
  have hC := X0.C
  go_enter Tryz.func143, Tryz.ntmps143
  go_upto_region 3 with fail
  have HG0 : Hid (Gv (w.alloc (.cells (stC A0 A1 A2 A3 s.pods.length c0 s.mnts.length c1 s.devs.length c2 s.lks.length c3 s.ph s.co s.ck s.bo s.ba s.lb s.gd s.pr) 40)) (((w.alloc (.cells (stC A0 A1 A2 A3 s.pods.length c0 s.mnts.length c1 s.devs.length c2 s.lks.length c3 s.ph s.co s.ck s.bo s.ba s.lb s.gd s.pr) 40)).alloc (.cells #[] 50)).alloc (.cells #[.slice (some ⟨w.heap.size + 1, 0, none⟩) 0 0] 60)) (w.heap.size + 1 + 1) []) := by
    have hz : (w.alloc (.cells (stC A0 A1 A2 A3 s.pods.length c0 s.mnts.length c1 s.devs.length c2 s.lks.length c3 s.ph s.co s.ck s.bo s.ba s.lb s.gd s.pr) 40)).heap.size = w.heap.size + 1 := by simp
    have O : OR ((w.alloc (.cells (stC A0 A1 A2 A3 s.pods.length c0 s.mnts.length c1 s.devs.length c2 s.lks.length c3 s.ph s.co s.ck s.bo s.ba s.lb s.gd s.pr) 40)).alloc (.cells #[] 50)) (w.heap.size + 1) (.slice (some ⟨w.heap.size + 1, 0, none⟩) 0 0) [] := by
      have := OR.empty (w := w.alloc (.cells (stC A0 A1 A2 A3 s.pods.length c0 s.mnts.length c1 s.devs.length c2 s.lks.length c3 s.ph s.co s.ck s.bo s.ba s.lb s.gd s.pr) 40)) (Nat.le_refl _)
      rw [hz] at this
      exact this
    have hb := (Below.refl ((w.alloc (.cells (stC A0 A1 A2 A3 s.pods.length c0 s.mnts.length c1 s.devs.length c2 s.lks.length c3 s.ph s.co s.ck s.bo s.ba s.lb s.gd s.pr) 40)).alloc (.cells #[] 50)).heap.size ((w.alloc (.cells (stC A0 A1 A2 A3 s.pods.length c0 s.mnts.length c1 s.devs.length c2 s.lks.length c3 s.ph s.co s.ck s.bo s.ba s.lb s.gd s.pr) 40)).alloc (.cells #[] 50))).alloc (Nat.le_refl _) (.cells #[.slice (some ⟨w.heap.size + 1, 0, none⟩) 0 0] 60)
    refine Lib.hid ⟨((Below.refl _ _).alloc (Nat.le_refl _) _).alloc (by simp) _, .slice (some ⟨w.heap.size + 1, 0, none⟩) 0 0, BoxG.new (by simp) (by simp), ?_⟩
    rw [hz]
    exact O.below hb
  clear hC
  generalize ((w.alloc (.cells (stC A0 A1 A2 A3 s.pods.length c0 s.mnts.length c1 s.devs.length c2 s.lks.length c3 s.ph s.co s.ck s.bo s.ba s.lb s.gd s.pr) 40)).alloc (.cells #[] 50)).alloc (.cells #[.slice (some ⟨w.heap.size + 1, 0, none⟩) 0 0] 60) = wg at HG0 ⊢
  generalize w.alloc (.cells (stC A0 A1 A2 A3 s.pods.length c0 s.mnts.length c1 s.devs.length c2 s.lks.length c3 s.ph s.co s.ck s.bo s.ba s.lb s.gd s.pr) 40) = w1 at X0 HG0
  generalize w.heap.size + 1 + 1 = g at HG0 ⊢
  skip
  skip
  have HZ := Lib.hid X0
  clear X0
  have hC := (HZ.out.step HG0.out.1).C
  go_wp2_with fail
  refine (implLiveIn_any _ s _ (stAt_ HS.out (HZ.out.step HG0.out.1).K) (by have := HNP.out; have := HSZ.out; omega)).mono ?_
  rintro e w2 ⟨vL, rfl, OL, hb⟩
  have HG1 := Lib.hid (HG0.out.step hb)
  obtain ⟨AL, cL, rfl, -, -⟩ := open_rowR OL
  have HL := Lib.hid OL
  clear OL hb hC HG0
  generalize liveL s = ll at HL HLV HLL ⊢
  have hll : ll.length ≤ 12 := HLL.out
  have hC := (HZ.out.step HG1.out.1).C
  go_wp2_with fail
  go_loopw [18] (fun j wr => ∃ k : Nat, k ≤ ll.length ∧ j = .int .i64 k ∧ Hid (Gv w1 wr g ((ll.take k).map (fun x => (⟨2, x, 5⟩ : RecD)))) ∧ Hid (KRowG w2 wr)) (fun j _ => ll.length - (intOf j).toNat)
  case atStart => exact ⟨0, Nat.zero_le _, rfl, Lib.hid (by simpa using HG1.out), Lib.hid (KRowG.refl w2)⟩
  case round =>
    clear HG1 hC
    obtain ⟨k, hk, rfl, HG1, HK⟩ := hrel
    by_cases hlt : k < ll.length
    · obtain ⟨x, hx⟩ : ∃ x, ll[k]? = some x := ⟨_, List.getElem?_eq_getElem hlt⟩
      have HX := Lib.hid hx
      obtain ⟨bl, ol, rfl, hbl, q0⟩ := list_at (HK.out _ _ 1 _ _ _ (by decide) (by decide) HL.out) hx
      clear hx
      have HN1 : Hid ((ll.take (k + 1)).map (fun x => (⟨2, x, 5⟩ : RecD)) = (ll.take k).map (fun x => (⟨2, x, 5⟩ : RecD)) ++ [⟨2, x, 5⟩]) := Lib.hid (by rw [take_at HX.out, List.map_append]; rfl)
      have HLE : Hid (((ll.take k).map (fun x => (⟨2, x, 5⟩ : RecD))).length ≤ 12) := Lib.hid (by rw [List.length_map, List.length_take]; omega)
      generalize (ll.take k).map (fun x => (⟨2, x, 5⟩ : RecD)) = done at HN1 HLE HG1
      go_wp2_with fail
      refine (giveUp_any w1 _ g _ 2 x 5 HG1.out (by have := HLE.out; omega)).mono ?_
      rintro e w3 ⟨rfl, hG, hK⟩
      have HG2 := Lib.hid hG
      have HK2 := Lib.hid (HK.out.trans hK)
      clear hG hK q0 HG1 HK
      go_wp2
      exact ⟨⟨k + 1, by omega, by go_num, Lib.hid (by rw [HN1.out]; exact HG2.out), HK2⟩, by simp [intOf]; omega⟩
    · obtain rfl : k = ll.length := by omega
      rw [List.take_length, HLV.out] at HG1
      have HL1 : Hid ((recsOf d.n0 (failG s) (fun i x => (⟨2, i, x⟩ : RecD))).length ≤ 12) := Lib.hid (by have := HSZ.out; have := recsOf_le d.n0 (failG s) (fun i x => (⟨2, i, x⟩ : RecD)); omega)
      have HA1 : Hid (givenL d s = recsOf d.n0 (failG s) (fun i x => ⟨2, i, x⟩) ++ (recsOf d.n2 (looseG s) mntRec ++ (recsOf d.n3 (emptyG s) (fun i _ => ⟨5, i, 0⟩) ++ s.lks.map (fun x => (⟨7, x, 0⟩ : RecD))))) := Lib.hid rfl
      generalize recsOf d.n0 (failG s) (fun i x => (⟨2, i, x⟩ : RecD)) = b1_ at HA1 HL1 HG1
      clear HL HK HLV HLL hll
      have hC := (HZ.out.step HG1.out.1).C
      go_wp2_with fail
      go_loopw [29] (fun j wr => ∃ k : Nat, k ≤ s.mnts.length ∧ j = .int .i64 k ∧ Hid (Gv w1 wr g (b1_ ++ recsOf k (looseG s) mntRec))) (fun j _ => s.mnts.length - (intOf j).toNat)
      case atStart => exact ⟨0, Nat.zero_le _, rfl, Lib.hid (by rw [recsOf_zero, List.append_nil]; exact HG1.out)⟩
      case round =>
        clear HG1 hC
        obtain ⟨k, hk, rfl, HG1⟩ := hrel
        by_cases hlt : k < s.mnts.length
        · obtain ⟨b', off', rfl, hb', hc⟩ := (R1.out.below (HZ.out.step HG1.out.1).K (Nat.le_refl _)).cell hlt
          have p0 := (hc 0 (by decide)).trans (mntCs_at s.mnts (i := k) hlt).1
          have p1 := (hc 1 (by decide)).trans (mntCs_at s.mnts (i := k) hlt).2
          rw [Nat.add_zero] at p0
          clear hc
          have HN1 : Hid (b1_ ++ recsOf (k + 1) (looseG s) mntRec = (b1_ ++ recsOf k (looseG s) mntRec) ++ (if (mntA s.mnts k).1 then [⟨4, k, 0⟩] else [])) := Lib.hid (by
            rw [recsOf_next, List.append_assoc]
            have : looseG s k = if (mntA s.mnts k).1 then some (false, 0) else none := rfl
            rw [this]
            cases (mntA s.mnts k).1 <;> rfl)
          generalize mntA s.mnts k = q at p0 p1 HN1
          obtain ⟨x, y⟩ := q
          dsimp only at p0 p1 HN1
          have HB := Lib.hid (HG1.out.step ((Below.refl _ _).alloc (Nat.le_refl _) (.cells #[.bool x, .int .i64 y] 142)))
          have HLE : Hid ((b1_ ++ recsOf k (looseG s) mntRec).length ≤ 25) := Lib.hid (by have := recsOf_le k (looseG s) (mntRec); have := HL1.out; have := HNM.out; have := HSZ.out; rw [List.length_append]; omega)
          generalize hR : b1_ ++ recsOf k (looseG s) mntRec = done at HN1 HLE HG1 HB
          clear hR
          cases x
          · go_wp2
            exact ⟨⟨k + 1, by omega, by go_num, Lib.hid (by rw [HN1.out]; simpa using HB.out)⟩, by simp [intOf]; omega⟩
          · go_wp2_with fail
            refine (giveUp_any w1 _ g _ 4 k 0 HB.out (by have := HLE.out; omega)).mono ?_
            rintro e w3 ⟨rfl, hG, -⟩
            have HG2 := Lib.hid hG
            clear hG HG1 HB
            go_wp2
            exact ⟨⟨k + 1, by omega, by go_num, Lib.hid (by rw [HN1.out]; exact HG2.out)⟩, by simp [intOf]; omega⟩
        · obtain ⟨rfl⟩ : d.n2 = k := by have := HNM.out; omega
          have HAQ : Hid (givenL d s = (b1_ ++ recsOf d.n2 (looseG s) mntRec) ++ (recsOf d.n3 (emptyG s) (fun i _ => ⟨5, i, 0⟩) ++ s.lks.map (fun x => (⟨7, x, 0⟩ : RecD)))) := Lib.hid (by rw [HA1.out, List.append_assoc])
          have HL2 : Hid ((b1_ ++ recsOf d.n2 (looseG s) mntRec).length ≤ 24) := Lib.hid (by have := HL1.out; have := HSZ.out; have := recsOf_le d.n2 (looseG s) (mntRec); rw [List.length_append]; omega)
          generalize hR : b1_ ++ recsOf d.n2 (looseG s) mntRec = b2_ at HAQ HL2 HG1
          clear hR HA1 HL1
          have HA1 := HAQ
          have HL1 := HL2
          clear HAQ HL2
          have hC := (HZ.out.step HG1.out.1).C
          go_wp2_with fail
          go_loopw [43] (fun j wr => ∃ k : Nat, k ≤ s.devs.length ∧ j = .int .i64 k ∧ Hid (Gv w1 wr g (b2_ ++ recsOf k (emptyG s) (fun i _ => ⟨5, i, 0⟩)))) (fun j _ => s.devs.length - (intOf j).toNat)
          case atStart => exact ⟨0, Nat.zero_le _, rfl, Lib.hid (by rw [recsOf_zero, List.append_nil]; exact HG1.out)⟩
          case round =>
            clear HG1 hC
            obtain ⟨k, hk, rfl, HG1⟩ := hrel
            by_cases hlt : k < s.devs.length
            · obtain ⟨b', off', rfl, hb', hc⟩ := (R2.out.below (HZ.out.step HG1.out.1).K (Nat.le_refl _)).cell hlt
              have p0 := (hc 0 (by decide)).trans (devCs_at s.devs (i := k * 1 + 0) (by omega))
              rw [Nat.add_zero, Nat.mul_one] at p0
              clear hc
              have HN1 : Hid (b2_ ++ recsOf (k + 1) (emptyG s) (fun i _ => ⟨5, i, 0⟩) = (b2_ ++ recsOf k (emptyG s) (fun i _ => ⟨5, i, 0⟩)) ++ (if devA s.devs k then [⟨5, k, 0⟩] else [])) := Lib.hid (by
                rw [recsOf_next, List.append_assoc]
                have : emptyG s k = if devA s.devs k then some () else none := rfl
                rw [this]
                cases devA s.devs k <;> rfl)
              generalize devA s.devs k = x at p0 HN1
              have HLE : Hid ((b2_ ++ recsOf k (emptyG s) (fun i _ => ⟨5, i, 0⟩)).length ≤ 37) := Lib.hid (by have := recsOf_le k (emptyG s) (fun (i : Nat) (_ : Unit) => (⟨5, i, 0⟩ : RecD)); have := HL1.out; have := HND.out; have := HSZ.out; rw [List.length_append]; omega)
              generalize hR : b2_ ++ recsOf k (emptyG s) (fun i _ => ⟨5, i, 0⟩) = done at HN1 HLE HG1
              clear hR
              cases x
              · go_wp2
                exact ⟨⟨k + 1, by omega, by go_num, Lib.hid (by rw [HN1.out]; simpa using HG1.out)⟩, by simp [intOf]; omega⟩
              · go_wp2_with fail
                refine (giveUp_any w1 _ g _ 5 k 0 HG1.out (by have := HLE.out; omega)).mono ?_
                rintro e w3 ⟨rfl, hG, -⟩
                have HG2 := Lib.hid hG
                clear hG HG1
                go_wp2
                exact ⟨⟨k + 1, by omega, by go_num, Lib.hid (by rw [HN1.out]; exact HG2.out)⟩, by simp [intOf]; omega⟩
            · obtain ⟨rfl⟩ : d.n3 = k := by have := HND.out; omega
              have HAQ : Hid (givenL d s = (b2_ ++ recsOf d.n3 (emptyG s) (fun i _ => ⟨5, i, 0⟩)) ++ (s.lks.map (fun x => (⟨7, x, 0⟩ : RecD)))) := Lib.hid (by rw [HA1.out, List.append_assoc])
              have HL2 : Hid ((b2_ ++ recsOf d.n3 (emptyG s) (fun i _ => ⟨5, i, 0⟩)).length ≤ 36) := Lib.hid (by have := HL1.out; have := HSZ.out; have := recsOf_le d.n3 (emptyG s) (fun (i : Nat) (_ : Unit) => (⟨5, i, 0⟩ : RecD)); rw [List.length_append]; omega)
              generalize hR : b2_ ++ recsOf d.n3 (emptyG s) (fun i _ => ⟨5, i, 0⟩) = b3_ at HAQ HL2 HG1
              clear hR HA1 HL1
              have HA1 := HAQ
              have HL1 := HL2
              clear HAQ HL2
              have hC := (HZ.out.step HG1.out.1).C
              go_wp2_with fail
              go_loopw [56] (fun j wr => ∃ k : Nat, k ≤ s.lks.length ∧ j = .int .i64 k ∧ Hid (Gv w1 wr g (b3_ ++ (s.lks.take k).map (fun x => (⟨7, x, 0⟩ : RecD))))) (fun j _ => s.lks.length - (intOf j).toNat)
              case atStart => exact ⟨0, Nat.zero_le _, rfl, Lib.hid (by rw [List.take_zero, List.map_nil, List.append_nil]; exact HG1.out)⟩
              case round =>
                clear HG1 hC
                obtain ⟨k, hk, rfl, HG1⟩ := hrel
                by_cases hlt : k < s.lks.length
                · obtain ⟨b', off', rfl, hb', hc⟩ := (R3.out.below (HZ.out.step HG1.out.1).K (Nat.le_refl _)).cell hlt
                  have p0 := (hc 0 (by decide)).trans (lkCs_at s.lks (i := k * 1 + 0) (by omega))
                  rw [Nat.add_zero, Nat.mul_one] at p0
                  clear hc
                  have HN1 : Hid (b3_ ++ (s.lks.take (k + 1)).map (fun x => (⟨7, x, 0⟩ : RecD)) = (b3_ ++ (s.lks.take k).map (fun x => (⟨7, x, 0⟩ : RecD))) ++ [⟨7, lkA s.lks k, 0⟩]) := Lib.hid (by
                    rw [List.append_assoc, take_at (i := lkA s.lks k) (by rw [List.getElem?_eq_getElem hlt]; simp [lkA, List.getD, List.getElem?_eq_getElem hlt]), List.map_append]
                    rfl)
                  have HLE : Hid ((b3_ ++ (s.lks.take k).map (fun x => (⟨7, x, 0⟩ : RecD))).length ≤ 46) := Lib.hid (by
                    have := HL1.out
                    have hf := HLK.out
                    rw [List.length_append, List.length_map, List.length_take]
                    omega)
                  generalize lkA s.lks k = x at p0 HN1
                  generalize hR : b3_ ++ (s.lks.take k).map (fun x => (⟨7, x, 0⟩ : RecD)) = done at HN1 HLE HG1
                  clear hR
                  go_wp2_with fail
                  refine (giveUp_any w1 _ g _ 7 x 0 HG1.out (by have := HLE.out; omega)).mono ?_
                  rintro e w3 ⟨rfl, hG, -⟩
                  have HG2 := Lib.hid hG
                  clear hG HG1 p0
                  go_wp2
                  exact ⟨⟨k + 1, by omega, by go_num, Lib.hid (by rw [HN1.out]; exact HG2.out)⟩, by simp [intOf]; omega⟩
                · obtain rfl : k = s.lks.length := by omega
                  rw [List.take_length, ← HA1.out] at HG1
                  obtain ⟨K, v, X, O⟩ := HG1.out
                  have hX := X.C
                  go_wp2
                  go_ret
                  exact ⟨_, rfl, O.base HZ.out.K.size, HZ.out.K.trans (K.mono HZ.out.K.size)⟩
end Go.Proofs.YtdphpjnecjofeaaGreatDoor
