/-
  Chapter 11 of the program: what a tick asks.
-/
import Derived.Test.YtobpjahjahlhpaaGreatDoorMZ19
import Derived.Test.YtobpjahjahlhpaaGreatDoorMZ13
import Derived.Test.YtobpjahjahlhpaaGreatDoorMZ8
import Derived.Test.YtobpjahjahlhpaaGreatDoorMZ16
import Derived.Test.YtobpjahjahlhpaaGreatDoorMZ11
import Derived.Test.YtobpjahjahlhpaaGreatDoorMZ10
import Derived.Deep.RegionHeld3
import Derived.Deep.AppendLies
import Derived.Test.YtobpjahjahlhpaaGreatDoorMZ7
import Derived.Deep.DeepCutAuto
/- Ob -/
set_option linter.unusedVariables false
namespace Go.Proofs.YtobpjahjahlhpaaGreatDoor
open Go.RowKit

theorem stAt_ {w0 W : World} {v : Value} {s : StD} (h : IsSt w0 w0.heap.size v s) (K : Below w0.heap.size w0 W) : IsSt W W.heap.size v s := (h.below K (Nat.le_refl _)).more K.size
theorem stPl {w0 W : World} {v : Value} {d : PlanD} (h : IsPlan w0 w0.heap.size v d) (K : Below w0.heap.size w0 W) : IsPlan W W.heap.size v d := (h.below K (Nat.le_refl _)).more K.size
/-- What is given up where a machine boots. -/
def givenL (d : PlanD) (s : StD) : List RecD := recsOf d.n0 (failG s) (fun i x => ⟨2, i, x⟩) ++ (recsOf d.n2 (looseG s) mntRec ++ (recsOf d.n3 (emptyG s) (fun i _ => ⟨5, i, 0⟩) ++ s.lks.map (fun x => (⟨7, x, 0⟩ : RecD))))
theorem bootL_given {d : PlanD} {s : StD} {id : Int} : bootL d s id = [⟨10, id, 0⟩] ++ (givenL d s ++ (⟨12, 0, 0⟩ :: (if s.ph = 8 then [] else [⟨1, 6, 0⟩]))) := by
  simp [bootL, givenL, List.append_assoc]
theorem givenL_le {d : PlanD} {s : StD} (h : StOk d s) : (givenL d s).length ≤ 44 := by
  have h0 := size_ok h.plan
  have h1 := recsOf_le d.n0 (failG s) (fun i x => (⟨2, i, x⟩ : RecD))
  have h2 := recsOf_le d.n2 (looseG s) mntRec
  have h3 := recsOf_le d.n3 (emptyG s) (fun i _ => (⟨5, i, 0⟩ : RecD))
  have h4 : s.lks.length ≤ 8 := by have := rise_len (a := 0) h.rise h.lks (by omega); omega
  simp only [givenL, List.length_append, List.length_map]
  omega
theorem live_recs (s : StD) : ∀ n, (picks n (liveP s)).map (fun x => (⟨2, x, 5⟩ : RecD)) = recsOf n (failG s) (fun i x => ⟨2, i, x⟩)
  | 0 => rfl
  | n + 1 => by
    cases h : liveP s n
    · rw [picks_no h, recsOf_none (g := failG s) (show (if liveP s n then some (5 : Int) else none) = none from by rw [h]; rfl)]
      exact live_recs s n
    · rw [picks_yes h, recsOf_some (g := failG s) (x := 5) (show (if liveP s n then some (5 : Int) else none) = some 5 from by rw [h]; rfl), List.map_append, live_recs s n]
      rfl

set_option maxRecDepth 100000 in
set_option maxHeartbeats 16000000 in
theorem givenUp_any (sv : Value) (d : PlanD) (s : StD) (w : World) (hs : IsSt w w.heap.size sv s) (hok : StOk d s) :
    Calls Tryz.prog 48 #[sv] w fun e w' => ∃ v, e = .returned v ∧ OR w' w.heap.size v (givenL d s) ∧ Below w.heap.size w w' := by
  have HS := Lib.hid hs
  have OK := Lib.hid hok
  obtain ⟨⟨A0, A1, A2, A3, c0, c1, c2, c3, rfl, t0, t1, t2, t3⟩, f0, f1, f2, f3⟩ := hs
  have R1 := Lib.hid t1
  have R2 := Lib.hid t2
  have R3 := Lib.hid t3
  unfold maxLen at f0 f1 f2 f3
  have HNP := Lib.hid hok.np
  have HNM := Lib.hid hok.nm
  have HND := Lib.hid hok.nd
  have HSZ := Lib.hid (size_ok hok.plan)
  have HLK : Hid (s.lks.length ≤ 8) := Lib.hid (by have := rise_len (a := 0) hok.rise hok.lks (by omega); omega)
  have HLV : Hid ((liveL s).map (fun x => (⟨2, x, 5⟩ : RecD)) = recsOf d.n0 (failG s) (fun i x => ⟨2, i, x⟩)) := Lib.hid (by rw [← hok.np]; exact live_recs s _)
  have HLL : Hid ((liveL s).length ≤ 12) := Lib.hid (by have := liveL_le s; have := hok.np; have := size_ok hok.plan; omega)
  have X0 := Own.box w (stC A0 A1 A2 A3 s.pods.length c0 s.mnts.length c1 s.devs.length c2 s.lks.length c3 s.ph s.co s.ck s.bo s.ba s.lb s.gd s.pr) 34
  clear t0 t1 t2 t3 hok
  have hC := X0.C
  go_enter Tryz.func48, Tryz.ntmps48
  go_upto_region 3 with fail
  have HG0 : Hid (Gv (w.alloc (.cells (stC A0 A1 A2 A3 s.pods.length c0 s.mnts.length c1 s.devs.length c2 s.lks.length c3 s.ph s.co s.ck s.bo s.ba s.lb s.gd s.pr) 34)) (((w.alloc (.cells (stC A0 A1 A2 A3 s.pods.length c0 s.mnts.length c1 s.devs.length c2 s.lks.length c3 s.ph s.co s.ck s.bo s.ba s.lb s.gd s.pr) 34)).alloc (.cells #[] 69)).alloc (.cells #[.slice (some ⟨w.heap.size + 1, 0, none⟩) 0 0] 39)) (w.heap.size + 1 + 1) []) := by
    have hz : (w.alloc (.cells (stC A0 A1 A2 A3 s.pods.length c0 s.mnts.length c1 s.devs.length c2 s.lks.length c3 s.ph s.co s.ck s.bo s.ba s.lb s.gd s.pr) 34)).heap.size = w.heap.size + 1 := by simp
    have O : OR ((w.alloc (.cells (stC A0 A1 A2 A3 s.pods.length c0 s.mnts.length c1 s.devs.length c2 s.lks.length c3 s.ph s.co s.ck s.bo s.ba s.lb s.gd s.pr) 34)).alloc (.cells #[] 69)) (w.heap.size + 1) (.slice (some ⟨w.heap.size + 1, 0, none⟩) 0 0) [] := by
      have := OR.empty (w := w.alloc (.cells (stC A0 A1 A2 A3 s.pods.length c0 s.mnts.length c1 s.devs.length c2 s.lks.length c3 s.ph s.co s.ck s.bo s.ba s.lb s.gd s.pr) 34)) (Nat.le_refl _)
      rw [hz] at this
      exact this
    have hb := (Below.refl ((w.alloc (.cells (stC A0 A1 A2 A3 s.pods.length c0 s.mnts.length c1 s.devs.length c2 s.lks.length c3 s.ph s.co s.ck s.bo s.ba s.lb s.gd s.pr) 34)).alloc (.cells #[] 69)).heap.size ((w.alloc (.cells (stC A0 A1 A2 A3 s.pods.length c0 s.mnts.length c1 s.devs.length c2 s.lks.length c3 s.ph s.co s.ck s.bo s.ba s.lb s.gd s.pr) 34)).alloc (.cells #[] 69))).alloc (Nat.le_refl _) (.cells #[.slice (some ⟨w.heap.size + 1, 0, none⟩) 0 0] 39)
    refine Lib.hid ⟨((Below.refl _ _).alloc (Nat.le_refl _) _).alloc (by simp) _, .slice (some ⟨w.heap.size + 1, 0, none⟩) 0 0, BoxG.new (by simp) (by simp), ?_⟩
    rw [hz]
    exact O.below hb
  clear hC
  generalize ((w.alloc (.cells (stC A0 A1 A2 A3 s.pods.length c0 s.mnts.length c1 s.devs.length c2 s.lks.length c3 s.ph s.co s.ck s.bo s.ba s.lb s.gd s.pr) 34)).alloc (.cells #[] 69)).alloc (.cells #[.slice (some ⟨w.heap.size + 1, 0, none⟩) 0 0] 39) = wg at HG0 ⊢
  generalize w.alloc (.cells (stC A0 A1 A2 A3 s.pods.length c0 s.mnts.length c1 s.devs.length c2 s.lks.length c3 s.ph s.co s.ck s.bo s.ba s.lb s.gd s.pr) 34) = w1 at X0 HG0
  generalize w.heap.size + 1 + 1 = g at HG0 ⊢
  skip
  skip
  have HZ := Lib.hid X0
  clear X0
  have hC := (HZ.out.step HG0.out.1).C
  go_wp2_with fail
  refine (implLiveIn_any _ s _ (stAt_ HS.out (HZ.out.step HG0.out.1).K) (by have := HNP.out; have := HSZ.out; omega)).mono ?_
  rintro e w2 ⟨vL, rfl, OL, hb⟩
  have HG1 := Lib.hid (HG0.out.step hb)
  obtain ⟨AL, cL, rfl, -, -⟩ := open_rowR OL
  have HL := Lib.hid OL
  clear OL hb hC HG0
  generalize liveL s = ll at HL HLV HLL ⊢
  have hll : ll.length ≤ 12 := HLL.out
  have hC := (HZ.out.step HG1.out.1).C
  go_wp2_with fail
  go_loopw [18] (fun j wr => ∃ k : Nat, k ≤ ll.length ∧ j = .int .i64 k ∧ Hid (Gv w1 wr g ((ll.take k).map (fun x => (⟨2, x, 5⟩ : RecD)))) ∧ Hid (KRowG w2 wr)) (fun j _ => ll.length - (intOf j).toNat)
  case atStart => exact ⟨0, Nat.zero_le _, rfl, Lib.hid (by simpa using HG1.out), Lib.hid (KRowG.refl w2)⟩
  case round =>
    clear HG1 hC
    obtain ⟨k, hk, rfl, HG1, HK⟩ := hrel
    by_cases hlt : k < ll.length
    · obtain ⟨x, hx⟩ : ∃ x, ll[k]? = some x := ⟨_, List.getElem?_eq_getElem hlt⟩
      have HX := Lib.hid hx
      obtain ⟨bl, ol, rfl, hbl, q0⟩ := list_at (HK.out _ _ 1 _ _ _ (by decide) (by decide) HL.out) hx
      clear hx
      have HN1 : Hid ((ll.take (k + 1)).map (fun x => (⟨2, x, 5⟩ : RecD)) = (ll.take k).map (fun x => (⟨2, x, 5⟩ : RecD)) ++ [⟨2, x, 5⟩]) := Lib.hid (by rw [take_at HX.out, List.map_append]; rfl)
      have HLE : Hid (((ll.take k).map (fun x => (⟨2, x, 5⟩ : RecD))).length ≤ 12) := Lib.hid (by rw [List.length_map, List.length_take]; omega)
      generalize (ll.take k).map (fun x => (⟨2, x, 5⟩ : RecD)) = done at HN1 HLE HG1
      go_wp2_with fail
      refine (giveUp_any w1 _ g _ 2 x 5 HG1.out (by have := HLE.out; omega)).mono ?_
      rintro e w3 ⟨rfl, hG, hK⟩
      have HG2 := Lib.hid hG
      have HK2 := Lib.hid (HK.out.trans hK)
      clear hG hK q0 HG1 HK
      go_wp2
      exact ⟨⟨k + 1, by omega, by go_num, Lib.hid (by rw [HN1.out]; exact HG2.out), HK2⟩, by simp [intOf]; omega⟩
    · obtain rfl : k = ll.length := by omega
      rw [List.take_length, HLV.out] at HG1
      have HL1 : Hid ((recsOf d.n0 (failG s) (fun i x => (⟨2, i, x⟩ : RecD))).length ≤ 12) := Lib.hid (by have := HSZ.out; have := recsOf_le d.n0 (failG s) (fun i x => (⟨2, i, x⟩ : RecD)); omega)
      have HA1 : Hid (givenL d s = recsOf d.n0 (failG s) (fun i x => ⟨2, i, x⟩) ++ (recsOf d.n2 (looseG s) mntRec ++ (recsOf d.n3 (emptyG s) (fun i _ => ⟨5, i, 0⟩) ++ s.lks.map (fun x => (⟨7, x, 0⟩ : RecD))))) := Lib.hid rfl
      generalize recsOf d.n0 (failG s) (fun i x => (⟨2, i, x⟩ : RecD)) = b1_ at HA1 HL1 HG1
      clear HL HK HLV HLL hll
      have hC := (HZ.out.step HG1.out.1).C
      go_wp2_with fail
      go_loopw [29] (fun j wr => ∃ k : Nat, k ≤ s.mnts.length ∧ j = .int .i64 k ∧ Hid (Gv w1 wr g (b1_ ++ recsOf k (looseG s) mntRec))) (fun j _ => s.mnts.length - (intOf j).toNat)
      case atStart => exact ⟨0, Nat.zero_le _, rfl, Lib.hid (by rw [recsOf_zero, List.append_nil]; exact HG1.out)⟩
      case round =>
        clear HG1 hC
        obtain ⟨k, hk, rfl, HG1⟩ := hrel
        by_cases hlt : k < s.mnts.length
        · obtain ⟨b', off', rfl, hb', hc⟩ := (R1.out.below (HZ.out.step HG1.out.1).K (Nat.le_refl _)).cell hlt
          have p0 := (hc 0 (by decide)).trans (mntCs_at s.mnts (i := k) hlt).1
          have p1 := (hc 1 (by decide)).trans (mntCs_at s.mnts (i := k) hlt).2
          rw [Nat.add_zero] at p0
          clear hc
          have HN1 : Hid (b1_ ++ recsOf (k + 1) (looseG s) mntRec = (b1_ ++ recsOf k (looseG s) mntRec) ++ (if (mntA s.mnts k).1 then [⟨4, k, 0⟩] else [])) := Lib.hid (by
            rw [recsOf_next, List.append_assoc]
            have : looseG s k = if (mntA s.mnts k).1 then some (false, 0) else none := rfl
            rw [this]
            cases (mntA s.mnts k).1 <;> rfl)
          generalize mntA s.mnts k = q at p0 p1 HN1
          obtain ⟨x, y⟩ := q
          dsimp only at p0 p1 HN1
          have HB := Lib.hid (HG1.out.step ((Below.refl _ _).alloc (Nat.le_refl _) (.cells #[.bool x, .int .i64 y] 100)))
          have HLE : Hid ((b1_ ++ recsOf k (looseG s) mntRec).length ≤ 25) := Lib.hid (by have := recsOf_le k (looseG s) (mntRec); have := HL1.out; have := HNM.out; have := HSZ.out; rw [List.length_append]; omega)
          generalize hR : b1_ ++ recsOf k (looseG s) mntRec = done at HN1 HLE HG1 HB
          clear hR
          cases x
          · go_wp2
            exact ⟨⟨k + 1, by omega, by go_num, Lib.hid (by rw [HN1.out]; simpa using HB.out)⟩, by simp [intOf]; omega⟩
          · go_wp2_with fail
            refine (giveUp_any w1 _ g _ 4 k 0 HB.out (by have := HLE.out; omega)).mono ?_
            rintro e w3 ⟨rfl, hG, -⟩
            have HG2 := Lib.hid hG
            clear hG HG1 HB
            go_wp2
            exact ⟨⟨k + 1, by omega, by go_num, Lib.hid (by rw [HN1.out]; exact HG2.out)⟩, by simp [intOf]; omega⟩
        · obtain ⟨rfl⟩ : d.n2 = k := by have := HNM.out; omega
          have HAQ : Hid (givenL d s = (b1_ ++ recsOf d.n2 (looseG s) mntRec) ++ (recsOf d.n3 (emptyG s) (fun i _ => ⟨5, i, 0⟩) ++ s.lks.map (fun x => (⟨7, x, 0⟩ : RecD)))) := Lib.hid (by rw [HA1.out, List.append_assoc])
          have HL2 : Hid ((b1_ ++ recsOf d.n2 (looseG s) mntRec).length ≤ 24) := Lib.hid (by have := HL1.out; have := HSZ.out; have := recsOf_le d.n2 (looseG s) (mntRec); rw [List.length_append]; omega)
          generalize hR : b1_ ++ recsOf d.n2 (looseG s) mntRec = b2_ at HAQ HL2 HG1
          clear hR HA1 HL1
          have HA1 := HAQ
          have HL1 := HL2
          clear HAQ HL2
          have hC := (HZ.out.step HG1.out.1).C
          go_wp2_with fail
          go_loopw [43] (fun j wr => ∃ k : Nat, k ≤ s.devs.length ∧ j = .int .i64 k ∧ Hid (Gv w1 wr g (b2_ ++ recsOf k (emptyG s) (fun i _ => ⟨5, i, 0⟩)))) (fun j _ => s.devs.length - (intOf j).toNat)
          case atStart => exact ⟨0, Nat.zero_le _, rfl, Lib.hid (by rw [recsOf_zero, List.append_nil]; exact HG1.out)⟩
          case round =>
            clear HG1 hC
            obtain ⟨k, hk, rfl, HG1⟩ := hrel
            by_cases hlt : k < s.devs.length
            · obtain ⟨b', off', rfl, hb', hc⟩ := (R2.out.below (HZ.out.step HG1.out.1).K (Nat.le_refl _)).cell hlt
              have p0 := (hc 0 (by decide)).trans (devCs_at s.devs (i := k * 1 + 0) (by omega))
              rw [Nat.add_zero, Nat.mul_one] at p0
              clear hc
              have HN1 : Hid (b2_ ++ recsOf (k + 1) (emptyG s) (fun i _ => ⟨5, i, 0⟩) = (b2_ ++ recsOf k (emptyG s) (fun i _ => ⟨5, i, 0⟩)) ++ (if devA s.devs k then [⟨5, k, 0⟩] else [])) := Lib.hid (by
                rw [recsOf_next, List.append_assoc]
                have : emptyG s k = if devA s.devs k then some () else none := rfl
                rw [this]
                cases devA s.devs k <;> rfl)
              generalize devA s.devs k = x at p0 HN1
              have HLE : Hid ((b2_ ++ recsOf k (emptyG s) (fun i _ => ⟨5, i, 0⟩)).length ≤ 37) := Lib.hid (by have := recsOf_le k (emptyG s) (fun (i : Nat) (_ : Unit) => (⟨5, i, 0⟩ : RecD)); have := HL1.out; have := HND.out; have := HSZ.out; rw [List.length_append]; omega)
              generalize hR : b2_ ++ recsOf k (emptyG s) (fun i _ => ⟨5, i, 0⟩) = done at HN1 HLE HG1
              clear hR
              cases x
              · go_wp2
                exact ⟨⟨k + 1, by omega, by go_num, Lib.hid (by rw [HN1.out]; simpa using HG1.out)⟩, by simp [intOf]; omega⟩
              · go_wp2_with fail
                refine (giveUp_any w1 _ g _ 5 k 0 HG1.out (by have := HLE.out; omega)).mono ?_
                rintro e w3 ⟨rfl, hG, -⟩
                have HG2 := Lib.hid hG
                clear hG HG1
                go_wp2
                exact ⟨⟨k + 1, by omega, by go_num, Lib.hid (by rw [HN1.out]; exact HG2.out)⟩, by simp [intOf]; omega⟩
            · obtain ⟨rfl⟩ : d.n3 = k := by have := HND.out; omega
              have HAQ : Hid (givenL d s = (b2_ ++ recsOf d.n3 (emptyG s) (fun i _ => ⟨5, i, 0⟩)) ++ (s.lks.map (fun x => (⟨7, x, 0⟩ : RecD)))) := Lib.hid (by rw [HA1.out, List.append_assoc])
              have HL2 : Hid ((b2_ ++ recsOf d.n3 (emptyG s) (fun i _ => ⟨5, i, 0⟩)).length ≤ 36) := Lib.hid (by have := HL1.out; have := HSZ.out; have := recsOf_le d.n3 (emptyG s) (fun (i : Nat) (_ : Unit) => (⟨5, i, 0⟩ : RecD)); rw [List.length_append]; omega)
              generalize hR : b2_ ++ recsOf d.n3 (emptyG s) (fun i _ => ⟨5, i, 0⟩) = b3_ at HAQ HL2 HG1
              clear hR HA1 HL1
              have HA1 := HAQ
              have HL1 := HL2
              clear HAQ HL2
              have hC := (HZ.out.step HG1.out.1).C
              go_wp2_with fail
              go_loopw [56] (fun j wr => ∃ k : Nat, k ≤ s.lks.length ∧ j = .int .i64 k ∧ Hid (Gv w1 wr g (b3_ ++ (s.lks.take k).map (fun x => (⟨7, x, 0⟩ : RecD))))) (fun j _ => s.lks.length - (intOf j).toNat)
              case atStart => exact ⟨0, Nat.zero_le _, rfl, Lib.hid (by rw [List.take_zero, List.map_nil, List.append_nil]; exact HG1.out)⟩
              case round =>
                clear HG1 hC
                obtain ⟨k, hk, rfl, HG1⟩ := hrel
                by_cases hlt : k < s.lks.length
                · obtain ⟨b', off', rfl, hb', hc⟩ := (R3.out.below (HZ.out.step HG1.out.1).K (Nat.le_refl _)).cell hlt
                  have p0 := (hc 0 (by decide)).trans (lkCs_at s.lks (i := k * 1 + 0) (by omega))
                  rw [Nat.add_zero, Nat.mul_one] at p0
                  clear hc
                  have HN1 : Hid (b3_ ++ (s.lks.take (k + 1)).map (fun x => (⟨7, x, 0⟩ : RecD)) = (b3_ ++ (s.lks.take k).map (fun x => (⟨7, x, 0⟩ : RecD))) ++ [⟨7, lkA s.lks k, 0⟩]) := Lib.hid (by
                    rw [List.append_assoc, take_at (i := lkA s.lks k) (by rw [List.getElem?_eq_getElem hlt]; simp [lkA, List.getD, List.getElem?_eq_getElem hlt]), List.map_append]
                    rfl)
                  have HLE : Hid ((b3_ ++ (s.lks.take k).map (fun x => (⟨7, x, 0⟩ : RecD))).length ≤ 46) := Lib.hid (by
                    have := HL1.out
                    have hf := HLK.out
                    rw [List.length_append, List.length_map, List.length_take]
                    omega)
                  generalize lkA s.lks k = x at p0 HN1
                  generalize hR : b3_ ++ (s.lks.take k).map (fun x => (⟨7, x, 0⟩ : RecD)) = done at HN1 HLE HG1
                  clear hR
                  go_wp2_with fail
                  refine (giveUp_any w1 _ g _ 7 x 0 HG1.out (by have := HLE.out; omega)).mono ?_
                  rintro e w3 ⟨rfl, hG, -⟩
                  have HG2 := Lib.hid hG
                  clear hG HG1 p0
                  go_wp2
                  exact ⟨⟨k + 1, by omega, by go_num, Lib.hid (by rw [HN1.out]; exact HG2.out)⟩, by simp [intOf]; omega⟩
                · obtain rfl : k = s.lks.length := by omega
                  rw [List.take_length, ← HA1.out] at HG1
                  obtain ⟨K, v, X, O⟩ := HG1.out
                  have hX := X.C
                  go_wp2
                  go_ret
                  exact ⟨_, rfl, O.base HZ.out.K.size, HZ.out.K.trans (K.mono HZ.out.K.size)⟩
end Go.Proofs.YtobpjahjahlhpaaGreatDoor
/- Ia -/
set_option linter.unusedVariables false
namespace Go.Proofs.YtobpjahjahlhpaaGreatDoor
open Go.RowKit

/-- The cells of a tick: its plan's, its state's, its clock, what it has collected. -/
abbrev tkC (P0 P1 P2 P3 : Option Addr) (n0 k0 n1 k1 n2 k2 n3 k3 : Nat) (l p t : Int) (A0 A1 A2 A3 : Option Addr) (m0 c0 m1 c1 m2 c2 m3 c3 : Nat) (ph : Int) (co : Bool) (ck bo ba lb gd pr clk : Int) (v : Value) : Array Value :=
  #[.slice P0 n0 k0, .slice P1 n1 k1, .slice P2 n2 k2, .slice P3 n3 k3, .int .i64 l, .int .i64 p, .int .i64 t,
    .int .i64 ph, .bool co, .int .i64 ck, .int .i64 bo, .int .i64 ba, .int .i64 lb, .slice A0 m0 c0, .slice A1 m1 c1, .slice A2 m2 c2, .slice A3 m3 c3, .int .i64 gd, .int .i64 pr, .int .i64 clk, v]
/-- A box of a tick, the call's own. -/
def BoxTk (w : World) (B g : Nat) (xs : List Value) : Prop := w.ownsRow B 111 21 (.slice (some ⟨g, 0, none⟩) 1 1) 1 xs
theorem BoxTk.new {W : World} {B g : Nat} {cs : Array Value} (hg : W.heap.size = g) (hB : B ≤ W.heap.size) (hl : cs.size = 21) : BoxTk (W.alloc (.cells cs 111)) B g cs.toList := by
  subst hg
  exact own_of_heap (cur := cs) (heap_alloc_new W _) (by simp) (by simp [hl]) hB (by unfold maxLen; decide)
theorem BoxTk.at_ {w : World} {B g : Nat} {xs : List Value} (h : BoxTk w B g xs) (o : Nat) (ho : o < 21) : w.cell? ⟨g, o, none⟩ = xs[o]? := World.ownsRow.cellAt h o (by omega)
theorem BoxTk.C {w : World} {B g : Nat} {cs : Array Value} (h : BoxTk w B g cs.toList) : ∀ o, w.cell? ⟨g, o, none⟩ = cs[o]? := by
  intro o
  obtain ⟨hl, ⟨hv, _⟩ | ⟨g', cap, cur, hv, hb, hh, hnc, hcm, hsz, ht⟩⟩ := id h
  · cases hv
  · injection hv with h1 h2 h3
    injection h1 with h1
    injection h1 with h1 _ _
    subst h1 h3
    by_cases ho : o < 21
    · rw [h.at_ o ho, Array.getElem?_toList]
    · rw [cell_of_row _ _ _ _ _ _ hh, Array.getElem?_eq_none (by omega), Array.getElem?_eq_none (by simpa using (by omega : cs.toList.length ≤ o))]
theorem BoxTk.frozen {w : World} {B g : Nat} {xs : List Value} (h : BoxTk w B g xs) (o : Nat) : w.frozen? ⟨g, o, none⟩ = false := World.ownsRow.frozenAt h o
theorem BoxTk.lt {w : World} {B g : Nat} {xs : List Value} (h : BoxTk w B g xs) : B ≤ g ∧ g < w.heap.size := World.ownsRow.lt h g rfl
theorem BoxTk.go {w w' : World} {B g : Nat} {xs : List Value} (h : BoxTk w B g xs) (hb : Below w.heap.size w w') : BoxTk w' B g xs := ownsRow_below h hb
theorem keeps_setT (w : World) (g o : Nat) (u : Value) : Keeps (· = g) w (w.setCell ⟨g, o, none⟩ u) := (Keeps.refl (· = g) w).set rfl u

/-- Rows but of ticks and of records are as they were. -/
def KRow (W W' : World) : Prop := ∀ (B e k n : Nat) (u : Value) (xs : List Value), e ≠ 111 → e ≠ 69 → W.ownsRow B e k u n xs → W'.ownsRow B e k u n xs
theorem KRow.refl (W : World) : KRow W W := fun _ _ _ _ _ _ _ _ h => h
theorem KRow.trans {a b c : World} (h : KRow a b) (h' : KRow b c) : KRow a c := fun B e k n u xs h1 h2 x => h' B e k n u xs h1 h2 (h B e k n u xs h1 h2 x)
theorem KRow.step {a b c : World} (h : KRow a b) (hb : Below b.heap.size b c) : KRow a c := fun B e k n u xs h1 h2 x => ownsRow_below (h B e k n u xs h1 h2 x) hb
theorem KRow.row {a b c : World} {B e k n : Nat} {v : Value} {xs : List Value} (h : KRow a b) (O : b.ownsRow B e k v n xs) (he : e = 111 ∨ e = 69) (kp : Keeps (fun q => v.ownBlock = some q) b c) : KRow a c := fun B' e' k' n' u ys h1 h2 x =>
  ownsRow_keeps (h B' e' k' n' u ys h1 h2 x) kp fun r hr hv => by
    have := row_type (h B' e' k' n' u ys h1 h2 x) O hr hv
    rcases he with rfl | rfl
    · exact h1 this
    · exact h2 this

/-- A tick in its box: of a plan and a state that can be read below w0; what it has collected is its own. -/
def Tk (w0 W : World) (g : Nat) (d : PlanD) (s : StD) (l : List RecD) : Prop :=
  Below w0.heap.size w0 W ∧ ∃ pv sv v, IsPlan w0 w0.heap.size pv d ∧ IsSt w0 w0.heap.size sv s ∧ (∃ pc sc : Array Value, pv = .agg pc ∧ sv = .agg sc ∧ BoxTk W w0.heap.size g (pc.toList ++ (sc.toList ++ [.int .i64 (s.ck + 1), v]))) ∧ OR W w0.heap.size v l
theorem Tk.step {w0 W W' : World} {g : Nat} {d : PlanD} {s : StD} {l : List RecD} (h : Tk w0 W g d s l) (hb : Below W.heap.size W W') : Tk w0 W' g d s l := by
  obtain ⟨K, pv, sv, v, hp, hs, ⟨pc, sc, ep, es, X⟩, O⟩ := h
  exact ⟨K.trans (hb.mono K.size), pv, sv, v, hp, hs, ⟨pc, sc, ep, es, X.go hb⟩, O.below hb⟩
/-- What a method that collects answers. -/
def TkP (w0 W : World) (g : Nat) (d : PlanD) (s : StD) (l : List RecD) (e : Ending) (w' : World) : Prop := e = .returned (.tuple #[]) ∧ Tk w0 w' g d s l ∧ KRow W w'

set_option maxRecDepth 100000 in
set_option maxHeartbeats 8000000 in
theorem collect_any (w0 W : World) (g : Nat) (d : PlanD) (s : StD) (l : List RecD) (k a b : Int) (h : Tk w0 W g d s l) (hl : l.length ≤ 100) :
    Calls Tryz.prog 45 #[.pointer (some ⟨g, 0, none⟩), .agg #[.int .i64 k, .int .i64 a, .int .i64 b]] W (TkP w0 W g d s (l ++ [⟨k, a, b⟩])) := by
  obtain ⟨K, pv, sv, v, hp, hs, ⟨pc, sc, ep, es, X⟩, O⟩ := h
  have HP := Lib.hid hp
  have HS := Lib.hid hs
  obtain ⟨⟨P0, P1, P2, P3, k0, k1, k2, k3, rfl, s0, s1, s2, s3⟩, b0, b1, b2, b3⟩ := hp
  obtain ⟨⟨A0, A1, A2, A3, c0, c1, c2, c3, rfl, t0, t1, t2, t3⟩, f0, f1, f2, f3⟩ := hs
  injection ep with ep
  injection es with es
  subst ep es
  clear s0 s1 s2 s3 t0 t1 t2 t3 b0 b1 b2 b3 f0 f1 f2 f3
  obtain ⟨A, c, rfl, -, -⟩ := O.slv
  obtain ⟨i0, hi, hz0, hz1, hz2⟩ := info_parts info_rec
  replace X : BoxTk W w0.heap.size g (tkC P0 P1 P2 P3 d.n0 k0 d.n1 k1 d.n2 k2 d.n3 k3 d.l d.p d.t A0 A1 A2 A3 s.pods.length c0 s.mnts.length c1 s.devs.length c2 s.lks.length c3 s.ph s.co s.ck s.bo s.ba s.lb s.gd s.pr (s.ck + 1) (.slice A l.length c)).toList := X
  have hb := (Below.refl W.heap.size W).alloc (Nat.le_refl _) (.cells #[.int .i64 k, .int .i64 a, .int .i64 b] 69)
  have KR := (KRow.refl W).step hb
  have H3 := cell_new W #[.int .i64 k, .int .i64 a, .int .i64 b] 69
  replace X := X.go hb
  replace O := O.below hb
  replace K := K.trans (hb.mono K.size)
  clear hb
  go_enter Tryz.func45, Tryz.ntmps45
  go_upto_region 1 with fail
  generalize W.alloc (.cells #[.int .i64 k, .int .i64 a, .int .i64 b] 69) = w1 at X O K KR H3 ⊢
  generalize W.heap.size = R3 at H3 ⊢
  refine wp_region_noPanic ?_
  refine wp_region_held_drew (S := fun _ => True) (by kernel_rfl) trivial (fun _ => ?_)
  have hb : Below w1.heap.size w1 w1.drew := (Below.refl _ _).drew
  replace X := X.go hb
  replace O := O.below hb
  replace K := K.trans (hb.mono K.size)
  replace KR := KR.step hb
  replace H3 : ∀ o, w1.drew.cell? ⟨R3, o, none⟩ = (#[.int .i64 k, .int .i64 a, .int .i64 b] : Array Value)[o]? := H3
  clear hb
  generalize w1.drew = v0 at X O K KR H3 ⊢
  refine wpAnyH_take (i := 0) (v := ?_) rfl (by kernel_rfl) (by kernel_rfl) (by kernel_rfl) (fun _ _ _ h => h) (Or.inl ⟨by rfl, ?_⟩) trivial ?_
  rotate_left 1
  · intro w hSw
    clear hSw
    go_simp
    try with_reducible rfl
  change wpAnyH _ _ _ _ _ _ _ (Act.put _ (some 4) _) _
  dsimp only [Act.put]
  refine wpAnyH_take (i := 1) (v := ?_) rfl (by kernel_rfl) (by kernel_rfl) (by kernel_rfl) (fun _ _ _ h => h) (Or.inl ⟨by rfl, ?_⟩) trivial ?_
  rotate_left 1
  · intro w hSw
    clear hSw
    go_simp
    try with_reducible rfl
  change wpAnyH _ _ _ _ _ _ _ (Act.put _ (some 5) _) _
  dsimp only [Act.put]
  refine wpAnyH_take (i := 2) (v := ?_) rfl (by kernel_rfl) (by kernel_rfl) (by kernel_rfl) (fun _ _ _ h => h) (Or.inl ⟨by rfl, ?_⟩) trivial ?_
  rotate_left 1
  · intro w hSw
    clear hSw
    go_simp
    try with_reducible rfl
  change wpAnyH _ _ _ _ _ _ _ (Act.put _ (some 6) _) _
  dsimp only [Act.put]
  refine wpAnyH_take (i := 3) (v := ?_) rfl (by kernel_rfl) (by kernel_rfl) (by kernel_rfl) (fun _ _ _ h => h) (Or.inl ⟨by rfl, ?_⟩) trivial ?_
  rotate_left 1
  · intro w hSw
    clear hSw
    go_simp
    try with_reducible rfl
  change wpAnyH _ _ _ _ _ _ _ (Act.put _ (some 7) _) _
  dsimp only [Act.put]
  refine wpAnyH_ready (rs := [4, 5]) (by kernel_rfl) (by simp) ?_
  refine AllReadyH.cons rfl (fun K' hK => ?_) ?_
  · skip
    have hC := X.C
    go_simp
    clear hC
    refine hK.out _ _ trivial (fun _ => ?_)
    clear hK K'
    try (change wpAnyH _ _ _ _ _ _ _ (Act.put _ (some 8) _) _; dsimp only [Act.put])
    refine wpAnyH_ready (rs := [5]) (by kernel_rfl) (by simp) ?_
    refine AllReadyH.cons rfl (fun K' hK => ?_) AllReadyH.nil
    go_simp
    refine hK.out _ _ trivial (fun _ => ?_)
    clear hK K'
    try (change wpAnyH _ _ _ _ _ _ _ (Act.put _ (some 9) _) _; dsimp only [Act.put])
    refine wpAnyH_ready (rs := [6]) (by kernel_rfl) (by simp) ?_
    refine AllReadyH.cons rfl (fun K' hK => ?_) AllReadyH.nil
    go_simp
    have HN := heap_alloc_new v0 (.cells #[.int .i64 k, .int .i64 a, .int .i64 b] 69)
    have hb := (Below.refl v0.heap.size v0).alloc (Nat.le_refl _) (.cells #[.int .i64 k, .int .i64 a, .int .i64 b] 69)
    replace X := X.go hb
    replace O := O.below hb
    replace K := K.trans (hb.mono K.size)
    replace KR := KR.step hb
    clear hb H3
    obtain ⟨v1, hwv⟩ : ∃ W, v0.alloc (.cells #[.int .i64 k, .int .i64 a, .int .i64 b] 69) = W := ⟨_, rfl⟩
    rw [hwv] at HN X O K KR ⊢
    clear hwv
    obtain ⟨R8, hR8⟩ : ∃ R, v0.heap.size = R := ⟨_, rfl⟩
    rw [hR8] at HN ⊢
    clear hR8
    refine hK.out _ _ trivial (fun _ => ?_)
    clear hK K'
    try (change wpAnyH _ _ _ _ _ _ _ (Act.put _ (some 10) _) _; dsimp only [Act.put])
    refine wpAnyH_ready (rs := [7]) (by kernel_rfl) (by simp) ?_
    refine AllReadyH.cons rfl (fun K' hK => ?_) AllReadyH.nil
    refine step_append_lies _ rfl (.tmp 8) (.tmp 10) 39 rfl w0.heap.size 69 i0 (.agg #[.int .i64 0, .int .i64 0, .int .i64 0]) 3 24 Tryz.underlying39 hi hz0 hz1 hz2 rfl (by decide) (.slice A l.length c) l.length (recVs l) rfl O ⟨R8, 0, none⟩ 1 1 [.int .i64 k, .int .i64 a, .int .i64 b] rfl rfl (World.news_of_block HN) (by simp [Value.oneCell']) (by decide) (by unfold maxLen; omega) (by omega) K.size _ rfl ?_
    rintro g2 cap v2 hown hgrow - -
    have kp : Keeps (fun b => (Value.slice A l.length c).ownBlock = some b) v1 v2 := ⟨hgrow.os, hgrow.tape, hgrow.output, hgrow.size, fun b hb hn => hgrow.block b hb fun e => hn e.symm⟩
    replace K := K.trans ((Below.refl _ _).grown hgrow K.size fun r hr => (O.lt hr).1)
    replace X : BoxTk _ _ _ _ := ownsRow_keeps X kp fun r hr e => absurd (row_type X O hr e) (by decide)
    replace KR := KR.row O (.inr rfl) kp
    have O2 : OR v2 w0.heap.size (.slice (some ⟨g2, 0, none⟩) (l.length + 1) cap) (l ++ [⟨k, a, b⟩]) := by
      unfold OR
      rw [List.length_append, recVs_append]
      exact hown
    clear O HN hgrow kp hown
    refine hK.out _ _ trivial (fun _ => ?_)
    clear hK K'
    try (change wpAnyH _ _ _ _ _ _ _ (Act.put _ (some 11) _) _; dsimp only [Act.put])
    refine wpAnyH_take (i := 8) (v := ?_) rfl (by kernel_rfl) (by kernel_rfl) (by kernel_rfl) (fun _ _ _ h => h) (Or.inl ⟨by rfl, ?_⟩) trivial ?_
    rotate_left 1
    · intro w hSw
      clear hSw
      go_simp
      try with_reducible rfl
    change wpAnyH _ _ _ _ _ _ _ (Act.put _ (some 12) _) _
    dsimp only [Act.put]
    refine wpAnyH_take (i := 9) (v := ?_) rfl (by kernel_rfl) (by kernel_rfl) (by kernel_rfl) (fun _ _ _ h => h) (Or.inl ⟨by rfl, ?_⟩) trivial ?_
    rotate_left 1
    · intro w hSw
      clear hSw
      go_simp
      try with_reducible rfl
    change wpAnyH _ _ _ _ _ _ _ (Act.put _ (some 13) _) _
    dsimp only [Act.put]
    refine wpAnyH_ready (rs := [10]) (by kernel_rfl) (by simp) ?_
    refine AllReadyH.cons rfl (fun K' hK => ?_) AllReadyH.nil
    have hC := X.C
    have hF := X.frozen
    go_simp
    clear hC hF
    have kp : Keeps (fun b => (Value.slice (some ⟨g, 0, none⟩) 1 1).ownBlock = some b) v2 (v2.setCell ⟨g, 20, none⟩ (.slice (some ⟨g2, 0, none⟩) (l.length + 1) cap)) := (keeps_setT v2 g 20 _).mono fun b e => by rw [e]; rfl
    replace K := K.setCell (p := ⟨g, 20, none⟩) X.lt.1 (.slice (some ⟨g2, 0, none⟩) (l.length + 1) cap)
    replace KR := KR.row X (.inl rfl) kp
    replace O2 : OR _ _ _ _ := ownsRow_keeps O2 kp fun r hr e => absurd (row_type O2 X hr e) (by decide)
    replace X := (World.ownsRow.stored X 20 (.slice (some ⟨g2, 0, none⟩) (l.length + 1) cap)).1
    clear kp
    generalize v2.setCell ⟨g, 20, none⟩ (.slice (some ⟨g2, 0, none⟩) (l.length + 1) cap) = v3 at X O2 K KR ⊢
    refine hK.out _ _ trivial (fun _ => ?_)
    clear hK K'
    try (change wpAnyH _ _ _ _ _ _ _ (Act.put _ none _) _; dsimp only [Act.put])
    refine wpAnyH_done (by kernel_rfl) ?_ _
    refine NoPanic.normal ?_
    go_wp2_with fail
    refine bodyPost_ret (v := .tuple #[]) (by simp [results, Tryz.results45, go_sem]) rfl ?_
    exact ⟨rfl, ⟨K, _, _, _, HP.out, HS.out, ⟨_, _, rfl, rfl, X⟩, O2⟩, KR⟩
  refine AllReadyH.cons rfl (fun K' hK => ?_) AllReadyH.nil
  go_simp
  refine hK.out _ _ trivial (fun _ => ?_)
  clear hK K'
  try (change wpAnyH _ _ _ _ _ _ _ (Act.put _ (some 9) _) _; dsimp only [Act.put])
  refine wpAnyH_ready (rs := [4, 6]) (by kernel_rfl) (by simp) ?_
  refine AllReadyH.cons rfl (fun K' hK => ?_) ?_
  · skip
    have hC := X.C
    go_simp
    clear hC
    refine hK.out _ _ trivial (fun _ => ?_)
    clear hK K'
    try (change wpAnyH _ _ _ _ _ _ _ (Act.put _ (some 8) _) _; dsimp only [Act.put])
    refine wpAnyH_ready (rs := [6]) (by kernel_rfl) (by simp) ?_
    refine AllReadyH.cons rfl (fun K' hK => ?_) AllReadyH.nil
    go_simp
    have HN := heap_alloc_new v0 (.cells #[.int .i64 k, .int .i64 a, .int .i64 b] 69)
    have hb := (Below.refl v0.heap.size v0).alloc (Nat.le_refl _) (.cells #[.int .i64 k, .int .i64 a, .int .i64 b] 69)
    replace X := X.go hb
    replace O := O.below hb
    replace K := K.trans (hb.mono K.size)
    replace KR := KR.step hb
    clear hb H3
    obtain ⟨v1, hwv⟩ : ∃ W, v0.alloc (.cells #[.int .i64 k, .int .i64 a, .int .i64 b] 69) = W := ⟨_, rfl⟩
    rw [hwv] at HN X O K KR ⊢
    clear hwv
    obtain ⟨R8, hR8⟩ : ∃ R, v0.heap.size = R := ⟨_, rfl⟩
    rw [hR8] at HN ⊢
    clear hR8
    refine hK.out _ _ trivial (fun _ => ?_)
    clear hK K'
    try (change wpAnyH _ _ _ _ _ _ _ (Act.put _ (some 10) _) _; dsimp only [Act.put])
    refine wpAnyH_ready (rs := [7]) (by kernel_rfl) (by simp) ?_
    refine AllReadyH.cons rfl (fun K' hK => ?_) AllReadyH.nil
    refine step_append_lies _ rfl (.tmp 8) (.tmp 10) 39 rfl w0.heap.size 69 i0 (.agg #[.int .i64 0, .int .i64 0, .int .i64 0]) 3 24 Tryz.underlying39 hi hz0 hz1 hz2 rfl (by decide) (.slice A l.length c) l.length (recVs l) rfl O ⟨R8, 0, none⟩ 1 1 [.int .i64 k, .int .i64 a, .int .i64 b] rfl rfl (World.news_of_block HN) (by simp [Value.oneCell']) (by decide) (by unfold maxLen; omega) (by omega) K.size _ rfl ?_
    rintro g2 cap v2 hown hgrow - -
    have kp : Keeps (fun b => (Value.slice A l.length c).ownBlock = some b) v1 v2 := ⟨hgrow.os, hgrow.tape, hgrow.output, hgrow.size, fun b hb hn => hgrow.block b hb fun e => hn e.symm⟩
    replace K := K.trans ((Below.refl _ _).grown hgrow K.size fun r hr => (O.lt hr).1)
    replace X : BoxTk _ _ _ _ := ownsRow_keeps X kp fun r hr e => absurd (row_type X O hr e) (by decide)
    replace KR := KR.row O (.inr rfl) kp
    have O2 : OR v2 w0.heap.size (.slice (some ⟨g2, 0, none⟩) (l.length + 1) cap) (l ++ [⟨k, a, b⟩]) := by
      unfold OR
      rw [List.length_append, recVs_append]
      exact hown
    clear O HN hgrow kp hown
    refine hK.out _ _ trivial (fun _ => ?_)
    clear hK K'
    try (change wpAnyH _ _ _ _ _ _ _ (Act.put _ (some 11) _) _; dsimp only [Act.put])
    refine wpAnyH_take (i := 8) (v := ?_) rfl (by kernel_rfl) (by kernel_rfl) (by kernel_rfl) (fun _ _ _ h => h) (Or.inl ⟨by rfl, ?_⟩) trivial ?_
    rotate_left 1
    · intro w hSw
      clear hSw
      go_simp
      try with_reducible rfl
    change wpAnyH _ _ _ _ _ _ _ (Act.put _ (some 12) _) _
    dsimp only [Act.put]
    refine wpAnyH_take (i := 9) (v := ?_) rfl (by kernel_rfl) (by kernel_rfl) (by kernel_rfl) (fun _ _ _ h => h) (Or.inl ⟨by rfl, ?_⟩) trivial ?_
    rotate_left 1
    · intro w hSw
      clear hSw
      go_simp
      try with_reducible rfl
    change wpAnyH _ _ _ _ _ _ _ (Act.put _ (some 13) _) _
    dsimp only [Act.put]
    refine wpAnyH_ready (rs := [10]) (by kernel_rfl) (by simp) ?_
    refine AllReadyH.cons rfl (fun K' hK => ?_) AllReadyH.nil
    have hC := X.C
    have hF := X.frozen
    go_simp
    clear hC hF
    have kp : Keeps (fun b => (Value.slice (some ⟨g, 0, none⟩) 1 1).ownBlock = some b) v2 (v2.setCell ⟨g, 20, none⟩ (.slice (some ⟨g2, 0, none⟩) (l.length + 1) cap)) := (keeps_setT v2 g 20 _).mono fun b e => by rw [e]; rfl
    replace K := K.setCell (p := ⟨g, 20, none⟩) X.lt.1 (.slice (some ⟨g2, 0, none⟩) (l.length + 1) cap)
    replace KR := KR.row X (.inl rfl) kp
    replace O2 : OR _ _ _ _ := ownsRow_keeps O2 kp fun r hr e => absurd (row_type O2 X hr e) (by decide)
    replace X := (World.ownsRow.stored X 20 (.slice (some ⟨g2, 0, none⟩) (l.length + 1) cap)).1
    clear kp
    generalize v2.setCell ⟨g, 20, none⟩ (.slice (some ⟨g2, 0, none⟩) (l.length + 1) cap) = v3 at X O2 K KR ⊢
    refine hK.out _ _ trivial (fun _ => ?_)
    clear hK K'
    try (change wpAnyH _ _ _ _ _ _ _ (Act.put _ none _) _; dsimp only [Act.put])
    refine wpAnyH_done (by kernel_rfl) ?_ _
    refine NoPanic.normal ?_
    go_wp2_with fail
    refine bodyPost_ret (v := .tuple #[]) (by simp [results, Tryz.results45, go_sem]) rfl ?_
    exact ⟨rfl, ⟨K, _, _, _, HP.out, HS.out, ⟨_, _, rfl, rfl, X⟩, O2⟩, KR⟩
  refine AllReadyH.cons rfl (fun K' hK => ?_) AllReadyH.nil
  go_simp
  have HN := heap_alloc_new v0 (.cells #[.int .i64 k, .int .i64 a, .int .i64 b] 69)
  have hb := (Below.refl v0.heap.size v0).alloc (Nat.le_refl _) (.cells #[.int .i64 k, .int .i64 a, .int .i64 b] 69)
  replace X := X.go hb
  replace O := O.below hb
  replace K := K.trans (hb.mono K.size)
  replace KR := KR.step hb
  clear hb H3
  obtain ⟨v1, hwv⟩ : ∃ W, v0.alloc (.cells #[.int .i64 k, .int .i64 a, .int .i64 b] 69) = W := ⟨_, rfl⟩
  rw [hwv] at HN X O K KR ⊢
  clear hwv
  obtain ⟨R8, hR8⟩ : ∃ R, v0.heap.size = R := ⟨_, rfl⟩
  rw [hR8] at HN ⊢
  clear hR8
  refine hK.out _ _ trivial (fun _ => ?_)
  clear hK K'
  try (change wpAnyH _ _ _ _ _ _ _ (Act.put _ (some 10) _) _; dsimp only [Act.put])
  refine wpAnyH_ready (rs := [4]) (by kernel_rfl) (by simp) ?_
  refine AllReadyH.cons rfl (fun K' hK => ?_) AllReadyH.nil
  have hC := X.C
  go_simp
  clear hC
  refine hK.out _ _ trivial (fun _ => ?_)
  clear hK K'
  try (change wpAnyH _ _ _ _ _ _ _ (Act.put _ (some 8) _) _; dsimp only [Act.put])
  refine wpAnyH_ready (rs := [7]) (by kernel_rfl) (by simp) ?_
  refine AllReadyH.cons rfl (fun K' hK => ?_) AllReadyH.nil
  refine step_append_lies _ rfl (.tmp 8) (.tmp 10) 39 rfl w0.heap.size 69 i0 (.agg #[.int .i64 0, .int .i64 0, .int .i64 0]) 3 24 Tryz.underlying39 hi hz0 hz1 hz2 rfl (by decide) (.slice A l.length c) l.length (recVs l) rfl O ⟨R8, 0, none⟩ 1 1 [.int .i64 k, .int .i64 a, .int .i64 b] rfl rfl (World.news_of_block HN) (by simp [Value.oneCell']) (by decide) (by unfold maxLen; omega) (by omega) K.size _ rfl ?_
  rintro g2 cap v2 hown hgrow - -
  have kp : Keeps (fun b => (Value.slice A l.length c).ownBlock = some b) v1 v2 := ⟨hgrow.os, hgrow.tape, hgrow.output, hgrow.size, fun b hb hn => hgrow.block b hb fun e => hn e.symm⟩
  replace K := K.trans ((Below.refl _ _).grown hgrow K.size fun r hr => (O.lt hr).1)
  replace X : BoxTk _ _ _ _ := ownsRow_keeps X kp fun r hr e => absurd (row_type X O hr e) (by decide)
  replace KR := KR.row O (.inr rfl) kp
  have O2 : OR v2 w0.heap.size (.slice (some ⟨g2, 0, none⟩) (l.length + 1) cap) (l ++ [⟨k, a, b⟩]) := by
    unfold OR
    rw [List.length_append, recVs_append]
    exact hown
  clear O HN hgrow kp hown
  refine hK.out _ _ trivial (fun _ => ?_)
  clear hK K'
  try (change wpAnyH _ _ _ _ _ _ _ (Act.put _ (some 11) _) _; dsimp only [Act.put])
  refine wpAnyH_take (i := 8) (v := ?_) rfl (by kernel_rfl) (by kernel_rfl) (by kernel_rfl) (fun _ _ _ h => h) (Or.inl ⟨by rfl, ?_⟩) trivial ?_
  rotate_left 1
  · intro w hSw
    clear hSw
    go_simp
    try with_reducible rfl
  change wpAnyH _ _ _ _ _ _ _ (Act.put _ (some 12) _) _
  dsimp only [Act.put]
  refine wpAnyH_take (i := 9) (v := ?_) rfl (by kernel_rfl) (by kernel_rfl) (by kernel_rfl) (fun _ _ _ h => h) (Or.inl ⟨by rfl, ?_⟩) trivial ?_
  rotate_left 1
  · intro w hSw
    clear hSw
    go_simp
    try with_reducible rfl
  change wpAnyH _ _ _ _ _ _ _ (Act.put _ (some 13) _) _
  dsimp only [Act.put]
  refine wpAnyH_ready (rs := [10]) (by kernel_rfl) (by simp) ?_
  refine AllReadyH.cons rfl (fun K' hK => ?_) AllReadyH.nil
  have hC := X.C
  have hF := X.frozen
  go_simp
  clear hC hF
  have kp : Keeps (fun b => (Value.slice (some ⟨g, 0, none⟩) 1 1).ownBlock = some b) v2 (v2.setCell ⟨g, 20, none⟩ (.slice (some ⟨g2, 0, none⟩) (l.length + 1) cap)) := (keeps_setT v2 g 20 _).mono fun b e => by rw [e]; rfl
  replace K := K.setCell (p := ⟨g, 20, none⟩) X.lt.1 (.slice (some ⟨g2, 0, none⟩) (l.length + 1) cap)
  replace KR := KR.row X (.inl rfl) kp
  replace O2 : OR _ _ _ _ := ownsRow_keeps O2 kp fun r hr e => absurd (row_type O2 X hr e) (by decide)
  replace X := (World.ownsRow.stored X 20 (.slice (some ⟨g2, 0, none⟩) (l.length + 1) cap)).1
  clear kp
  generalize v2.setCell ⟨g, 20, none⟩ (.slice (some ⟨g2, 0, none⟩) (l.length + 1) cap) = v3 at X O2 K KR ⊢
  refine hK.out _ _ trivial (fun _ => ?_)
  clear hK K'
  try (change wpAnyH _ _ _ _ _ _ _ (Act.put _ none _) _; dsimp only [Act.put])
  refine wpAnyH_done (by kernel_rfl) ?_ _
  refine NoPanic.normal ?_
  go_wp2_with fail
  refine bodyPost_ret (v := .tuple #[]) (by simp [results, Tryz.results45, go_sem]) rfl ?_
  exact ⟨rfl, ⟨K, _, _, _, HP.out, HS.out, ⟨_, _, rfl, rfl, X⟩, O2⟩, KR⟩
end Go.Proofs.YtobpjahjahlhpaaGreatDoor
/- Ib -/
set_option linter.unusedVariables false
namespace Go.Proofs.YtobpjahjahlhpaaGreatDoor
open Go.RowKit

theorem toW {w0 W W' : World} (K : Below w0.heap.size w0 W) (hb : Below W.heap.size W W') : Below w0.heap.size w0 W' := K.trans (hb.mono K.size)
theorem planAt {w0 W : World} {v : Value} {d : PlanD} (h : IsPlan w0 w0.heap.size v d) (K : Below w0.heap.size w0 W) : IsPlan W W.heap.size v d := (h.below K (Nat.le_refl _)).more K.size
theorem stAt {w0 W : World} {v : Value} {s : StD} (h : IsSt w0 w0.heap.size v s) (K : Below w0.heap.size w0 W) : IsSt W W.heap.size v s := (h.below K (Nat.le_refl _)).more K.size
/-- Is a lock waited for? -/
def waitsB (s : StD) : Bool := decide (0 < s.lks.length) && decide (s.ck + 1 < s.lb)
theorem waitsB_iff {s : StD} : waitsB s = true ↔ s.lks ≠ [] ∧ s.ck + 1 < s.lb := by
  unfold waitsB
  rw [Bool.and_eq_true, decide_eq_true_eq, decide_eq_true_eq, List.length_pos_iff]

set_option maxRecDepth 100000 in
set_option maxHeartbeats 8000000 in
theorem waits_any (w0 W : World) (g : Nat) (d : PlanD) (s : StD) (l : List RecD) (h : Tk w0 W g d s l) :
    Calls Tryz.prog 93 #[.pointer (some ⟨g, 0, none⟩)] W fun e w' => e = .returned (.bool (waitsB s)) ∧ Below W.heap.size W w' := by
  obtain ⟨K, pv, sv, v, hp, hs, ⟨pc, sc, ep, es, X⟩, O⟩ := h
  have HP := Lib.hid hp
  have HS := Lib.hid hs
  obtain ⟨⟨P0, P1, P2, P3, k0, k1, k2, k3, rfl, s0, s1, s2, s3⟩, b0, b1, b2, b3⟩ := hp
  obtain ⟨⟨A0, A1, A2, A3, c0, c1, c2, c3, rfl, t0, t1, t2, t3⟩, f0, f1, f2, f3⟩ := hs
  injection ep with ep
  injection es with es
  subst ep es
  unfold maxLen at b0 b1 b2 b3 f0 f1 f2 f3
  replace X : BoxTk W w0.heap.size g (tkC P0 P1 P2 P3 d.n0 k0 d.n1 k1 d.n2 k2 d.n3 k3 d.l d.p d.t A0 A1 A2 A3 s.pods.length c0 s.mnts.length c1 s.devs.length c2 s.lks.length c3 s.ph s.co s.ck s.bo s.ba s.lb s.gd s.pr (s.ck + 1) v).toList := X
  clear s0 s1 s2 s3 t0 t1 t2 t3
  have hC := X.C
  obtain ⟨ans, hans⟩ : ∃ ans, waitsB s = ans := ⟨_, rfl⟩
  rw [hans]
  have HANS := Lib.hid hans
  have HU : Hid (waitsB s = (decide (0 < s.lks.length) && decide (s.ck + 1 < s.lb))) := Lib.hid rfl
  clear hans
  by_cases hl : 0 < s.lks.length
  · have hl2 : (0 : Int) < s.lks.length := by omega
    by_cases hb : s.ck + 1 < s.lb
    · have HA : Hid (ans = true) := Lib.hid (by rw [← HANS.out, HU.out]; simp [hl, hb])
      go_enter Tryz.func93, Tryz.ntmps93
      go_wp2_with fail
      go_quiet (fail)
      go_wp2
      all_goals (go_ret; exact ⟨ret_bool HA.out.symm, below_drewN (Below.refl _ _) _⟩)
    · have HA : Hid (ans = false) := Lib.hid (by rw [← HANS.out, HU.out]; simp [hb])
      go_enter Tryz.func93, Tryz.ntmps93
      go_wp2_with fail
      go_quiet (fail)
      go_wp2
      all_goals (go_ret; exact ⟨ret_bool (by rw [HA.out]; first | rfl | simp [hb]), below_drewN (Below.refl _ _) _⟩)
  · have hl2 : ¬ (0 : Int) < s.lks.length := by omega
    have HA : Hid (ans = false) := Lib.hid (by rw [← HANS.out, HU.out]; simp [hl])
    go_enter Tryz.func93, Tryz.ntmps93
    go_wp2_with fail
    go_quiet (fail)
    go_wp2
    all_goals (go_ret; exact ⟨ret_bool HA.out.symm, below_drewN (Below.refl _ _) _⟩)

theorem any_take_no {L : List Int} {p : Int → Bool} {k : Nat} {x : Int} (hx : L[k]? = some x) (h : (L.take k).any p = false) (hp : p x = false) : (L.take (k + 1)).any p = false := by
  rw [take_at hx, List.any_append, h]
  simp [hp]
theorem any_take_yes {L : List Int} {p : Int → Bool} {k : Nat} {x : Int} (hx : L[k]? = some x) (hp : p x = true) : L.any p = true := List.any_eq_true.2 ⟨x, List.mem_of_getElem? hx, hp⟩
set_option maxRecDepth 100000 in
set_option maxHeartbeats 8000000 in
theorem anyAlive_any (w0 W : World) (g : Nat) (d : PlanD) (s : StD) (l : List RecD) (h : Tk w0 W g d s l) (hok : StOk d s) (B cL : Nat) (AL : Option Addr) (L : List Int)
    (hL : W.ownsRow B 2 1 (.slice AL L.length cL) L.length (L.map (Value.int .i64))) (hin : ∀ k, k < L.length → ∃ i : Nat, L[k]? = some (i : Int) ∧ i < d.n0) (hlen : L.length ≤ 12) :
    Calls Tryz.prog 94 #[.pointer (some ⟨g, 0, none⟩), .slice AL L.length cL] W fun e w' => e = .returned (.bool (L.any fun i => aliveB (podAt s i.toNat).1)) ∧ Below W.heap.size W w' := by
  obtain ⟨K, pv, sv, v, hp, hs, ⟨pc, sc, ep, es, X⟩, O⟩ := h
  have HP := Lib.hid hp
  have HS := Lib.hid hs
  obtain ⟨⟨P0, P1, P2, P3, k0, k1, k2, k3, rfl, s0, s1, s2, s3⟩, b0, b1, b2, b3⟩ := hp
  obtain ⟨⟨A0, A1, A2, A3, c0, c1, c2, c3, rfl, t0, t1, t2, t3⟩, f0, f1, f2, f3⟩ := hs
  injection ep with ep
  injection es with es
  subst ep es
  unfold maxLen at b0 b1 b2 b3 f0 f1 f2 f3
  replace X : BoxTk W w0.heap.size g (tkC P0 P1 P2 P3 d.n0 k0 d.n1 k1 d.n2 k2 d.n3 k3 d.l d.p d.t A0 A1 A2 A3 s.pods.length c0 s.mnts.length c1 s.devs.length c2 s.lks.length c3 s.ph s.co s.ck s.bo s.ba s.lb s.gd s.pr (s.ck + 1) v).toList := X
  have S0 := Lib.hid s0
  have S1 := Lib.hid s1
  have S2 := Lib.hid s2
  have S3 := Lib.hid s3
  have R0 := Lib.hid t0
  have R1 := Lib.hid t1
  have R2 := Lib.hid t2
  have R3 := Lib.hid t3
  clear s0 s1 s2 s3 t0 t1 t2 t3
  have hC := X.C
  have HL := Lib.hid hL
  have HIN := Lib.hid hin
  have HNP := Lib.hid hok.np
  have HK := Lib.hid K
  obtain ⟨ans, hans⟩ : ∃ ans, (L.any fun i => aliveB (podAt s i.toNat).1) = ans := ⟨_, rfl⟩
  rw [hans]
  have HANS := Lib.hid hans
  clear hans hL hin hok O X
  go_enter Tryz.func94, Tryz.ntmps94
  go_wp2_with fail
  go_loopw [9] (fun j wr => ∃ k : Nat, k ≤ L.length ∧ j = .int .i64 k ∧ W = wr ∧ Hid ((L.take k).any (fun i => aliveB (podAt s i.toNat).1) = false)) (fun j _ => L.length - (intOf j).toNat)
  case atStart => exact ⟨0, Nat.zero_le _, rfl, rfl, Lib.hid (by simp)⟩
  case round =>
    obtain ⟨k, hk, rfl, rfl, HNO⟩ := hrel
    by_cases hlt : k < L.length
    · obtain ⟨i, hLi, hi⟩ := HIN.out k hlt
      have hlp : i < s.pods.length := by rw [HNP.out]; exact hi
      obtain ⟨bl, ol, rfl, hbl, q0⟩ := list_at HL.out hLi
      obtain ⟨b', off', rfl, hb', hc⟩ := (R0.out.below HK.out (Nat.le_refl _)).cell hlp
      have p0 := (hc 0 (by decide)).trans (podCs_at s.pods (i := i) hlp).1
      rw [Nat.add_zero] at p0
      clear hc
      have HY : Hid (aliveB (podA s.pods i).1 = true → ans = true) := Lib.hid fun h => by rw [← HANS.out]; exact any_take_yes hLi (by simpa [podAt, podA] using h)
      have HN : Hid (aliveB (podA s.pods i).1 = false → (L.take (k + 1)).any (fun i => aliveB (podAt s i.toNat).1) = false) := Lib.hid fun h => any_take_no hLi HNO.out (by simpa [podAt, podA] using h)
      generalize (podA s.pods i).1 = x at p0 HY HN
      clear hLi
      go_wp2_with fail
      refine (implAlive_any _ _).mono ?_
      rintro e w5 ⟨rfl, rfl⟩
      cases ha : aliveB x
      · have HA := Lib.hid (HN.out ha)
        clear ha
        go_wp2
        exact ⟨⟨k + 1, by omega, by go_num, by trivial, HA⟩, by simp [intOf]; omega⟩
      · have HA := Lib.hid (HY.out ha)
        clear ha
        go_wp2
        all_goals (go_ret; exact ⟨ret_bool HA.out.symm, Below.refl _ _⟩)
    · obtain rfl : k = L.length := by omega
      have HA : Hid (ans = false) := Lib.hid (by rw [← HANS.out]; have := HNO.out; rwa [List.take_length] at this)
      go_wp2
      all_goals (go_ret; exact ⟨ret_bool HA.out.symm, Below.refl _ _⟩)

set_option maxRecDepth 100000 in
set_option maxHeartbeats 8000000 in
theorem bandBehind_any (w0 W : World) (g : Nat) (d : PlanD) (s : StD) (l : List RecD) (h : Tk w0 W g d s l) :
    Calls Tryz.prog 95 #[.pointer (some ⟨g, 0, none⟩)] W fun e w' => e = .returned (.int .i64 (nextB d s.ba)) ∧ Below W.heap.size W w' := by
  obtain ⟨K, pv, sv, v, hp, hs, ⟨pc, sc, ep, es, X⟩, O⟩ := h
  have HP := Lib.hid hp
  have HS := Lib.hid hs
  obtain ⟨⟨P0, P1, P2, P3, k0, k1, k2, k3, rfl, s0, s1, s2, s3⟩, b0, b1, b2, b3⟩ := hp
  obtain ⟨⟨A0, A1, A2, A3, c0, c1, c2, c3, rfl, t0, t1, t2, t3⟩, f0, f1, f2, f3⟩ := hs
  injection ep with ep
  injection es with es
  subst ep es
  unfold maxLen at b0 b1 b2 b3 f0 f1 f2 f3
  replace X : BoxTk W w0.heap.size g (tkC P0 P1 P2 P3 d.n0 k0 d.n1 k1 d.n2 k2 d.n3 k3 d.l d.p d.t A0 A1 A2 A3 s.pods.length c0 s.mnts.length c1 s.devs.length c2 s.lks.length c3 s.ph s.co s.ck s.bo s.ba s.lb s.gd s.pr (s.ck + 1) v).toList := X
  clear s0 s1 s2 s3 t0 t1 t2 t3
  have HK := Lib.hid K
  have HX := Lib.hid X
  have HB : Hid (nextB d s.ba = if nextL d s.ba < 0 then 6 else nextL d s.ba) := Lib.hid rfl
  have Q0 : (∀ o, W.cell? ⟨g, o, none⟩ = (tkC P0 P1 P2 P3 d.n0 k0 d.n1 k1 d.n2 k2 d.n3 k3 d.l d.p d.t A0 A1 A2 A3 s.pods.length c0 s.mnts.length c1 s.devs.length c2 s.lks.length c3 s.ph s.co s.ck s.bo s.ba s.lb s.gd s.pr (s.ck + 1) v)[o]?) ∧ Below W.heap.size W W := ⟨X.C, Below.refl _ _⟩
  clear K X O
  go_enter Tryz.func95, Tryz.ntmps95
  go_wp2_with fail
  go_region_held3 (fun w' => (∀ o, w'.cell? ⟨g, o, none⟩ = (tkC P0 P1 P2 P3 d.n0 k0 d.n1 k1 d.n2 k2 d.n3 k3 d.l d.p d.t A0 A1 A2 A3 s.pods.length c0 s.mnts.length c1 s.devs.length c2 s.lks.length c3 s.ph s.co s.ck s.bo s.ba s.lb s.gd s.pr (s.ck + 1) v)[o]?) ∧ Below W.heap.size W w')
    (first | exact Q2 | exact Q0 | exact ⟨Q0.1, Q0.2.drew⟩)
    (first
      | (go_at_call 141
         have K0 : Below W.heap.size W W.drew := (Below.refl _ _).drew
         refine (implNext_any _ d _ _ (planAt HP.out (toW HK.out K0))).mono ?_
         rintro e w5 ⟨rfl, hb⟩
         have K1 : Below W.heap.size W w5 := K0.trans hb
         have Q2 := And.intro (HX.out.go K1).C K1))
  rename_i hHeld
  clear hHeld Q0 Q2 K0 hb
  generalize nextL d s.ba = nb at HB ⊢
  by_cases hnb : nb < 0
  · have HN := Lib.hid hnb
    have hnb2 : ¬ 0 ≤ nb := by omega
    go_wp2
    all_goals (go_ret; exact ⟨ret_int (by rw [HB.out, if_pos HN.out]), K1⟩)
  · have HN := Lib.hid hnb
    have hnb2 : 0 ≤ nb := by omega
    go_wp2
    all_goals (go_ret; exact ⟨ret_int (by rw [HB.out, if_neg (by have := HN.out; omega)]), K1⟩)

theorem heldLit_any (b : Bool) (n : Int) (w : World) : Calls Tryz.prog 144 #[.agg #[.bool b, .int .i64 n]] w fun e w' => e = .returned (.bool b) ∧ Below w.heap.size w w' := by
  go_enter Tryz.func144, Tryz.ntmps144
  go_wp2
  all_goals (go_ret; exact ⟨rfl, (Below.refl _ _).alloc (Nat.le_refl _) _⟩)
set_option maxRecDepth 100000 in
set_option maxHeartbeats 8000000 in
theorem indexHeld_any (M : List (Bool × Int)) (A : Option Addr) (c : Nat) (w : World) (h : SlV w w.heap.size 2 A M.length (mntCs M)) (hl : M.length ≤ maxLen) :
    Calls Tryz.prog 172 #[.slice A M.length c, .func (.func 144) #[] #[]] w fun e w' =>
      (∃ k : Nat, e = .returned (.int .i64 k) ∧ k ≤ 9223372036854775807 ∧ M.any (fun q => q.1) = true ∨ e = .returned (.int .i64 (-1)) ∧ M.any (fun q => q.1) = false) ∧ Below w.heap.size w w' := by
  unfold maxLen at hl
  have H := Lib.hid h
  clear h
  obtain ⟨ans, hans⟩ : ∃ ans, M.any (fun q => q.1) = ans := ⟨_, rfl⟩
  rw [hans]
  have HANS := Lib.hid hans
  clear hans
  go_enter Tryz.func172, Tryz.ntmps172
  go_wp2_with fail
  go_loopw [8] (fun j wr => ∃ k : Nat, k ≤ M.length ∧ j = .int .i64 k ∧ Hid (anyUp M (fun q => q.1) (false, 0) k) ∧ Below w.heap.size w wr) (fun j _ => M.length - (intOf j).toNat)
  case atStart => exact ⟨0, Nat.zero_le _, rfl, Lib.hid fun j hj => absurd hj (by omega), Below.refl _ _⟩
  case round =>
    obtain ⟨k, hk, rfl, HALL, K⟩ := hrel
    by_cases hlt : k < M.length
    · obtain ⟨b', off', rfl, hb', hc⟩ := (H.out.below K (Nat.le_refl _)).cell hlt
      have p0 := (hc 0 (by decide)).trans (mntCs_at M (i := k) hlt).1
      have p1 := (hc 1 (by decide)).trans (mntCs_at M (i := k) hlt).2
      rw [Nat.add_zero] at p0
      clear hc
      have HY : Hid ((mntA M k).1 = true → ans = true) := Lib.hid fun h => by rw [← HANS.out, any_some hlt h]
      have HN : Hid ((mntA M k).1 = false → anyUp M (fun q => q.1) (false, 0) (k + 1)) := Lib.hid fun h => anyUp_next HALL.out h
      generalize mntA M k = q at p0 p1 HY HN
      obtain ⟨x, y⟩ := q
      dsimp only at p0 p1 HY HN
      go_wp2_with fail
      refine (heldLit_any _ _ _).mono ?_
      rintro e w5 ⟨rfl, hb5⟩
      have K5 := K.trans (hb5.mono K.size)
      cases x
      · have HA := Lib.hid (HN.out rfl)
        go_wp2
        exact ⟨⟨k + 1, by omega, by go_num, HA, K5⟩, by simp [intOf]; omega⟩
      · have HA := Lib.hid (HY.out rfl)
        go_wp2
        all_goals (go_ret; exact ⟨⟨k, .inl ⟨rfl, by omega, HA.out⟩⟩, K5⟩)
    · obtain rfl : k = M.length := by omega
      have HA : Hid (ans = false) := Lib.hid (by rw [← HANS.out, any_none HALL.out])
      go_wp2
      all_goals (go_ret; exact ⟨⟨0, .inr ⟨rfl, HA.out⟩⟩, K⟩)
theorem containsHeld_any (M : List (Bool × Int)) (A : Option Addr) (c : Nat) (w : World) (h : SlV w w.heap.size 2 A M.length (mntCs M)) (hl : M.length ≤ maxLen) :
    Calls Tryz.prog 143 #[.slice A M.length c, .func (.func 144) #[] #[]] w fun e w' => e = .returned (.bool (M.any fun q => q.1)) ∧ Below w.heap.size w w' := by
  have H := Lib.hid h
  clear h
  obtain ⟨ans, hans⟩ : ∃ ans, M.any (fun q => q.1) = ans := ⟨_, rfl⟩
  rw [hans]
  have HANS := Lib.hid hans
  clear hans
  go_enter Tryz.func143, Tryz.ntmps143
  go_wp2_with fail
  refine (indexHeld_any M A c w H.out hl).mono ?_
  rw [HANS.out]
  rintro e w1 ⟨⟨k, ⟨rfl, hk, hc⟩ | ⟨rfl, hc⟩⟩, K⟩
  · have HC := Lib.hid hc
    clear hc
    go_wp2
    all_goals (go_ret; exact ⟨by rw [HC.out]; rfl, K⟩)
  · have HC := Lib.hid hc
    clear hc
    go_wp2
    all_goals (go_ret; exact ⟨by rw [HC.out]; rfl, K⟩)
set_option maxRecDepth 100000 in
set_option maxHeartbeats 8000000 in
theorem indexTrue_any (D : List Bool) (A : Option Addr) (c : Nat) (w : World) (h : SlV w w.heap.size 1 A D.length (devCs D)) (hl : D.length ≤ maxLen) :
    Calls Tryz.prog 173 #[.slice A D.length c, .bool true] w fun e w' =>
      (∃ k : Nat, e = .returned (.int .i64 k) ∧ k ≤ 9223372036854775807 ∧ D.any (fun x => x) = true ∨ e = .returned (.int .i64 (-1)) ∧ D.any (fun x => x) = false) ∧ w = w' := by
  unfold maxLen at hl
  have H := Lib.hid h
  clear h
  obtain ⟨ans, hans⟩ : ∃ ans, D.any (fun x => x) = ans := ⟨_, rfl⟩
  rw [hans]
  have HANS := Lib.hid hans
  clear hans
  go_enter Tryz.func173, Tryz.ntmps173
  go_wp2_with fail
  go_loopw [8] (fun j wr => ∃ k : Nat, k ≤ D.length ∧ j = .int .i64 k ∧ Hid (anyUp D (fun x => x) false k) ∧ w = wr) (fun j _ => D.length - (intOf j).toNat)
  case atStart => exact ⟨0, Nat.zero_le _, rfl, Lib.hid fun j hj => absurd hj (by omega), rfl⟩
  case round =>
    obtain ⟨k, hk, rfl, HALL, rfl⟩ := hrel
    by_cases hlt : k < D.length
    · obtain ⟨b', off', rfl, hb', hc⟩ := H.out.cell hlt
      have p0 := (hc 0 (by decide)).trans (devCs_at D (i := k * 1 + 0) (by omega))
      rw [Nat.add_zero, Nat.mul_one] at p0
      clear hc
      have HY : Hid (devA D k = true → ans = true) := Lib.hid fun h => by rw [← HANS.out, any_some (l := D) (p := fun x => x) (z := false) hlt h]
      have HN : Hid (devA D k = false → anyUp D (fun x => x) false (k + 1)) := Lib.hid fun h => anyUp_next HALL.out h
      generalize devA D k = x at p0 HY HN
      cases x
      · have HA := Lib.hid (HN.out rfl)
        go_wp2
        exact ⟨⟨k + 1, by omega, by go_num, HA, by trivial⟩, by simp [intOf]; omega⟩
      · have HA := Lib.hid (HY.out rfl)
        go_wp2
        all_goals (go_ret; exact ⟨⟨k, .inl ⟨rfl, by omega, HA.out⟩⟩, rfl⟩)
    · obtain rfl : k = D.length := by omega
      have HA : Hid (ans = false) := Lib.hid (by rw [← HANS.out, any_none HALL.out])
      go_wp2
      all_goals (go_ret; exact ⟨⟨0, .inr ⟨rfl, HA.out⟩⟩, rfl⟩)
theorem containsTrue_any (D : List Bool) (A : Option Addr) (c : Nat) (w : World) (h : SlV w w.heap.size 1 A D.length (devCs D)) (hl : D.length ≤ maxLen) :
    Calls Tryz.prog 145 #[.slice A D.length c, .bool true] w fun e w' => e = .returned (.bool (D.any fun x => x)) ∧ w = w' := by
  have H := Lib.hid h
  clear h
  obtain ⟨ans, hans⟩ : ∃ ans, D.any (fun x => x) = ans := ⟨_, rfl⟩
  rw [hans]
  have HANS := Lib.hid hans
  clear hans
  go_enter Tryz.func145, Tryz.ntmps145
  go_wp2_with fail
  refine (indexTrue_any D A c w H.out hl).mono ?_
  rw [HANS.out]
  rintro e w1 ⟨⟨k, ⟨rfl, hk, hc⟩ | ⟨rfl, hc⟩⟩, rfl⟩
  · have HC := Lib.hid hc
    clear hc
    go_wp2
    all_goals (go_ret; exact ⟨by rw [HC.out]; rfl, rfl⟩)
  · have HC := Lib.hid hc
    clear hc
    go_wp2
    all_goals (go_ret; exact ⟨by rw [HC.out]; rfl, rfl⟩)
set_option maxRecDepth 100000 in
set_option maxHeartbeats 8000000 in
theorem implHeld_any (sv : Value) (s : StD) (w : World) (hs : IsSt w w.heap.size sv s) :
    Calls Tryz.prog 97 #[sv] w fun e w' => e = .returned (.bool (heldB s)) ∧ Below w.heap.size w w' := by
  obtain ⟨⟨A0, A1, A2, A3, c0, c1, c2, c3, rfl, -, t1, t2, -⟩, -, f1, f2, -⟩ := hs
  have R1 := Lib.hid t1
  have R2 := Lib.hid t2
  clear t1 t2
  have X0 := Own.box w (stC A0 A1 A2 A3 s.pods.length c0 s.mnts.length c1 s.devs.length c2 s.lks.length c3 s.ph s.co s.ck s.bo s.ba s.lb s.gd s.pr) 34
  have hC := X0.C
  have HX := Lib.hid X0
  have HB : Hid (heldB s = (s.mnts.any (fun q => q.1) || s.devs.any (fun x => x))) := Lib.hid rfl
  clear X0
  go_enter Tryz.func97, Tryz.ntmps97
  go_wp2_with fail
  refine (containsHeld_any s.mnts _ _ _ ((R1.out.below HX.out.K (Nat.le_refl _)).more HX.out.K.size) f1).mono ?_
  rintro e w1 ⟨rfl, hb⟩
  have X1 := HX.out.step hb
  clear hC hb
  have hC := X1.C
  cases hx : s.mnts.any (fun q => q.1)
  · have HX := Lib.hid hx
    clear hx
    go_wp2_with fail
    refine (containsTrue_any s.devs _ _ _ ((R2.out.below X1.K (Nat.le_refl _)).more X1.K.size) f2).mono ?_
    rintro e w2 ⟨rfl, rfl⟩
    generalize s.devs.any (fun x => x) = y at HB ⊢
    go_wp2
    all_goals (go_ret; exact ⟨ret_bool (by rw [HB.out, HX.out]; rfl), X1.K⟩)
  · have HX := Lib.hid hx
    clear hx
    go_wp2
    all_goals (go_ret; exact ⟨ret_bool (by rw [HB.out, HX.out]; rfl), X1.K⟩)
end Go.Proofs.YtobpjahjahlhpaaGreatDoor
