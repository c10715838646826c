/-
  Chapter 11 of the program: what a tick collects.
-/
import Derived.Test.YtdphpjnecjofeaaGreatMZ11
import Derived.Deep.RegionHeld3
import Derived.Deep.DeepCutAuto
/- Ic -/
set_option linter.unusedVariables false
namespace Go.Proofs.YtdphpjnecjofeaaGreat
open Go.RowKit

theorem implPodStep_any (gr ba grace hook st since clock : Int) (w : World) (h0 : 0 ≤ since ∧ since ≤ 1000000) (h1 : 0 ≤ clock ∧ clock ≤ 1000001) :
    Calls Tryz.prog 107 #[.agg #[.int .i64 gr, .int .i64 ba, .int .i64 grace, .int .i64 hook], .agg #[.int .i64 st, .int .i64 since], .int .i64 clock] w fun e w' =>
      e = .returned (.int .i64 (podStep hook grace (st, since) clock)) ∧ Below w.heap.size w w' := by
  have e : podStep hook grace (st, since) clock = stepD hook grace st (wrap64 (clock - since)) := by
    rw [IntWalk.wrap64_in _ (by omega)]
    rfl
  rw [e]
  exact implStep_any _ _ _ _ _ _ _ w
theorem elem_dead {d : PlanD} {s : StD} {c i : Int} : elemG d s c i = if podStep (hookOf d i.toNat) (graceOf d i.toNat) (podAt s i.toNat) c = (podAt s i.toNat).1 then none else some ⟨2, i, podStep (hookOf d i.toNat) (graceOf d i.toNat) (podAt s i.toNat) c⟩ := by
  unfold elemG
  cases ha : aliveB (podAt s i.toNat).1
  · rw [if_pos (dead_step ha)]
    rfl
  · rfl

set_option maxRecDepth 100000 in
set_option maxHeartbeats 8000000 in
theorem stepPods_any (w0 W : World) (g : Nat) (d : PlanD) (s : StD) (l : List RecD) (h : Tk w0 W g d s l) (hok : StOk d s) (hl : l.length ≤ 1) (B cL : Nat) (AL : Option Addr) (L : List Int)
    (hL : W.ownsRow B 2 1 (.slice AL L.length cL) L.length (L.map (Value.int .i64))) (hin : ∀ k, k < L.length → ∃ i : Nat, L[k]? = some (i : Int) ∧ i < d.n0) (hlen : L.length ≤ 12) :
    Calls Tryz.prog 71 #[.pointer (some ⟨g, 0, none⟩), .slice AL L.length cL] W (TkP w0 W g d s (l ++ L.filterMap (elemG d s (s.ck + 1)))) := by
  have HT := Lib.hid h
  have HL := Lib.hid hL
  have HIN := Lib.hid hin
  have OK := Lib.hid hok
  have HLN := Lib.hid hl
  clear h hL hin hok hl
  go_enter Tryz.func71, Tryz.ntmps71
  go_wp2_with fail
  go_loopw [10] (fun j wr => ∃ k : Nat, k ≤ L.length ∧ j = .int .i64 k ∧ Hid (Tk w0 wr g d s (l ++ (L.take k).filterMap (elemG d s (s.ck + 1)))) ∧ Hid (KRow W wr)) (fun j _ => L.length - (intOf j).toNat)
  case atStart => exact ⟨0, Nat.zero_le _, rfl, Lib.hid (by simpa using HT.out), Lib.hid (KRow.refl W)⟩
  case round =>
    clear HT
    obtain ⟨k, hk, rfl, HT, HKR⟩ := hrel
    by_cases hlt : k < L.length
    · obtain ⟨i, hLi, hi⟩ := HIN.out k hlt
      have HLI := Lib.hid hLi
      have hlp : i < s.pods.length := by rw [OK.out.np]; exact hi
      obtain ⟨bl, ol, rfl, hbl, q0⟩ := list_at (HKR.out B _ 1 _ _ _ (by decide) (by decide) HL.out) hLi
      clear hLi
      obtain ⟨K, pv, sv, v, hp, hs, ⟨pc, sc, ep, es, X⟩, O⟩ := HT.out
      have HP := Lib.hid hp
      have HS := Lib.hid hs
      obtain ⟨⟨P0, P1, P2, P3, k0, k1, k2, k3, rfl, s0, s1, s2, s3⟩, b0, b1, b2, b3⟩ := hp
      obtain ⟨⟨A0, A1, A2, A3, c0, c1, c2, c3, rfl, t0, t1, t2, t3⟩, f0, f1, f2, f3⟩ := hs
      injection ep with ep
      injection es with es
      subst ep es
      unfold maxLen at b0 f0
      clear b1 b2 b3 f1 f2 f3 O
      replace X : BoxTk wr w0.heap.size g (tkC P0 P1 P2 P3 d.n0 k0 d.n1 k1 d.n2 k2 d.n3 k3 d.l d.p d.t A0 A1 A2 A3 s.pods.length c0 s.mnts.length c1 s.devs.length c2 s.lks.length c3 s.ph s.co s.ck s.bo s.ba s.lb s.gd s.pr (s.ck + 1) v).toList := X
      obtain ⟨b', off', rfl, hb', hc⟩ := (t0.below K (Nat.le_refl _)).cell hlp
      have p0 := (hc 0 (by decide)).trans (podCs_at s.pods (i := i) hlp).1
      have p1 := (hc 1 (by decide)).trans (podCs_at s.pods (i := i) hlp).2
      rw [Nat.add_zero] at p0
      clear hc
      obtain ⟨bp, op, rfl, hbp, g0, g1, g2, g3⟩ := ((s0.below K (Nat.le_refl _)).more K.size).cell4 hi
      clear s0 s1 s2 s3 t0 t1 t2 t3
      have hpo := (podAt_ok OK.out hi).2
      have hck : 0 ≤ s.ck + 1 ∧ s.ck + 1 ≤ 1000001 := by have := OK.out.ck; omega
      have HEL : Hid (elemG d s (s.ck + 1) (i : Int) = if podStep (d.x0 (i * 4 + 3)) (d.x0 (i * 4 + 2)) (podA s.pods i) (s.ck + 1) = (podA s.pods i).1 then none else some ⟨2, i, podStep (d.x0 (i * 4 + 3)) (d.x0 (i * 4 + 2)) (podA s.pods i) (s.ck + 1)⟩) := Lib.hid (by rw [elem_dead, Int.toNat_natCast]; rfl)
      have HF1 : Hid (l ++ (L.take (k + 1)).filterMap (elemG d s (s.ck + 1)) = (l ++ (L.take k).filterMap (elemG d s (s.ck + 1))) ++ (match elemG d s (s.ck + 1) (i : Int) with | some r => [r] | none => [])) := Lib.hid (by
        rw [take_at HLI.out, List.filterMap_append, List.append_assoc]
        cases he : elemG d s (s.ck + 1) (i : Int) <;> simp [he])
      have HLE : Hid ((l ++ (L.take k).filterMap (elemG d s (s.ck + 1))).length ≤ 100) := Lib.hid (by
        have := List.length_filterMap_le (elemG d s (s.ck + 1)) (L.take k)
        have h2 : (L.take k).length ≤ L.length := by rw [List.length_take]; omega
        have := HLN.out
        rw [List.length_append]
        omega)
      generalize elemG d s (s.ck + 1) (i : Int) = el at HEL HF1
      generalize (l ++ (L.take k).filterMap (elemG d s (s.ck + 1))) = lk at HF1 HLE HT
      rw [show podAt s i = podA s.pods i from rfl] at hpo
      generalize podA s.pods i = q at p0 p1 HEL hpo
      obtain ⟨x, y⟩ := q
      dsimp only at p0 p1 HEL hpo
      have hC := X.C
      go_wp2_with fail
      have K1 : Below wr.heap.size wr (wr.alloc (.cells #[.int .i64 x, .int .i64 y] 109)) := (Below.refl _ _).alloc (Nat.le_refl _) _
      have XB := two_row (heap_alloc_new wr (.cells #[.int .i64 x, .int .i64 y] 109))
      have hgz : wr.heap.size < (wr.alloc (.cells #[.int .i64 x, .int .i64 y] 109)).heap.size := by simp
      have HX1 := Lib.hid (X.go K1)
      replace g0 := (K1.cell (p := ⟨bp, op + i * 4, none⟩) hbp).trans g0
      replace g1 := (K1.cell (p := ⟨bp, op + i * 4 + 1, none⟩) hbp).trans g1
      replace g2 := (K1.cell (p := ⟨bp, op + i * 4 + 2, none⟩) hbp).trans g2
      replace g3 := (K1.cell (p := ⟨bp, op + i * 4 + 3, none⟩) hbp).trans g3
      replace hbp := Nat.lt_of_lt_of_le hbp K1.size
      clear hC q0 p0 p1 hb' hbl X
      generalize wr.alloc (.cells #[.int .i64 x, .int .i64 y] 109) = wc at K1 XB hgz HX1 g0 g1 g2 g3 hbp ⊢
      obtain ⟨gb, hgb⟩ : ∃ gb, wr.heap.size = gb := ⟨_, rfl⟩
      rw [hgb] at XB hgz ⊢
      have Q0 : (∀ o, wc.cell? ⟨g, o, none⟩ = (tkC (some ⟨bp, op, none⟩) P1 P2 P3 d.n0 k0 d.n1 k1 d.n2 k2 d.n3 k3 d.l d.p d.t (some ⟨b', off', none⟩) A1 A2 A3 s.pods.length c0 s.mnts.length c1 s.devs.length c2 s.lks.length c3 s.ph s.co s.ck s.bo s.ba s.lb s.gd s.pr (s.ck + 1) v)[o]?) ∧ (∀ o, wc.cell? ⟨gb, o, none⟩ = #[Value.int .i64 x, .int .i64 y][o]?) ∧ wc.cell? ⟨bp, op + i * 4, none⟩ = some (.int .i64 (d.x0 (i * 4))) ∧ wc.cell? ⟨bp, op + i * 4 + 1, none⟩ = some (.int .i64 (d.x0 (i * 4 + 1))) ∧ wc.cell? ⟨bp, op + i * 4 + 2, none⟩ = some (.int .i64 (d.x0 (i * 4 + 2))) ∧ wc.cell? ⟨bp, op + i * 4 + 3, none⟩ = some (.int .i64 (d.x0 (i * 4 + 3))) ∧ Below wc.heap.size wc wc := ⟨HX1.out.C, XB, g0, g1, g2, g3, Below.refl _ _⟩
      clear XB g0 g1 g2 g3
      go_region_held3 (fun w' => (∀ o, w'.cell? ⟨g, o, none⟩ = (tkC (some ⟨bp, op, none⟩) P1 P2 P3 d.n0 k0 d.n1 k1 d.n2 k2 d.n3 k3 d.l d.p d.t (some ⟨b', off', none⟩) A1 A2 A3 s.pods.length c0 s.mnts.length c1 s.devs.length c2 s.lks.length c3 s.ph s.co s.ck s.bo s.ba s.lb s.gd s.pr (s.ck + 1) v)[o]?) ∧ (∀ o, w'.cell? ⟨gb, o, none⟩ = #[Value.int .i64 x, .int .i64 y][o]?) ∧ w'.cell? ⟨bp, op + i * 4, none⟩ = some (.int .i64 (d.x0 (i * 4))) ∧ w'.cell? ⟨bp, op + i * 4 + 1, none⟩ = some (.int .i64 (d.x0 (i * 4 + 1))) ∧ w'.cell? ⟨bp, op + i * 4 + 2, none⟩ = some (.int .i64 (d.x0 (i * 4 + 2))) ∧ w'.cell? ⟨bp, op + i * 4 + 3, none⟩ = some (.int .i64 (d.x0 (i * 4 + 3))) ∧ Below wc.heap.size wc w')
        (first | exact Q2 | exact Q0 | exact ⟨Q0.1, Q0.2.1, Q0.2.2.1, Q0.2.2.2.1, Q0.2.2.2.2.1, Q0.2.2.2.2.2.1, Q0.2.2.2.2.2.2.drew⟩)
        (first
          | (go_at_call 107
             have K0 : Below wc.heap.size wc wc.drew := (Below.refl _ _).drew
             refine (implPodStep_any _ _ _ _ _ _ _ _ hpo hck).mono ?_
             rintro e w6 ⟨rfl, hb6⟩
             have K2 : Below wc.heap.size wc w6 := K0.trans hb6
             have Q2 := And.intro (HX1.out.go K2).C (And.intro (fun o => (K2.cell (p := ⟨gb, o, none⟩) hgz).trans (Q0.2.1 o)) (And.intro ((K2.cell (p := ⟨bp, op + i * 4, none⟩) hbp).trans Q0.2.2.1) (And.intro ((K2.cell (p := ⟨bp, op + i * 4 + 1, none⟩) hbp).trans Q0.2.2.2.1) (And.intro ((K2.cell (p := ⟨bp, op + i * 4 + 2, none⟩) hbp).trans Q0.2.2.2.2.1) (And.intro ((K2.cell (p := ⟨bp, op + i * 4 + 3, none⟩) hbp).trans Q0.2.2.2.2.2.1) K2)))))))
      have K6 : Below wr.heap.size wr w6 := K1.trans (K2.mono K1.size)
      have HT6 := Lib.hid (HT.out.step K6)
      have HKR6 := Lib.hid (HKR.out.step K6)
      have XB := Q2.2.1
      clear Q0 Q2 K0 K1 K2 K6 hb6 HT HKR
      rename_i hHeld
      clear hHeld
      generalize podStep (d.x0 (i * 4 + 3)) (d.x0 (i * 4 + 2)) (x, y) (s.ck + 1) = st at HEL ⊢
      cases hst : (st != x)
      · have HST : Hid (st = x) := Lib.hid (by simpa using hst)
        go_wp2
        exact ⟨⟨k + 1, by omega, by go_num, Lib.hid (by rw [HF1.out, HEL.out, if_pos HST.out]; simpa using HT6.out), HKR6⟩, by simp [intOf]; omega⟩
      · have HST : Hid (¬ st = x) := Lib.hid (by simpa using hst)
        go_wp2_with fail
        refine (collect_any w0 _ g d s lk 2 i st HT6.out HLE.out).mono ?_
        rintro e w7 ⟨rfl, hT7, hKR7⟩
        have HT7 := Lib.hid hT7
        have HKR7 := Lib.hid (HKR6.out.trans hKR7)
        clear hT7 hKR7 XB
        go_wp2
        exact ⟨⟨k + 1, by omega, by go_num, Lib.hid (by rw [HF1.out, HEL.out, if_neg HST.out]; exact HT7.out), HKR7⟩, by simp [intOf]; omega⟩
    · obtain rfl : k = L.length := by omega
      rw [List.take_length] at HT
      go_wp2
      refine bodyPost_ret (v := .tuple #[]) (by simp [results, Tryz.results71, go_sem]) rfl ?_
      exact ⟨rfl, HT.out, HKR.out⟩

set_option maxRecDepth 100000 in
set_option maxHeartbeats 8000000 in
theorem freeMounts_any (w0 W : World) (g : Nat) (d : PlanD) (s : StD) (l : List RecD) (h : Tk w0 W g d s l) (hok : StOk d s) (hl : l.length ≤ 1) :
    Calls Tryz.prog 73 #[.pointer (some ⟨g, 0, none⟩)] W (TkP w0 W g d s (l ++ recsOf d.n2 (freeG d s) mntRec)) := by
  have HT := Lib.hid h
  have OK := Lib.hid hok
  have HLN := Lib.hid hl
  obtain ⟨K, pv, sv, v, hp, hs, ⟨pc, sc, ep, es, X⟩, O⟩ := h
  have HP := Lib.hid hp
  have HS := Lib.hid hs
  obtain ⟨⟨P0, P1, P2, P3, k0, k1, k2, k3, rfl, s0, s1, s2, s3⟩, b0, b1, b2, b3⟩ := hp
  obtain ⟨⟨A0, A1, A2, A3, c0, c1, c2, c3, rfl, t0, t1, t2, t3⟩, f0, f1, f2, f3⟩ := hs
  injection ep with ep
  injection es with es
  subst ep es
  unfold maxLen at f1
  replace X : BoxTk W w0.heap.size g (tkC P0 P1 P2 P3 d.n0 k0 d.n1 k1 d.n2 k2 d.n3 k3 d.l d.p d.t A0 A1 A2 A3 s.pods.length c0 s.mnts.length c1 s.devs.length c2 s.lks.length c3 s.ph s.co s.ck s.bo s.ba s.lb s.gd s.pr (s.ck + 1) v).toList := X
  have RM := Lib.hid t1
  have hC := X.C
  have HNM := Lib.hid hok.nm
  have HSZ := Lib.hid (size_ok hok.plan)
  clear s0 s1 s2 s3 t0 t1 t2 t3 b0 b1 b2 b3 f0 f2 f3 hok hl X O K HP HS
  go_enter Tryz.func73, Tryz.ntmps73
  go_wp2_with fail
  go_loopw [11] (fun j wr => ∃ k : Nat, k ≤ s.mnts.length ∧ j = .int .i64 k ∧ Hid (Tk w0 wr g d s (l ++ recsOf k (freeG d s) mntRec)) ∧ Hid (KRow W wr)) (fun j _ => s.mnts.length - (intOf j).toNat)
  case atStart => exact ⟨0, Nat.zero_le _, rfl, Lib.hid (by rw [recsOf_zero, List.append_nil]; exact HT.out), Lib.hid (KRow.refl W)⟩
  case round =>
    clear HT hC P0 P1 P2 P3 k0 k1 k2 k3 A0 A2 A3 c0 c2 c3 v
    obtain ⟨k, hk, rfl, HT, HKR⟩ := hrel
    by_cases hlt : k < s.mnts.length
    · have hi : k < d.n2 := by rw [← HNM.out]; exact hlt
      obtain ⟨K, pv, sv, v, hp, hs, ⟨pc, sc, ep, es, X⟩, O⟩ := HT.out
      have HP := Lib.hid hp
      have HS := Lib.hid hs
      obtain ⟨⟨P0, P1, P2, P3, k0, k1, k2, k3, rfl, s0, s1, s2, s3⟩, b0, b1, b2, b3⟩ := hp
      obtain ⟨⟨A0, A1_, A2, A3, c0, c1_, c2, c3, rfl, t0, t1, t2, t3⟩, f0, f1, f2, f3⟩ := hs
      injection ep with ep
      injection es with es
      subst ep es
      clear b0 b1 b2 b3 f0 f2 f3 O s0 s1 s2 s3 t0 t1 t2 t3
      replace X : BoxTk wr w0.heap.size g (tkC P0 P1 P2 P3 d.n0 k0 d.n1 k1 d.n2 k2 d.n3 k3 d.l d.p d.t A0 A1_ A2 A3 s.pods.length c0 s.mnts.length c1_ s.devs.length c2 s.lks.length c3 s.ph s.co s.ck s.bo s.ba s.lb s.gd s.pr (s.ck + 1) v).toList := X
      obtain ⟨b', off', rfl, hb', hc⟩ := (RM.out.below K (Nat.le_refl _)).cell hlt
      have p0 := (hc 0 (by decide)).trans (mntCs_at s.mnts (i := k) hlt).1
      have p1 := (hc 1 (by decide)).trans (mntCs_at s.mnts (i := k) hlt).2
      rw [Nat.add_zero] at p0
      clear hc
      have hmo := (mntAt_ok OK.out hi).1
      have HM : Hid ((stOkB d s && mayFreeB d s k) = freeB d s k) := Lib.hid (by
        rw [stOkB_iff.2 OK.out, mayFreeB, Int.toNat_natCast, show inB (k : Int) 0 (d.n2 - 1) = true by rw [inB_true]; omega]; rfl)
      have HG : Hid (freeG d s k = if freeB d s k then some (if 0 < (mntA s.mnts k).2 then (true, (mntA s.mnts k).2 - 1) else (false, 0)) else none) := Lib.hid rfl
      have HN1 : Hid (l ++ recsOf (k + 1) (freeG d s) mntRec = (l ++ recsOf k (freeG d s) mntRec) ++ (match freeG d s k with | some q => [mntRec k q] | none => [])) := Lib.hid (by rw [recsOf_next, List.append_assoc]; cases freeG d s k <;> rfl)
      have HLE : Hid ((l ++ recsOf k (freeG d s) mntRec).length ≤ 100) := Lib.hid (by have := recsOf_le k (freeG d s) mntRec; have := HLN.out; have := HSZ.out; rw [List.length_append]; omega)
      rw [show mntAt s k = mntA s.mnts k from rfl] at hmo
      generalize freeG d s k = fg at HG HN1
      generalize mntA s.mnts k = q at p0 p1 HG hmo
      obtain ⟨x, y⟩ := q
      dsimp only at p0 p1 HG hmo
      generalize l ++ recsOf k (freeG d s) mntRec = lk at HN1 HLE HT
      go_wp2_with fail
      have K1 : Below wr.heap.size wr (wr.alloc (.cells #[.bool x, .int .i64 y] 113)) := (Below.refl _ _).alloc (Nat.le_refl _) _
      have XB := two_row (heap_alloc_new wr (.cells #[.bool x, .int .i64 y] 113))
      have hgz : wr.heap.size < (wr.alloc (.cells #[.bool x, .int .i64 y] 113)).heap.size := by simp
      have HX1 := Lib.hid (X.go K1)
      have KC := Lib.hid (toW K K1)
      clear p0 p1 hb' X K
      generalize wr.alloc (.cells #[.bool x, .int .i64 y] 113) = wc at K1 XB hgz HX1 KC ⊢
      obtain ⟨gb, hgb⟩ : ∃ gb, wr.heap.size = gb := ⟨_, rfl⟩
      rw [hgb] at XB hgz ⊢
      have Q0 : (∀ o, wc.cell? ⟨g, o, none⟩ = (tkC P0 P1 P2 P3 d.n0 k0 d.n1 k1 d.n2 k2 d.n3 k3 d.l d.p d.t A0 A1_ A2 A3 s.pods.length c0 s.mnts.length c1_ s.devs.length c2 s.lks.length c3 s.ph s.co s.ck s.bo s.ba s.lb s.gd s.pr (s.ck + 1) v)[o]?) ∧ (∀ o, wc.cell? ⟨gb, o, none⟩ = #[Value.bool x, .int .i64 y][o]?) ∧ Below wc.heap.size wc wc := ⟨HX1.out.C, XB, Below.refl _ _⟩
      clear XB
      go_region_held3 (fun w' => (∀ o, w'.cell? ⟨g, o, none⟩ = (tkC P0 P1 P2 P3 d.n0 k0 d.n1 k1 d.n2 k2 d.n3 k3 d.l d.p d.t A0 A1_ A2 A3 s.pods.length c0 s.mnts.length c1_ s.devs.length c2 s.lks.length c3 s.ph s.co s.ck s.bo s.ba s.lb s.gd s.pr (s.ck + 1) v)[o]?) ∧ (∀ o, w'.cell? ⟨gb, o, none⟩ = #[Value.bool x, .int .i64 y][o]?) ∧ Below wc.heap.size wc w')
        (first | exact Q2 | exact Q0 | exact ⟨Q0.1, Q0.2.1, Q0.2.2.drew⟩)
        (first
          | (go_at_call 111
             have K0 : Below wc.heap.size wc wc.drew := (Below.refl _ _).drew
             refine (implMayFree_any _ _ d s (k : Int) _ (planAt HP.out (toW KC.out K0)) (stAt HS.out (toW KC.out K0))).mono ?_
             rintro e w6 ⟨rfl, hb6⟩
             rw [HM.out]
             have K2 : Below wc.heap.size wc w6 := K0.trans hb6
             have Q2 := And.intro (HX1.out.go K2).C (And.intro (fun o => (K2.cell (p := ⟨gb, o, none⟩) hgz).trans (Q0.2.1 o)) K2)))
      have K6 : Below wr.heap.size wr w6 := K1.trans (K2.mono K1.size)
      have HT6 := Lib.hid (HT.out.step K6)
      have HKR6 := Lib.hid (HKR.out.step K6)
      have XB := Q2.2.1
      clear Q0 Q2 K0 K1 K2 K6 hb6 HT HKR HM
      rename_i hHeld
      clear hHeld
      generalize freeB d s k = fb at HG ⊢
      cases fb
      · go_wp2
        exact ⟨⟨k + 1, by omega, by go_num, Lib.hid (by rw [HN1.out, HG.out]; simpa using HT6.out), HKR6⟩, by simp [intOf]; omega⟩
      · by_cases hy : 0 < y
        · have HY := Lib.hid hy
          go_wp2_with fail
          refine (collect_any w0 _ g d s lk 3 k (y - 1) HT6.out HLE.out).mono ?_
          rintro e w7 ⟨rfl, hT7, hKR7⟩
          have HT7 := Lib.hid hT7
          have HKR7 := Lib.hid (HKR6.out.trans hKR7)
          clear hT7 hKR7 XB
          go_wp2
          exact ⟨⟨k + 1, by omega, by go_num, Lib.hid (by rw [HN1.out, HG.out, if_pos trivial, if_pos HY.out]; exact HT7.out), HKR7⟩, by simp [intOf]; omega⟩
        · have HY := Lib.hid hy
          go_wp2_with fail
          refine (collect_any w0 _ g d s lk 4 k 0 HT6.out HLE.out).mono ?_
          rintro e w7 ⟨rfl, hT7, hKR7⟩
          have HT7 := Lib.hid hT7
          have HKR7 := Lib.hid (HKR6.out.trans hKR7)
          clear hT7 hKR7 XB
          go_wp2
          exact ⟨⟨k + 1, by omega, by go_num, Lib.hid (by rw [HN1.out, HG.out, if_pos trivial, if_neg (by have := HY.out; omega)]; exact HT7.out), HKR7⟩, by simp [intOf]; omega⟩
    · obtain rfl : k = s.mnts.length := by omega
      rw [HNM.out] at HT
      go_wp2
      refine bodyPost_ret (v := .tuple #[]) (by simp [results, Tryz.results73, go_sem]) rfl ?_
      exact ⟨rfl, HT.out, HKR.out⟩

set_option maxRecDepth 100000 in
set_option maxHeartbeats 8000000 in
theorem giveDevices_any (w0 W : World) (g : Nat) (d : PlanD) (s : StD) (l : List RecD) (h : Tk w0 W g d s l) (hok : StOk d s) (hl : l.length ≤ 40) :
    Calls Tryz.prog 74 #[.pointer (some ⟨g, 0, none⟩)] W (TkP w0 W g d s (l ++ recsOf d.n3 (giveG d s) (fun i _ => ⟨5, i, 0⟩))) := by
  have HT := Lib.hid h
  have OK := Lib.hid hok
  have HLN := Lib.hid hl
  obtain ⟨K, pv, sv, v, hp, hs, ⟨pc, sc, ep, es, X⟩, O⟩ := h
  have HP := Lib.hid hp
  have HS := Lib.hid hs
  obtain ⟨⟨P0, P1, P2, P3, k0, k1, k2, k3, rfl, s0, s1, s2, s3⟩, b0, b1, b2, b3⟩ := hp
  obtain ⟨⟨A0, A1, A2, A3, c0, c1, c2, c3, rfl, t0, t1, t2, t3⟩, f0, f1, f2, f3⟩ := hs
  injection ep with ep
  injection es with es
  subst ep es
  unfold maxLen at f2
  replace X : BoxTk W w0.heap.size g (tkC P0 P1 P2 P3 d.n0 k0 d.n1 k1 d.n2 k2 d.n3 k3 d.l d.p d.t A0 A1 A2 A3 s.pods.length c0 s.mnts.length c1 s.devs.length c2 s.lks.length c3 s.ph s.co s.ck s.bo s.ba s.lb s.gd s.pr (s.ck + 1) v).toList := X
  have hC := X.C
  have HND := Lib.hid hok.nd
  have HSZ := Lib.hid (size_ok hok.plan)
  clear s0 s1 s2 s3 t0 t1 t2 t3 b0 b1 b2 b3 f0 f1 f3 hok hl X O K HP HS
  go_enter Tryz.func74, Tryz.ntmps74
  go_wp2_with fail
  go_loopw [10] (fun j wr => ∃ k : Nat, k ≤ s.devs.length ∧ j = .int .i64 k ∧ Hid (Tk w0 wr g d s (l ++ recsOf k (giveG d s) (fun i _ => ⟨5, i, 0⟩))) ∧ Hid (KRow W wr)) (fun j _ => s.devs.length - (intOf j).toNat)
  case atStart => exact ⟨0, Nat.zero_le _, rfl, Lib.hid (by rw [recsOf_zero, List.append_nil]; exact HT.out), Lib.hid (KRow.refl W)⟩
  case round =>
    clear HT hC P0 P1 P2 P3 k0 k1 k2 k3 A0 A1 A3 c0 c1 c3 v
    obtain ⟨k, hk, rfl, HT, HKR⟩ := hrel
    by_cases hlt : k < s.devs.length
    · have hi : k < d.n3 := by rw [← HND.out]; exact hlt
      obtain ⟨K, pv, sv, v, hp, hs, ⟨pc, sc, ep, es, X⟩, O⟩ := HT.out
      have HP := Lib.hid hp
      have HS := Lib.hid hs
      obtain ⟨⟨P0, P1, P2, P3, k0, k1, k2, k3, rfl, s0, s1, s2, s3⟩, b0, b1, b2, b3⟩ := hp
      obtain ⟨⟨A0, A1, A2, A3, c0, c1, c2, c3, rfl, t0, t1, t2, t3⟩, f0, f1, f2, f3⟩ := hs
      injection ep with ep
      injection es with es
      subst ep es
      clear b0 b1 b2 b3 f0 f1 f3 O s0 s1 s2 s3 t0 t1 t2 t3
      replace X : BoxTk wr w0.heap.size g (tkC P0 P1 P2 P3 d.n0 k0 d.n1 k1 d.n2 k2 d.n3 k3 d.l d.p d.t A0 A1 A2 A3 s.pods.length c0 s.mnts.length c1 s.devs.length c2 s.lks.length c3 s.ph s.co s.ck s.bo s.ba s.lb s.gd s.pr (s.ck + 1) v).toList := X
      have HM : Hid ((stOkB d s && mayGiveB d s k) = giveB d s k) := Lib.hid (by
        rw [stOkB_iff.2 OK.out, mayGiveB, Int.toNat_natCast, show inB (k : Int) 0 (d.n3 - 1) = true by rw [inB_true]; omega]; rfl)
      have HG : Hid (giveG d s k = if giveB d s k then some () else none) := Lib.hid rfl
      have HN1 : Hid (l ++ recsOf (k + 1) (giveG d s) (fun i _ => ⟨5, i, 0⟩) = (l ++ recsOf k (giveG d s) (fun i _ => ⟨5, i, 0⟩)) ++ (match giveG d s k with | some _ => [⟨5, k, 0⟩] | none => [])) := Lib.hid (by rw [recsOf_next, List.append_assoc]; cases giveG d s k <;> rfl)
      have HLE : Hid ((l ++ recsOf k (giveG d s) (fun i _ => (⟨5, i, 0⟩ : RecD))).length ≤ 100) := Lib.hid (by have := recsOf_le k (giveG d s) (fun i _ => (⟨5, i, 0⟩ : RecD)); have := HLN.out; have := HSZ.out; rw [List.length_append]; omega)
      generalize giveG d s k = fg at HG HN1
      generalize l ++ recsOf k (giveG d s) (fun i _ => (⟨5, i, 0⟩ : RecD)) = lk at HN1 HLE HT
      go_wp2_with fail
      have HX1 := Lib.hid X
      have KC := Lib.hid K
      have Q0 : (∀ o, wr.cell? ⟨g, o, none⟩ = (tkC P0 P1 P2 P3 d.n0 k0 d.n1 k1 d.n2 k2 d.n3 k3 d.l d.p d.t A0 A1 A2 A3 s.pods.length c0 s.mnts.length c1 s.devs.length c2 s.lks.length c3 s.ph s.co s.ck s.bo s.ba s.lb s.gd s.pr (s.ck + 1) v)[o]?) ∧ Below wr.heap.size wr wr := ⟨X.C, Below.refl _ _⟩
      clear X K
      go_region_held3 (fun w' => (∀ o, w'.cell? ⟨g, o, none⟩ = (tkC P0 P1 P2 P3 d.n0 k0 d.n1 k1 d.n2 k2 d.n3 k3 d.l d.p d.t A0 A1 A2 A3 s.pods.length c0 s.mnts.length c1 s.devs.length c2 s.lks.length c3 s.ph s.co s.ck s.bo s.ba s.lb s.gd s.pr (s.ck + 1) v)[o]?) ∧ Below wr.heap.size wr w')
        (first | exact Q2 | exact Q0 | exact ⟨Q0.1, Q0.2.drew⟩)
        (first
          | (go_at_call 112
             have K0 : Below wr.heap.size wr wr.drew := (Below.refl _ _).drew
             refine (implMayGive_any _ _ d s (k : Int) _ (planAt HP.out (toW KC.out K0)) (stAt HS.out (toW KC.out K0))).mono ?_
             rintro e w6 ⟨rfl, hb6⟩
             rw [HM.out]
             have K2 : Below wr.heap.size wr w6 := K0.trans hb6
             have Q2 := And.intro (HX1.out.go K2).C K2))
      have HT6 := Lib.hid (HT.out.step K2)
      have HKR6 := Lib.hid (HKR.out.step K2)
      clear Q0 Q2 K0 K2 hb6 HT HKR HM
      rename_i hHeld
      clear hHeld
      generalize giveB d s k = fb at HG ⊢
      cases fb
      · go_wp2
        exact ⟨⟨k + 1, by omega, by go_num, Lib.hid (by rw [HN1.out, HG.out]; simpa using HT6.out), HKR6⟩, by simp [intOf]; omega⟩
      · go_wp2_with fail
        refine (collect_any w0 _ g d s lk 5 k 0 HT6.out HLE.out).mono ?_
        rintro e w7 ⟨rfl, hT7, hKR7⟩
        have HT7 := Lib.hid hT7
        have HKR7 := Lib.hid (HKR6.out.trans hKR7)
        clear hT7 hKR7
        go_wp2
        exact ⟨⟨k + 1, by omega, by go_num, Lib.hid (by rw [HN1.out, HG.out, if_pos trivial]; exact HT7.out), HKR7⟩, by simp [intOf]; omega⟩
    · obtain rfl : k = s.devs.length := by omega
      rw [HND.out] at HT
      go_wp2
      refine bodyPost_ret (v := .tuple #[]) (by simp [results, Tryz.results74, go_sem]) rfl ?_
      exact ⟨rfl, HT.out, HKR.out⟩
end Go.Proofs.YtdphpjnecjofeaaGreat
