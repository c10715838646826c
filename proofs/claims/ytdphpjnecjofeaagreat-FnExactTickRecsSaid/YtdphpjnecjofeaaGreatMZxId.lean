/-
  Chapter 11 of the program: release, shut, TickRecs.
-/
import Derived.Test.YtdphpjnecjofeaaGreatMZxIc
import Derived.Test.YtdphpjnecjofeaaGreatMZ10
import Derived.Deep.RegionHeld3
import Derived.Deep.DeepCutAuto
/- Id -/
set_option linter.unusedVariables false
namespace Go.Proofs.YtdphpjnecjofeaaGreat
open Go.RowKit

set_option maxRecDepth 100000 in
set_option maxHeartbeats 8000000 in
theorem release_any (w0 W : World) (g : Nat) (d : PlanD) (s : StD) (l : List RecD) (h : Tk w0 W g d s l) (hok : StOk d s) (hl : l.length ≤ 1) :
    Calls Tryz.prog 37 #[.pointer (some ⟨g, 0, none⟩)] W (TkP w0 W g d s (l ++ releaseL d s)) := by
  have HT := Lib.hid h
  have OK := Lib.hid hok
  have HLN := Lib.hid hl
  have HSZ := Lib.hid (size_ok hok.plan)
  have HR : Hid (releaseL d s = if heldB s then recsOf d.n2 (freeG d s) mntRec ++ recsOf d.n3 (giveG d s) (fun i _ => ⟨5, i, 0⟩) else [⟨1, 5, 0⟩]) := Lib.hid rfl
  obtain ⟨K, pv, sv, v, hp, hs, ⟨pc, sc, ep, es, X⟩, O⟩ := h
  have HP := Lib.hid hp
  have HS := Lib.hid hs
  obtain ⟨⟨P0, P1, P2, P3, k0, k1, k2, k3, rfl, s0, s1, s2, s3⟩, b0, b1, b2, b3⟩ := hp
  obtain ⟨⟨A0, A1, A2, A3, c0, c1, c2, c3, rfl, t0, t1, t2, t3⟩, f0, f1, f2, f3⟩ := hs
  injection ep with ep
  injection es with es
  subst ep es
  replace X : BoxTk W w0.heap.size g (tkC P0 P1 P2 P3 d.n0 k0 d.n1 k1 d.n2 k2 d.n3 k3 d.l d.p d.t A0 A1 A2 A3 s.pods.length c0 s.mnts.length c1 s.devs.length c2 s.lks.length c3 s.ph s.co s.ck s.bo s.ba s.lb s.gd s.pr (s.ck + 1) v).toList := X
  have hC := X.C
  have HK := Lib.hid K
  clear s0 s1 s2 s3 t0 t1 t2 t3 b0 b1 b2 b3 f0 f1 f2 f3 hok hl X O K HP
  go_enter Tryz.func37, Tryz.ntmps37
  go_wp2_with fail
  refine (implHeld_any _ s _ (stAt HS.out HK.out)).mono ?_
  rintro e w1 ⟨rfl, hb⟩
  have HT1 := Lib.hid (HT.out.step hb)
  have HKR1 := Lib.hid ((KRow.refl W).step hb)
  clear hC hb HT HK
  cases hh : heldB s
  · have HH := Lib.hid hh
    clear hh
    go_wp2_with fail
    refine (collect_any w0 _ g d s l 1 5 0 HT1.out (by have := HLN.out; omega)).mono ?_
    rintro e w7 ⟨rfl, hT7, hKR7⟩
    have HT7 := Lib.hid hT7
    have HKR7 := Lib.hid (HKR1.out.trans hKR7)
    clear hT7 hKR7
    go_wp2
    refine bodyPost_ret (v := .tuple #[]) (by simp [results, Tryz.results37, go_sem]) rfl ?_
    exact ⟨rfl, by rw [HR.out, if_neg (by rw [HH.out]; decide)]; exact HT7.out, HKR7.out⟩
  · have HH := Lib.hid hh
    clear hh
    go_wp2_with fail
    refine (freeMounts_any w0 _ g d s l HT1.out OK.out HLN.out).mono ?_
    rintro e w2 ⟨rfl, hT2, hKR2⟩
    have HT2 := Lib.hid hT2
    have HKR2 := Lib.hid (HKR1.out.trans hKR2)
    clear hT2 hKR2 HT1 HKR1
    go_wp2_with fail
    refine (giveDevices_any w0 _ g d s _ HT2.out OK.out (by have := HLN.out; have := HSZ.out; have := recsOf_le d.n2 (freeG d s) mntRec; rw [List.length_append]; omega)).mono ?_
    rintro e w3 ⟨rfl, hT3, hKR3⟩
    have HT3 := Lib.hid hT3
    have HKR3 := Lib.hid (HKR2.out.trans hKR3)
    clear hT3 hKR3 HT2 HKR2
    go_wp2
    refine bodyPost_ret (v := .tuple #[]) (by simp [results, Tryz.results37, go_sem]) rfl ?_
    exact ⟨rfl, by rw [HR.out, if_pos HH.out, ← List.append_assoc]; exact HT3.out, HKR3.out⟩

set_option maxRecDepth 100000 in
set_option maxHeartbeats 8000000 in
theorem shutTk_any (w0 W : World) (g : Nat) (d : PlanD) (s : StD) (l : List RecD) (h : Tk w0 W g d s l) (hok : StOk d s) (hl : l.length ≤ 1) :
    Calls Tryz.prog 36 #[.pointer (some ⟨g, 0, none⟩)] W (TkP w0 W g d s (l ++ shutL d s (s.ck + 1))) := by
  have HT := Lib.hid h
  have OK := Lib.hid hok
  have HLN := Lib.hid hl
  have HSZ := Lib.hid (size_ok hok.plan)
  have HPL := Lib.hid (fun (k : Nat) (hk : k < (podsL d s.ba).length) => podsL_in hk)
  have HPN : Hid ((podsL d s.ba).length ≤ 12) := Lib.hid (by have := podsL_le d s.ba; have := HSZ.out; omega)
  have HLV := Lib.hid (fun h1 h2 h3 => shutL_live (d := d) (s := s) (c := s.ck + 1) hok.plan h1 h2 h3)
  have HDD : Hid (∀ (h1 : ¬ (s.lks ≠ [] ∧ s.ck + 1 < s.lb)) (h2 : ¬ s.ba = 6) (h3 : (podsL d s.ba).any (fun i => aliveB (podAt s i.toNat).1) = false), shutL d s (s.ck + 1) = [⟨9, nextB d s.ba, 0⟩]) := Lib.hid fun h1 h2 h3 => by
    rw [shutL_dead hok.plan h1 h2 h3, elem_none h3]
    rfl
  obtain ⟨K, pv, sv, v, hp, hs, ⟨pc, sc, ep, es, X⟩, O⟩ := h
  have HP := Lib.hid hp
  have HS := Lib.hid hs
  obtain ⟨⟨P0, P1, P2, P3, k0, k1, k2, k3, rfl, s0, s1, s2, s3⟩, b0, b1, b2, b3⟩ := hp
  obtain ⟨⟨A0, A1, A2, A3, c0, c1, c2, c3, rfl, t0, t1, t2, t3⟩, f0, f1, f2, f3⟩ := hs
  injection ep with ep
  injection es with es
  subst ep es
  replace X : BoxTk W w0.heap.size g (tkC P0 P1 P2 P3 d.n0 k0 d.n1 k1 d.n2 k2 d.n3 k3 d.l d.p d.t A0 A1 A2 A3 s.pods.length c0 s.mnts.length c1 s.devs.length c2 s.lks.length c3 s.ph s.co s.ck s.bo s.ba s.lb s.gd s.pr (s.ck + 1) v).toList := X
  have HX := Lib.hid X
  have HK := Lib.hid K
  have Q0 : (∀ o, W.cell? ⟨g, o, none⟩ = (tkC P0 P1 P2 P3 d.n0 k0 d.n1 k1 d.n2 k2 d.n3 k3 d.l d.p d.t A0 A1 A2 A3 s.pods.length c0 s.mnts.length c1 s.devs.length c2 s.lks.length c3 s.ph s.co s.ck s.bo s.ba s.lb s.gd s.pr (s.ck + 1) v)[o]?) ∧ Below W.heap.size W W := ⟨X.C, Below.refl _ _⟩
  clear s0 s1 s2 s3 t0 t1 t2 t3 b0 b1 b2 b3 f0 f1 f2 f3 hok hl X O K HS
  go_enter Tryz.func36, Tryz.ntmps36
  go_wp2_with fail
  go_region_held3 (fun w' => (∀ o, w'.cell? ⟨g, o, none⟩ = (tkC P0 P1 P2 P3 d.n0 k0 d.n1 k1 d.n2 k2 d.n3 k3 d.l d.p d.t A0 A1 A2 A3 s.pods.length c0 s.mnts.length c1 s.devs.length c2 s.lks.length c3 s.ph s.co s.ck s.bo s.ba s.lb s.gd s.pr (s.ck + 1) v)[o]?) ∧ Below W.heap.size W w')
    (first | exact Q2 | exact Q0 | exact ⟨Q0.1, Q0.2.drew⟩)
    (first
      | (go_at_call 67
         have K0 : Below W.heap.size W W.drew := (Below.refl _ _).drew
         refine (implPods_any _ d _ _ (planAt HP.out (toW HK.out K0)) (by have := HSZ.out; omega)).mono ?_
         rintro e w5 ⟨vL, rfl, OL, hb⟩
         have K1 : Below W.heap.size W w5 := K0.trans hb
         have Q2 := And.intro (HX.out.go K1).C K1))
  rename_i hHeld
  clear hHeld Q0 Q2 K0 hb
  have HT5 := Lib.hid (HT.out.step K1)
  have HX5 := Lib.hid (HX.out.go K1)
  have HKR5 := Lib.hid ((KRow.refl W).step K1)
  obtain ⟨AL, cL, rfl, -, SL⟩ := open_rowR OL
  have HOL := Lib.hid OL
  clear SL OL HT HX K1 HK
  generalize podsL d s.ba = L at HOL HLV HDD HPL HPN ⊢
  generalize hBB : W.drew.heap.size = BB at HOL
  clear hBB
  go_wp2_with fail
  refine (waits_any w0 _ g d s l HT5.out).mono ?_
  rintro e w6 ⟨rfl, hb⟩
  have HT6 := Lib.hid (HT5.out.step hb)
  have HX6 := Lib.hid (HX5.out.go hb)
  have HKR6 := Lib.hid (HKR5.out.step hb)
  have HOL6 := Lib.hid (ownsRow_below HOL.out hb)
  clear hb HT5 HX5 HKR5 HOL
  cases hw : waitsB s
  case true =>
    have HW := Lib.hid (waitsB_iff.1 hw)
    clear hw
    go_wp2
    refine bodyPost_ret (v := .tuple #[]) (by simp [results, Tryz.results36, go_sem]) rfl ?_
    exact ⟨rfl, by rw [shutL, if_pos HW.out, List.append_nil]; exact HT6.out, HKR6.out⟩
  case false =>
    have HW : Hid (¬ (s.lks ≠ [] ∧ s.ck + 1 < s.lb)) := Lib.hid fun h => by rw [waitsB_iff.2 h] at hw; cases hw
    clear hw
    have hC := HX6.out.C
    cases h6 : (s.ba == 6)
    case true =>
      have H6 : Hid (s.ba = 6) := Lib.hid (by simpa using h6)
      go_wp2_with fail
      refine (collect_any w0 _ g d s l 1 4 0 HT6.out (by have := HLN.out; omega)).mono ?_
      rintro e w7 ⟨rfl, hT7, hKR7⟩
      have HT7 := Lib.hid hT7
      have HKR7 := Lib.hid (HKR6.out.trans hKR7)
      clear hT7 hKR7
      go_wp2
      refine bodyPost_ret (v := .tuple #[]) (by simp [results, Tryz.results36, go_sem]) rfl ?_
      exact ⟨rfl, by rw [shutL, if_neg HW.out, if_pos H6.out]; exact HT7.out, HKR7.out⟩
    case false =>
      have H6 : Hid (¬ s.ba = 6) := Lib.hid (by simpa using h6)
      go_wp2_with fail
      refine (anyAlive_any w0 _ g d s l HT6.out OK.out _ cL AL L HOL6.out HPL.out HPN.out).mono ?_
      rintro e w8 ⟨rfl, hb⟩
      have HT8 := Lib.hid (HT6.out.step hb)
      have HKR8 := Lib.hid (HKR6.out.step hb)
      have HOL8 := Lib.hid (ownsRow_below HOL6.out hb)
      clear hb hC HT6 HX6 HKR6 HOL6
      cases hv : L.any (fun i => aliveB (podAt s i.toNat).1)
      · have HV := Lib.hid (HDD.out HW.out H6.out hv)
        clear hv
        go_wp2_with fail
        refine (bandBehind_any w0 _ g d s l HT8.out).mono ?_
        rintro e w9 ⟨rfl, hb⟩
        have HT9 := Lib.hid (HT8.out.step hb)
        have HKR9 := Lib.hid (HKR8.out.step hb)
        clear hb HT8 HKR8
        go_wp2_with fail
        refine (collect_any w0 _ g d s l 9 (nextB d s.ba) 0 HT9.out (by have := HLN.out; omega)).mono ?_
        rintro e w7 ⟨rfl, hT7, hKR7⟩
        have HT7 := Lib.hid hT7
        have HKR7 := Lib.hid (HKR9.out.trans hKR7)
        clear hT7 hKR7
        go_wp2
        refine bodyPost_ret (v := .tuple #[]) (by simp [results, Tryz.results36, go_sem]) rfl ?_
        exact ⟨rfl, by rw [HV.out]; exact HT7.out, HKR7.out⟩
      · have HV := Lib.hid (HLV.out HW.out H6.out hv)
        clear hv
        go_wp2_with fail
        refine (stepPods_any w0 _ g d s l HT8.out OK.out HLN.out _ cL AL L HOL8.out HPL.out HPN.out).mono ?_
        rintro e w7 ⟨rfl, hT7, hKR7⟩
        have HT7 := Lib.hid hT7
        have HKR7 := Lib.hid (HKR8.out.trans hKR7)
        clear hT7 hKR7
        go_wp2
        refine bodyPost_ret (v := .tuple #[]) (by simp [results, Tryz.results36, go_sem]) rfl ?_
        exact ⟨rfl, by rw [HV.out]; exact HT7.out, HKR7.out⟩

/-- What a tick has collected, in its box. -/
theorem tick_recs {w0 W : World} {g : Nat} {d : PlanD} {s : StD} {l : List RecD} (h : Tk w0 W g d s l) : Below w0.heap.size w0 W ∧ ∃ A c, W.cell? ⟨g, 20, none⟩ = some (.slice A l.length c) ∧ OR W w0.heap.size (.slice A l.length c) l := by
  obtain ⟨K, pv, sv, v, hp, hs, ⟨pc, sc, ep, es, X⟩, O⟩ := h
  have HP := Lib.hid hp
  have HS := Lib.hid hs
  obtain ⟨⟨P0, P1, P2, P3, k0, k1, k2, k3, rfl, s0, s1, s2, s3⟩, b0, b1, b2, b3⟩ := hp
  obtain ⟨⟨A0, A1, A2, A3, c0, c1, c2, c3, rfl, t0, t1, t2, t3⟩, f0, f1, f2, f3⟩ := hs
  injection ep with ep
  injection es with es
  subst ep es
  obtain ⟨A, c, rfl, -, -⟩ := O.slv
  replace X : BoxTk W w0.heap.size g (tkC P0 P1 P2 P3 d.n0 k0 d.n1 k1 d.n2 k2 d.n3 k3 d.l d.p d.t A0 A1 A2 A3 s.pods.length c0 s.mnts.length c1 s.devs.length c2 s.lks.length c3 s.ph s.co s.ck s.bo s.ba s.lb s.gd s.pr (s.ck + 1) (.slice A l.length c)).toList := X
  exact ⟨K, A, c, X.C 20, O⟩
theorem tick_len1 (d : PlanD) (s : StD) : (if stOkB d s then tickD d s else noR 1).1.length ≤ 1000 := by
  split
  · rename_i h
    have hok := stOkB_iff.1 h
    have h3 := shutL_le (d := d) (s := s) (c := s.ck + 1) hok.plan
    have h4 := releaseL_le (d := d) (s := s) hok.plan
    unfold tickD tickL
    repeat' split
    all_goals simp only [noR, List.length_cons, List.length_nil]
    all_goals omega
  · simp [noR]

set_option maxRecDepth 100000 in
set_option maxHeartbeats 8000000 in
theorem implTickRecs_any (pv sv : Value) (d : PlanD) (s : StD) (w : World) (hp : IsPlan w w.heap.size pv d) (hs : IsSt w w.heap.size sv s) :
    Calls Tryz.prog 9 #[pv, sv] w (RecsA w (if stOkB d s then tickD d s else noR 1)) := by
  have HP := Lib.hid hp
  have HS := Lib.hid hs
  obtain ⟨⟨P0, P1, P2, P3, k0, k1, k2, k3, rfl, -, -, -, -⟩, b0, b1, b2, b3⟩ := hp
  obtain ⟨⟨A0, A1, A2, A3, c0, c1, c2, c3, rfl, -, -, -, -⟩, f0, f1, f2, f3⟩ := hs
  clear b0 b1 b2 b3 f0 f1 f2 f3
  have T0 := Two.start w (planC P0 P1 P2 P3 d.n0 k0 d.n1 k1 d.n2 k2 d.n3 k3 d.l d.p d.t) (stC A0 A1 A2 A3 s.pods.length c0 s.mnts.length c1 s.devs.length c2 s.lks.length c3 s.ph s.co s.ck s.bo s.ba s.lb s.gd s.pr) 42 47
  obtain ⟨ans, hans⟩ : ∃ ans, (if stOkB d s then tickD d s else noR 1) = ans := ⟨_, rfl⟩
  rw [hans]
  have HANS := Lib.hid hans
  clear hans
  go_enter Tryz.func9, Tryz.ntmps9
  go_wp2_with fail
  refine (implStateOk_any _ _ d s _ (planAt HP.out T0.A.K) (stAt HS.out T0.A.K)).mono ?_
  rintro e w1 ⟨rfl, hb⟩
  have T1 := T0.step hb
  have hC := T1.A.C
  have hD := T1.O.C
  clear hb T0
  cases hok : stOkB d s
  · have OKB : Hid (¬ stOkB d s = true) := Lib.hid (by rw [hok]; decide)
    clear hok
    have O9 : OR (w1.alloc (.cells #[] 77)) w.heap.size (.slice (some ⟨w1.heap.size, 0, none⟩) 0 0) [] := OR.empty T1.A.K.size
    have HO9 := Lib.hid O9
    have K9 := T1.A.K.alloc T1.A.K.size (.cells #[] 77)
    clear O9
    go_wp2
    all_goals (go_ret2; rw [← HANS.out, if_neg OKB.out]; exact ⟨_, rfl, HO9.out, K9⟩)
  · have OK := Lib.hid (stOkB_iff.1 hok)
    have HANS2 : Hid (ans = tickD d s) := Lib.hid (by rw [← HANS.out, if_pos hok])
    clear hok HANS
    have hck := OK.out.ck
    cases hsp : (s.ck == 1000000)
    case true =>
      have HSP : Hid (1000000 ≤ s.ck) := Lib.hid (by simp at hsp; omega)
      have O9 : OR (w1.alloc (.cells #[] 77)) w.heap.size (.slice (some ⟨w1.heap.size, 0, none⟩) 0 0) [] := OR.empty T1.A.K.size
      have HO9 := Lib.hid O9
      have K9 := T1.A.K.alloc T1.A.K.size (.cells #[] 77)
      clear O9
      go_wp2
      all_goals (go_ret2; rw [HANS2.out, tickD, if_pos HSP.out]; exact ⟨_, rfl, HO9.out, K9⟩)
    case false =>
      have HSP : Hid (¬ 1000000 ≤ s.ck) := Lib.hid (by simp at hsp; omega)
      have HANS3 : Hid (ans = ([⟨8, s.ck + 1, 0⟩] ++ (if s.ph = 3 then shutL d s (s.ck + 1) else if s.ph = 4 then releaseL d s else []), 0)) := Lib.hid (by rw [HANS2.out, tickD, if_neg HSP.out]; rfl)
      have KB : Below w1.heap.size w1 (w1.alloc (.cells (tkC P0 P1 P2 P3 d.n0 k0 d.n1 k1 d.n2 k2 d.n3 k3 d.l d.p d.t A0 A1 A2 A3 s.pods.length c0 s.mnts.length c1 s.devs.length c2 s.lks.length c3 s.ph s.co s.ck s.bo s.ba s.lb s.gd s.pr (s.ck + 1) (.slice none 0 0)) 74)) := (Below.refl _ _).alloc (Nat.le_refl _) _
      have XT : BoxTk (w1.alloc (.cells (tkC P0 P1 P2 P3 d.n0 k0 d.n1 k1 d.n2 k2 d.n3 k3 d.l d.p d.t A0 A1 A2 A3 s.pods.length c0 s.mnts.length c1 s.devs.length c2 s.lks.length c3 s.ph s.co s.ck s.bo s.ba s.lb s.gd s.pr (s.ck + 1) (.slice none 0 0)) 74)) w1.heap.size w1.heap.size (tkC P0 P1 P2 P3 d.n0 k0 d.n1 k1 d.n2 k2 d.n3 k3 d.l d.p d.t A0 A1 A2 A3 s.pods.length c0 s.mnts.length c1 s.devs.length c2 s.lks.length c3 s.ph s.co s.ck s.bo s.ba s.lb s.gd s.pr (s.ck + 1) (.slice none 0 0)).toList := BoxTk.new rfl (Nat.le_refl _) rfl
      have HTK : Hid (Tk w1 (w1.alloc (.cells (tkC P0 P1 P2 P3 d.n0 k0 d.n1 k1 d.n2 k2 d.n3 k3 d.l d.p d.t A0 A1 A2 A3 s.pods.length c0 s.mnts.length c1 s.devs.length c2 s.lks.length c3 s.ph s.co s.ck s.bo s.ba s.lb s.gd s.pr (s.ck + 1) (.slice none 0 0)) 74)) w1.heap.size d s []) := Lib.hid ⟨KB, _, _, _, planAt HP.out T1.A.K, stAt HS.out T1.A.K, ⟨_, _, rfl, rfl, XT⟩, OR.nil_ _ _⟩
      have hT := XT.C
      have HT1 := Lib.hid T1
      have HZ := Lib.hid T1.A.K
      clear T1 KB XT HANS2
      go_wp2_with fail
      refine (collect_any w1 _ _ d s [] 8 (s.ck + 1) 0 HTK.out (by decide)).mono ?_
      rintro e w2 ⟨rfl, hT2, -⟩
      rw [List.nil_append] at hT2
      have HT2 := Lib.hid hT2
      have T2 := HT1.out.step hT2.1
      clear hT2 hT hC hD HTK
      have hD := T2.O.C
      cases h3 : (s.ph == 3)
      case true =>
        have H3 : Hid (s.ph = 3) := Lib.hid (by simpa using h3)
        go_wp2_with fail
        refine (shutTk_any w1 _ _ d s _ HT2.out OK.out (by simp)).mono ?_
        rintro e w3 ⟨rfl, hT3, -⟩
        obtain ⟨K3, A3_, c3_, X3c, O3⟩ := tick_recs hT3
        clear hD T2 HT2
        go_wp2
        all_goals (go_ret2; rw [HANS3.out, if_pos H3.out]; exact ⟨_, rfl, O3.base HZ.out.size, HZ.out.trans (K3.mono HZ.out.size)⟩)
      case false =>
        have H3 : Hid (¬ s.ph = 3) := Lib.hid (by simpa using h3)
        cases h4 : (s.ph == 4)
        case true =>
          have H4 : Hid (s.ph = 4) := Lib.hid (by simpa using h4)
          go_wp2_with fail
          refine (release_any w1 _ _ d s _ HT2.out OK.out (by simp)).mono ?_
          rintro e w3 ⟨rfl, hT3, -⟩
          obtain ⟨K3, A3_, c3_, X3c, O3⟩ := tick_recs hT3
          clear hD T2 HT2
          go_wp2
          all_goals (go_ret2; rw [HANS3.out, if_neg H3.out, if_pos H4.out]; exact ⟨_, rfl, O3.base HZ.out.size, HZ.out.trans (K3.mono HZ.out.size)⟩)
        case false =>
          have H4 : Hid (¬ s.ph = 4) := Lib.hid (by simpa using h4)
          obtain ⟨K3, A3_, c3_, X3c, O3⟩ := tick_recs HT2.out
          clear HT2
          go_wp2
          all_goals (go_ret2; rw [HANS3.out, if_neg H3.out, if_neg H4.out, List.append_nil]; exact ⟨_, rfl, O3.base HZ.out.size, HZ.out.trans (K3.mono HZ.out.size)⟩)
end Go.Proofs.YtdphpjnecjofeaaGreat
