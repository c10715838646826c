/-
  Chapter 10 of the program: the code of a refusal; Commanded.
-/
import Derived.Test.YtdphpjnecjofeaaGreatDoorMZ14
import Derived.Test.YtdphpjnecjofeaaGreatDoorMZxJb
import Derived.Test.YtdphpjnecjofeaaGreatDoorMZ12
import Derived.Test.YtdphpjnecjofeaaGreatDoorMZ6
/- Ji -/
set_option linter.unusedVariables false
namespace Go.Proofs.YtdphpjnecjofeaaGreatDoor
open Go.RowKit

/-- What is tried is what the chapter tells, of a right state. -/
theorem try_code {d : PlanD} {s : StD} {k a b : Int} : codeD (tryD d s k a b) = commandD d s k a b := by
  have eh : ∀ x, hookD x = -1 ↔ afterHook x < 0 := fun x => by unfold hookD afterHook; split <;> omega
  have ex : ∀ x, exitD x = -1 ↔ afterExit x < 0 := fun x => by unfold exitD afterExit; split <;> (try split) <;> omega
  have hh : ∀ x, hookD x = afterHook x := fun _ => rfl
  have hx : ∀ x, exitD x = afterExit x := fun _ => rfl
  have hf : ∀ f t, codeD (phaseT s f t) = phaseD s f t := fun f t => by unfold phaseT phaseD; split <;> rfl
  unfold tryD commandD
  split
  · exact hf 0 1
  split
  · exact hf 1 2
  split
  · unfold evictT evictD
    split
    · rfl
    split
    · rfl
    split
    · rfl
    split <;> rfl
  split
  · unfold shutT
    split
    · rename_i h; rw [shutD, if_pos h]; rfl
    · rename_i h; rw [shutD, if_neg h]; rfl
  split
  · unfold cancelT cancelD
    split
    · rename_i h
      split
      · rfl
      · rename_i h2
        rw [phaseD, if_pos (by omega)]
        rfl
    · rename_i h
      rw [if_neg (by omega), phaseD, if_neg (by omega)]
      rfl
  split
  · unfold lockT lockD
    split
    · rfl
    split
    · rfl
    split <;> rfl
  split
  · unfold unlockT unlockD
    split
    · rfl
    split <;> rfl
  split
  · unfold toldT toldD
    split
    · rfl
    split
    · rename_i h; rw [if_pos ((eh _).1 h)]; rfl
    · rename_i h; rw [if_neg (fun h2 => h ((eh _).2 h2)), hh]; rfl
  split
  · unfold toldT toldD
    split
    · rfl
    split
    · rename_i h; rw [if_pos ((ex _).1 h)]; rfl
    · rename_i h; rw [if_neg (fun h2 => h ((ex _).2 h2)), hx]; rfl
  split
  · unfold busyT busyD
    split
    · rfl
    split
    · rfl
    split
    · rfl
    split <;> rfl
  · rfl

theorem cmd_len (d : PlanD) (s : StD) (k a b : Int) : (if stOkB d s then commandD d s k a b else noR 1).1.length ≤ 1000 := by
  have hp : ∀ f t, (phaseD s f t).1.length ≤ 3 := fun f t => by unfold phaseD; split <;> simp [oneR, noR]
  have h3 : (evictD d s a).1.length ≤ 3 := by unfold evictD; (repeat' split) <;> simp [oneR, noR]
  have h4 : (shutD d s).1.length ≤ 3 := by unfold shutD; split <;> simp [noR]
  have h5 : (cancelD s).1.length ≤ 3 := by unfold cancelD; split; · simp [oneR]
                                           exact hp 1 0
  have h6 : (lockD s a).1.length ≤ 3 := by unfold lockD; (repeat' split) <;> simp [oneR, noR]
  have h7 : (unlockD s a).1.length ≤ 3 := by unfold unlockD; (repeat' split) <;> simp [oneR, noR]
  have h8 : ∀ f, (toldD d s f a).1.length ≤ 3 := fun f => by unfold toldD; (repeat' split) <;> simp [oneR, noR]
  have h9 : (busyD d s a b).1.length ≤ 3 := by unfold busyD; (repeat' split) <;> simp [oneR, noR]
  have key : (commandD d s k a b).1.length ≤ 3 := by
    unfold commandD
    repeat' split
    all_goals first | exact hp _ _ | assumption | exact h8 _ | simp [noR]
  split
  · omega
  · simp [noR]

set_option maxRecDepth 8000 in
set_option maxHeartbeats 4000000 in
theorem code_any (K O P S B : Addr) (k : Int) (y : Why) (w : World) (hE : Errs w K O P S B) :
    Calls Tryz.prog 84 #[refV k (whyV K O P S B y)] w fun e w' => e = .returned (.int .i64 (codeW y)) ∧ Below w.heap.size w w' := by
  have K1 : Below w.heap.size w (w.alloc (.cells #[.int .i64 0] 182)) := (Below.refl _ _).alloc (Nat.le_refl _) _
  have HE0 := Lib.hid (hE.below K1)
  clear hE
  cases y with
  | kind =>
    rw [show whyV K O P S B .kind = sentV K from rfl]
    go_enter Tryz.func84, Tryz.ntmps84
    go_wp2_with fail
    refine (As_other k K ⟨w.heap.size, 0, none⟩ _ (by simp) HE0.out.et).mono ?_
    rintro e w2 ⟨rfl, hb⟩
    have HE := Lib.hid (HE0.out.below hb)
    have K2 := K1.trans (hb.mono K1.size)
    clear hb
    have hg := HE.out.p.1
    go_wp2_with fail
    refine (Is_other k K P _ (HE.out.ne.1.1) HE.out.k.2 HE.out.p.2).mono ?_
    rintro e w3 ⟨rfl, hb⟩
    replace HE := Lib.hid (HE.out.below hb)
    have K3 := K2.trans (hb.mono K2.size)
    clear hb hg
    have hg := HE.out.s.1
    go_wp2_with fail
    refine (Is_other k K S _ (HE.out.ne.2.1.1) HE.out.k.2 HE.out.s.2).mono ?_
    rintro e w4 ⟨rfl, hb⟩
    replace HE := Lib.hid (HE.out.below hb)
    have K4 := K3.trans (hb.mono K3.size)
    clear hb hg
    have hg := HE.out.b.1
    go_wp2_with fail
    refine (Is_other k K B _ (HE.out.ne.2.2.1) HE.out.k.2 HE.out.b.2).mono ?_
    rintro e w5 ⟨rfl, hb⟩
    replace HE := Lib.hid (HE.out.below hb)
    have K5 := K4.trans (hb.mono K4.size)
    clear hb hg
    go_wp2
    go_ret
    exact ⟨rfl, K5⟩
  | often =>
    rw [show whyV K O P S B .often = sentV O from rfl]
    go_enter Tryz.func84, Tryz.ntmps84
    go_wp2_with fail
    refine (As_other k O ⟨w.heap.size, 0, none⟩ _ (by simp) HE0.out.et).mono ?_
    rintro e w2 ⟨rfl, hb⟩
    have HE := Lib.hid (HE0.out.below hb)
    have K2 := K1.trans (hb.mono K1.size)
    clear hb
    have hg := HE.out.p.1
    go_wp2_with fail
    refine (Is_other k O P _ (HE.out.ne.1.2.1) HE.out.o.2 HE.out.p.2).mono ?_
    rintro e w3 ⟨rfl, hb⟩
    replace HE := Lib.hid (HE.out.below hb)
    have K3 := K2.trans (hb.mono K2.size)
    clear hb hg
    have hg := HE.out.s.1
    go_wp2_with fail
    refine (Is_other k O S _ (HE.out.ne.2.1.2.1) HE.out.o.2 HE.out.s.2).mono ?_
    rintro e w4 ⟨rfl, hb⟩
    replace HE := Lib.hid (HE.out.below hb)
    have K4 := K3.trans (hb.mono K3.size)
    clear hb hg
    have hg := HE.out.b.1
    go_wp2_with fail
    refine (Is_other k O B _ (HE.out.ne.2.2.2.1) HE.out.o.2 HE.out.b.2).mono ?_
    rintro e w5 ⟨rfl, hb⟩
    replace HE := Lib.hid (HE.out.below hb)
    have K5 := K4.trans (hb.mono K4.size)
    clear hb hg
    go_wp2
    go_ret
    exact ⟨rfl, K5⟩
  | phase =>
    rw [show whyV K O P S B .phase = sentV P from rfl]
    go_enter Tryz.func84, Tryz.ntmps84
    go_wp2_with fail
    refine (As_other k P ⟨w.heap.size, 0, none⟩ _ (by simp) HE0.out.et).mono ?_
    rintro e w2 ⟨rfl, hb⟩
    have HE := Lib.hid (HE0.out.below hb)
    have K2 := K1.trans (hb.mono K1.size)
    clear hb
    have hg := HE.out.p.1
    go_wp2_with fail
    refine (Is_same k P _).mono ?_
    rintro e w3 ⟨rfl, hb⟩
    go_wp2
    go_ret
    exact ⟨rfl, K2.trans (hb.mono K2.size)⟩
  | state =>
    rw [show whyV K O P S B .state = sentV S from rfl]
    go_enter Tryz.func84, Tryz.ntmps84
    go_wp2_with fail
    refine (As_other k S ⟨w.heap.size, 0, none⟩ _ (by simp) HE0.out.et).mono ?_
    rintro e w2 ⟨rfl, hb⟩
    have HE := Lib.hid (HE0.out.below hb)
    have K2 := K1.trans (hb.mono K1.size)
    clear hb
    have hg := HE.out.p.1
    go_wp2_with fail
    refine (Is_other k S P _ (HE.out.ne.1.2.2.1) HE.out.s.2 HE.out.p.2).mono ?_
    rintro e w3 ⟨rfl, hb⟩
    replace HE := Lib.hid (HE.out.below hb)
    have K3 := K2.trans (hb.mono K2.size)
    clear hb hg
    have hg := HE.out.s.1
    go_wp2_with fail
    refine (Is_same k S _).mono ?_
    rintro e w4 ⟨rfl, hb⟩
    go_wp2
    go_ret
    exact ⟨rfl, K3.trans (hb.mono K3.size)⟩
  | budget =>
    rw [show whyV K O P S B .budget = sentV B from rfl]
    go_enter Tryz.func84, Tryz.ntmps84
    go_wp2_with fail
    refine (As_other k B ⟨w.heap.size, 0, none⟩ _ (by simp) HE0.out.et).mono ?_
    rintro e w2 ⟨rfl, hb⟩
    have HE := Lib.hid (HE0.out.below hb)
    have K2 := K1.trans (hb.mono K1.size)
    clear hb
    have hg := HE.out.p.1
    go_wp2_with fail
    refine (Is_other k B P _ (HE.out.ne.1.2.2.2) HE.out.b.2 HE.out.p.2).mono ?_
    rintro e w3 ⟨rfl, hb⟩
    replace HE := Lib.hid (HE.out.below hb)
    have K3 := K2.trans (hb.mono K2.size)
    clear hb hg
    have hg := HE.out.s.1
    go_wp2_with fail
    refine (Is_other k B S _ (HE.out.ne.2.1.2.2.2) HE.out.b.2 HE.out.s.2).mono ?_
    rintro e w4 ⟨rfl, hb⟩
    replace HE := Lib.hid (HE.out.below hb)
    have K4 := K3.trans (hb.mono K3.size)
    clear hb hg
    have hg := HE.out.b.1
    go_wp2_with fail
    refine (Is_same k B _).mono ?_
    rintro e w5 ⟨rfl, hb⟩
    go_wp2
    go_ret
    exact ⟨rfl, K4.trans (hb.mono K4.size)⟩
  | missing n =>
    rw [show whyV K O P S B (.missing n) = .iface 182 (.agg #[.int .i64 n]) from rfl]
    go_enter Tryz.func84, Tryz.ntmps84
    go_wp2_with fail
    refine (As_missing k n ⟨w.heap.size, 0, none⟩ (.int .i64 0) _ (by simp) HE0.out.et (cell_new _ _ _ 0) ((Own.box w _ _).F 0)).mono ?_
    rintro e w2 ⟨rfl, w3, hb, rfl⟩
    have K2 := K1.trans (hb.mono K1.size)
    go_wp2
    go_ret
    exact ⟨rfl, K2.setCell (Nat.le_refl _) _⟩

set_option maxRecDepth 20000 in
set_option maxHeartbeats 8000000 in
theorem implCommanded_any (K O P S B : Addr) (pv sv : Value) (d : PlanD) (s : StD) (k a b : Int) (w : World) (hp : IsPlan w w.heap.size pv d) (hs : IsSt w w.heap.size sv s) (hE : Errs w K O P S B) :
    Calls Tryz.prog 26 #[pv, sv, .int .i64 k, .int .i64 a, .int .i64 b] w (RecsA w (if stOkB d s then commandD d s k a b else noR 1)) := by
  have HP := Lib.hid hp
  have HS := Lib.hid hs
  have HE0 := Lib.hid hE
  obtain ⟨⟨P0, P1, P2, P3, k0, k1, k2, k3, rfl, s0, s1, s2, s3⟩, b0, b1, b2, b3⟩ := hp
  obtain ⟨⟨A0, A1, A2, A3, c0, c1, c2, c3, rfl, t0, t1, t2, t3⟩, f0, f1, f2, f3⟩ := hs
  have HC0 : Hid (IsCmd w w.heap.size (.agg (cmdC P0 P1 P2 P3 d.n0 k0 d.n1 k1 d.n2 k2 d.n3 k3 d.l d.p d.t A0 A1 A2 A3 s.pods.length c0 s.mnts.length c1 s.devs.length c2 s.lks.length c3 s.ph s.co s.ck s.bo s.ba s.lb s.gd s.pr a b)) d s a b) :=
    Lib.hid ⟨⟨P0, P1, P2, P3, k0, k1, k2, k3, A0, A1, A2, A3, c0, c1, c2, c3, rfl, ⟨s0, s1, s2, s3⟩, t0, t1, t2, t3⟩, ⟨b0, b1, b2, b3⟩, ⟨f0, f1, f2, f3⟩⟩
  clear s0 s1 s2 s3 t0 t1 t2 t3 b0 b1 b2 b3 f0 f1 f2 f3 hE
  have T0 := Two.start w (planC P0 P1 P2 P3 d.n0 k0 d.n1 k1 d.n2 k2 d.n3 k3 d.l d.p d.t) (stC A0 A1 A2 A3 s.pods.length c0 s.mnts.length c1 s.devs.length c2 s.lks.length c3 s.ph s.co s.ck s.bo s.ba s.lb s.gd s.pr) 47 40
  obtain ⟨ans, hans⟩ : ∃ ans, (if stOkB d s then commandD d s k a b else noR 1) = ans := ⟨_, rfl⟩
  rw [hans]
  have HANS := Lib.hid hans
  clear hans
  go_enter Tryz.func26, Tryz.ntmps26
  go_wp2_with fail
  refine (implStateOk_any _ _ d s _ ((HP.out.below T0.A.K (Nat.le_refl _)).more T0.A.K.size) ((HS.out.below T0.A.K (Nat.le_refl _)).more T0.A.K.size)).mono ?_
  rintro e w1 ⟨rfl, hb⟩
  have T1 := T0.step hb
  have hC := T1.A.C
  have hD := T1.O.C
  clear hb T0
  have K1 := T1.A.K
  cases hok : stOkB d s
  · have OKB : Hid (¬ stOkB d s = true) := Lib.hid (by rw [hok]; decide)
    clear hok
    go_wp2
    all_goals (go_ret2; rw [← HANS.out, if_neg OKB.out]; exact ⟨_, rfl, OR.empty K1.size, K1.alloc K1.size _⟩)
  · have OK := Lib.hid (stOkB_iff.1 hok)
    have HANS2 : Hid (ans = codeD (tryD d s k a b)) := Lib.hid (by rw [← HANS.out, if_pos hok, try_code])
    clear hok HANS
    go_wp2_with fail
    refine (done_any K O P S B _ d s k a b _ (HC0.out.go K1) OK.out (HE0.out.below K1)).mono ?_
    rintro e w2 ⟨v2, rfl, O2, hb⟩
    have K2 := K1.trans (hb.mono K1.size)
    have HE2 := Lib.hid (HE0.out.below K2)
    generalize tryD d s k a b = tr at O2 HANS2 ⊢
    obtain ⟨l, y⟩ := tr
    dsimp only at O2 ⊢
    cases y with
    | none =>
      rw [show doneV K O P S B k none = .nilIface from rfl]
      have O3 := (O2 rfl).base K1.size
      have HO3 := Lib.hid O3
      clear O2 O3 hC hD
      go_wp2
      all_goals (go_ret2; rw [HANS2.out]; exact ⟨v2, rfl, HO3.out, K2⟩)
    | some y =>
      rw [show doneV K O P S B k (some y) = refV k (whyV K O P S B y) from rfl]
      clear O2 hC hD
      have K3 := K2.alloc K2.size (.cells #[] 50)
      have O3 := Lib.hid (OR.empty (w := w2) K2.size)
      have HE3 := Lib.hid (HE2.out.below ((Below.refl w2.heap.size w2).alloc (Nat.le_refl _) (.cells #[] 50)))
      go_wp2_with fail
      refine (code_any K O P S B k y _ HE3.out).mono ?_
      rintro e w4 ⟨rfl, hb4⟩
      have O4 := Lib.hid (O3.out.below hb4)
      have K4 := K3.trans (hb4.mono K3.size)
      go_wp2
      all_goals (go_ret2; rw [HANS2.out]; exact ⟨_, rfl, O4.out, K4⟩)
end Go.Proofs.YtdphpjnecjofeaaGreatDoor
