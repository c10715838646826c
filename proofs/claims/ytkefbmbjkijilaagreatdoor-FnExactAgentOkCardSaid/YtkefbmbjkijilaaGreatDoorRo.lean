/-
  The program's NewAgent and AgentOk; the model's NewAgent of whatever plan.
-/
import Derived.Test.YtkefbmbjkijilaaGreatDoorRm
import Derived.Test.YtkefbmbjkijilaaGreatDoorRn
import Derived.Test.YtkefbmbjkijilaaGreatDoorMZ19
set_option linter.unusedVariables false
namespace Go.Proofs.YtkefbmbjkijilaaGreatDoor
open Go.RowKit

set_option maxRecDepth 100000 in
set_option maxHeartbeats 8000000 in
theorem implNewAgent_any (pv : Value) (d : PlanD) (w : World) (hp : IsPlR w w.heap.size pv d) (N : Names w) :
    Calls Tryz.prog 14 #[pv] w (RecA w (recovD d [])) := by
  have HP := Lib.hid hp
  have HN := Lib.hid N
  have HJ : Hid ((Tryz.prog.info? 48).map (·.size) = some 20) := Lib.hid (by kernel_rfl)
  obtain ⟨⟨A0, A1, A2, A3, c0, c1, c2, c3, rfl, -, -⟩, -⟩ := hp
  obtain ⟨ans, hans⟩ : ∃ ans, recovD d [] = ans := ⟨_, rfl⟩
  rw [hans]
  have HANS := Lib.hid hans
  clear hans N
  have XP := (Own.box w (planC A0 A1 A2 A3 d.n0 c0 d.n1 c1 d.n2 c2 d.n3 c3 d.l d.p d.t) 42).alloc (.cells (agC (.slice none 0 0) (.slice none 0 0) (.slice none 0 0) (.slice none 0 0) 0 0 0 0 false 0 0 0 0 (.slice none 0 0) (.slice none 0 0) (.slice none 0 0) (.slice none 0 0) 0 0 (.slice none 0 0)) 48)
  have HZ := heap_alloc_new (w.alloc (.cells (planC A0 A1 A2 A3 d.n0 c0 d.n1 c1 d.n2 c2 d.n3 c3 d.l d.p d.t) 42)) (.cells (agC (.slice none 0 0) (.slice none 0 0) (.slice none 0 0) (.slice none 0 0) 0 0 0 0 false 0 0 0 0 (.slice none 0 0) (.slice none 0 0) (.slice none 0 0) (.slice none 0 0) 0 0 (.slice none 0 0)) 48)
  simp only [heap_size_alloc_] at HZ
  have K := XP.K
  have hC := XP.C
  go_enter Tryz.func14, Tryz.ntmps14
  go_upto_region 1 with fail
  generalize (w.alloc (.cells (planC A0 A1 A2 A3 d.n0 c0 d.n1 c1 d.n2 c2 d.n3 c3 d.l d.p d.t) 42)).alloc (.cells (agC (.slice none 0 0) (.slice none 0 0) (.slice none 0 0) (.slice none 0 0) 0 0 0 0 false 0 0 0 0 (.slice none 0 0) (.slice none 0 0) (.slice none 0 0) (.slice none 0 0) 0 0 (.slice none 0 0)) 48) = w0 at XP HZ K hC ⊢
  go_wp2_with (first
    | (have hq := HZ2
       clear hq
       (with_reducible refine store_agent (x := 2) (y := 6) (g := w.heap.size + 1) (cs := cs) ?_ ?_ HZ2 ?_ ?_ ?_ ?_)
       · rfl
       · rfl
       · rw [hsz]; exact HJ.out
       · rw [hsz]; rfl
       · exact hone)
    | (go_at_call 21
       have hcall := implRecovered_any _ (.slice none 0 0) d [] w0 ((HP.out.below K (Nat.le_refl _)).more K.size) (Bt.nil _ _ _ _) (.inl rfl) (by decide) (HN.out.go K)
       rw [HANS.out] at hcall
       refine hcall.mono ?_
       clear hcall
       rintro e w1 ⟨v1, rfl, OA, hb⟩
       replace OA := OA.base K.size
       have HZ2 := (hb.block _ (Array.getElem?_eq_some_iff.1 HZ).1).trans HZ
       have K2 := K.trans (hb.mono K.size)
       obtain ⟨cs, rfl, hsz, hone⟩ := OA.flat))
  have KS : Keeps (· = w.heap.size + 1) w1 (w1.setRow (w.heap.size + 1) cs) := keeps_setRow ..
  exact bodyPost_ret (v := .tuple #[.agg cs, .bool ans.2]) (results_two_row Tryz.results14 _ _ _ _ _ _ _ _ rfl rfl (setRow_heap w1 _ _ _ _ _ HZ2) Tryz.underlying48 rfl (by rw [hsz]; exact HJ.out)) rfl ⟨_, rfl, OA.keepsT KS HZ2 (by decide), below_setRow K2 (by omega) _⟩
set_option maxRecDepth 100000 in
set_option maxHeartbeats 8000000 in
theorem specNewAgent_any (pv : Value) (d : PlanD) (w : World) (hp : IsPlR w w.heap.size pv d) :
    Calls Tryz.prog 12 #[pv] w (RecA w (recovD d [])) := by
  cases hok : planOkB d
  case true =>
    rw [recov_new, hok]
    exact newAgent_any pv d w hp hok
  case false =>
    rw [recov_bad hok]
    have HP := Lib.hid hp
    have HK := Lib.hid hok
    have HJ : Hid ((Tryz.prog.info? 48).map (·.size) = some 20) := Lib.hid (by kernel_rfl)
    obtain ⟨⟨A0, A1, A2, A3, c0, c1, c2, c3, rfl, -, -⟩, -⟩ := hp
    clear hok
    have XP := (Own.box w (planC A0 A1 A2 A3 d.n0 c0 d.n1 c1 d.n2 c2 d.n3 c3 d.l d.p d.t) 42).alloc (.cells (agC (.slice none 0 0) (.slice none 0 0) (.slice none 0 0) (.slice none 0 0) 0 0 0 0 false 0 0 0 0 (.slice none 0 0) (.slice none 0 0) (.slice none 0 0) (.slice none 0 0) 0 0 (.slice none 0 0)) 48)
    have HZ := heap_alloc_new (w.alloc (.cells (planC A0 A1 A2 A3 d.n0 c0 d.n1 c1 d.n2 c2 d.n3 c3 d.l d.p d.t) 42)) (.cells (agC (.slice none 0 0) (.slice none 0 0) (.slice none 0 0) (.slice none 0 0) 0 0 0 0 false 0 0 0 0 (.slice none 0 0) (.slice none 0 0) (.slice none 0 0) (.slice none 0 0) 0 0 (.slice none 0 0)) 48)
    simp only [heap_size_alloc_] at HZ
    have K := XP.K
    have hC := XP.C
    go_enter Tryz.func12, Tryz.ntmps12
    go_wp2_with fail
    generalize (w.alloc (.cells (planC A0 A1 A2 A3 d.n0 c0 d.n1 c1 d.n2 c2 d.n3 c3 d.l d.p d.t) 42)).alloc (.cells (agC (.slice none 0 0) (.slice none 0 0) (.slice none 0 0) (.slice none 0 0) 0 0 0 0 false 0 0 0 0 (.slice none 0 0) (.slice none 0 0) (.slice none 0 0) (.slice none 0 0) 0 0 (.slice none 0 0)) 48) = w0 at XP HZ K hC ⊢
    refine (spec_planOk_any _ d w0 ((HP.out.is.below K (Nat.le_refl _)).more K.size)).mono ?_
    rintro e w1 ⟨rfl, hb⟩
    rw [HK.out]
    replace HZ := (hb.block _ (Array.getElem?_eq_some_iff.1 HZ).1).trans HZ
    replace K := K.trans (hb.mono K.size)
    clear hb hC XP
    go_wp2_with (
      (with_reducible refine store_agent (x := 2) (y := 7) (g := w.heap.size + 1) (cs := agC (.slice none 0 0) (.slice none 0 0) (.slice none 0 0) (.slice none 0 0) 0 0 0 0 false 0 0 0 0 (.slice none 0 0) (.slice none 0 0) (.slice none 0 0) (.slice none 0 0) 0 0 (.slice none 0 0)) ?_ ?_ HZ ?_ ?_ ?_ ?_)
      · rfl
      · rfl
      · exact HJ.out
      · rfl
      · simp [Value.oneCell'])
    exact bodyPost_ret (v := .tuple #[.agg (agC (.slice none 0 0) (.slice none 0 0) (.slice none 0 0) (.slice none 0 0) 0 0 0 0 false 0 0 0 0 (.slice none 0 0) (.slice none 0 0) (.slice none 0 0) (.slice none 0 0) 0 0 (.slice none 0 0)), .bool false]) (results_two_row Tryz.results12 _ _ _ _ _ _ _ _ rfl rfl (setRow_heap _ _ _ _ _ _ HZ) Tryz.underlying48 rfl HJ.out) rfl ⟨_, rfl, OwnAg.zero _ _, belowRow_ K (by omega) _⟩
set_option maxRecDepth 100000 in
set_option maxHeartbeats 8000000 in
theorem implAgentOk_any (v : Value) (d : PlanD) (s : StD) (st : List Nat) (w : World) (h : IsAg w w.heap.size v d s st) (hst : st.length ≤ 1048576) (N : Names w) :
    Calls Tryz.prog 9 #[v] w fun e w' => e = .returned (.bool (agB d s st)) ∧ Below w.heap.size w w' := by
  obtain ⟨p0, p1, p2, p3, s0, s1, s2, s3, b, rfl, hp, hs, hb, hre⟩ := h.it
  have HP := Lib.hid hp
  have HS := Lib.hid hs
  have HB := Lib.hid hb
  have HR := Lib.hid hre
  have HN := Lib.hid N
  have HJ : Hid ((Tryz.prog.info? 48).map (·.size) = some 20) := Lib.hid (by kernel_rfl)
  obtain ⟨Ab, cb, rfl, hcap⟩ : ∃ A c, b = .slice A st.length c ∧ st.length ≤ c := by
    obtain ⟨⟨A, c, e, hc, -⟩, -, -⟩ := hb
    exact ⟨A, c, e, hc⟩
  obtain ⟨ans, hans⟩ : ∃ ans, agB d s st = ans := ⟨_, rfl⟩
  rw [hans]
  obtain ⟨d', s', st', ok, hrec⟩ : ∃ d' s' st' ok, recovD d st = ((d', s', st'), ok) := ⟨_, _, _, _, rfl⟩
  have HREC := Lib.hid hrec
  have HANS : Hid (ans = (ok && decide (st'.length = st.length) && decide (s' = s))) := Lib.hid (by rw [← hans, agB_rec, hrec])
  clear hans hrec h hp hs hb hre N
  have X0 := Own.box w (agC p0 p1 p2 p3 d.l d.p d.t s.ph s.co s.ck s.bo s.ba s.lb s0 s1 s2 s3 s.gd s.pr (.slice Ab st.length cb)) 48
  have hC := X0.C
  go_enter Tryz.func9, Tryz.ntmps9
  go_upto_region 1 with fail
  generalize w.alloc (.cells (agC p0 p1 p2 p3 d.l d.p d.t s.ph s.co s.ck s.bo s.ba s.lb s0 s1 s2 s3 s.gd s.pr (.slice Ab st.length cb)) 48) = w0 at X0 hC ⊢
  go_upto_region 2 with (first
    | (have hq := HB8
       clear hq
       (with_reducible refine store_agent (x := 3) (y := 11) (g := w1.heap.size) (cs := agC (.slice Q0 d'.n0 e0) (.slice Q1 d'.n1 e1) (.slice Q2 d'.n2 e2) (.slice Q3 d'.n3 e3) d'.l d'.p d'.t s'.ph s'.co s'.ck s'.bo s'.ba s'.lb (.slice D0 s'.pods.length m0) (.slice D1 s'.mnts.length m1) (.slice D2 s'.devs.length m2) (.slice D3 s'.lks.length m3) s'.gd s'.pr (.slice Ao st'.length co)) ?_ ?_ HB8 ?_ ?_ ?_ ?_)
       · rfl
       · rfl
       · exact HJ.out
       · rfl
       · simp [Value.oneCell'])
    | (go_at_call 21
       have hcall := implRecovered_any _ (.slice Ab st.length cb) d st w0 ((HP.out.below X0.K (Nat.le_refl _)).more X0.K.size) ((HB.out.below X0.K (Nat.le_refl _)).more X0.K.size) HR.out hst (HN.out.go X0.K)
       rw [HREC.out] at hcall
       refine hcall.mono ?_
       clear hcall
       rintro e w1 ⟨v1, rfl, OA, hb⟩
       have X1 := X0.step hb
       obtain ⟨q0, q1, q2, q3, t0, t1, t2, t3, u, rfl, Lp, OT, Ob, -⟩ := OA.it
       obtain ⟨Q0, e0, rfl, -, -⟩ := Lp.o0.formR
       obtain ⟨Q1, e1, rfl, -, -⟩ := Lp.o1.formR
       obtain ⟨Q2, e2, rfl, -, -⟩ := Lp.o2.formR
       obtain ⟨Q3, e3, rfl, -, -⟩ := Lp.o3.formR
       obtain ⟨⟨D0, m0, rfl⟩, ⟨D1, m1, rfl⟩, ⟨D2, m2, rfl⟩, ⟨D3, m3, rfl⟩⟩ := OT.shapes
       obtain ⟨Ao, co, -, rfl, -⟩ := Ob.open_
       have HB8 := heap_alloc_new w1 (.cells (agC (.slice none 0 0) (.slice none 0 0) (.slice none 0 0) (.slice none 0 0) 0 0 0 0 false 0 0 0 0 (.slice none 0 0) (.slice none 0 0) (.slice none 0 0) (.slice none 0 0) 0 0 (.slice none 0 0)) 48)
       have HOT := Lib.hid OT
       clear OA Lp Ob OT hb X0 hC
       have hC := X1.C))
  have hA : Below w1.heap.size w1 (w1.alloc (.cells (agC (.slice none 0 0) (.slice none 0 0) (.slice none 0 0) (.slice none 0 0) 0 0 0 0 false 0 0 0 0 (.slice none 0 0) (.slice none 0 0) (.slice none 0 0) (.slice none 0 0) 0 0 (.slice none 0 0)) 48)) := (Below.refl _ _).alloc (Nat.le_refl _) _
  have hA2 := below_setRow hA (Nat.le_refl _) (agC (.slice Q0 d'.n0 e0) (.slice Q1 d'.n1 e1) (.slice Q2 d'.n2 e2) (.slice Q3 d'.n3 e3) d'.l d'.p d'.t s'.ph s'.co s'.ck s'.bo s'.ba s'.lb (.slice D0 s'.pods.length m0) (.slice D1 s'.mnts.length m1) (.slice D2 s'.devs.length m2) (.slice D3 s'.lks.length m3) s'.gd s'.pr (.slice Ao st'.length co))
  have X2 := X1.step hA2
  have OT2 := Lib.hid (HOT.out.below hA2)
  have HG := setRow_heap _ _ _ (agC (.slice Q0 d'.n0 e0) (.slice Q1 d'.n1 e1) (.slice Q2 d'.n2 e2) (.slice Q3 d'.n3 e3) d'.l d'.p d'.t s'.ph s'.co s'.ck s'.bo s'.ba s'.lb (.slice D0 s'.pods.length m0) (.slice D1 s'.mnts.length m1) (.slice D2 s'.devs.length m2) (.slice D3 s'.lks.length m3) s'.gd s'.pr (.slice Ao st'.length co)) _ _ HB8
  clear X1 hA hA2 HOT HB8 hC
  generalize (w1.alloc (.cells (agC (.slice none 0 0) (.slice none 0 0) (.slice none 0 0) (.slice none 0 0) 0 0 0 0 false 0 0 0 0 (.slice none 0 0) (.slice none 0 0) (.slice none 0 0) (.slice none 0 0) 0 0 (.slice none 0 0)) 48)).setRow w1.heap.size (agC (.slice Q0 d'.n0 e0) (.slice Q1 d'.n1 e1) (.slice Q2 d'.n2 e2) (.slice Q3 d'.n3 e3) d'.l d'.p d'.t s'.ph s'.co s'.ck s'.bo s'.ba s'.lb (.slice D0 s'.pods.length m0) (.slice D1 s'.mnts.length m1) (.slice D2 s'.devs.length m2) (.slice D3 s'.lks.length m3) s'.gd s'.pr (.slice Ao st'.length co)) = w2 at X2 OT2 HG ⊢
  generalize w1.heap.size = g at HG ⊢
  have hC := X2.C
  have hD : ∀ o, w2.cell? ⟨g, o, none⟩ = (agC (.slice Q0 d'.n0 e0) (.slice Q1 d'.n1 e1) (.slice Q2 d'.n2 e2) (.slice Q3 d'.n3 e3) d'.l d'.p d'.t s'.ph s'.co s'.ck s'.bo s'.ba s'.lb (.slice D0 s'.pods.length m0) (.slice D1 s'.mnts.length m1) (.slice D2 s'.devs.length m2) (.slice D3 s'.lks.length m3) s'.gd s'.pr (.slice Ao st'.length co))[o]? := fun o => cell_of_row _ _ o _ _ _ HG
  clear HG
  cases ok
  · have HT : Hid (ans = false) := Lib.hid (by rw [HANS.out]; rfl)
    go_wp2
    all_goals (go_ret; exact ⟨by rw [HT.out]; rfl, X2.K⟩)
  · by_cases hlen : st'.length = st.length
    case neg =>
      have HT : Hid (ans = false) := Lib.hid (by rw [HANS.out, decide_eq_false hlen]; rfl)
      have e0 : ((st'.length : Int) == (st.length : Int)) = false := beq_eq_false_iff_ne.2 (fun h => hlen (by omega))
      clear hlen
      go_wp2
      all_goals (go_ret; exact ⟨by rw [HT.out]; rfl, X2.K⟩)
    case pos =>
      have HT : Hid (ans = decide (s' = s)) := Lib.hid (by rw [HANS.out, decide_eq_true hlen]; rfl)
      have e0 : ((st'.length : Int) == (st.length : Int)) = true := beq_iff_eq.2 (by omega)
      clear hlen
      go_wp2_with fail
      refine (implSame_any _ _ s' s w2 OT2.out.st ((HS.out.is.below X2.K (Nat.le_refl _)).more X2.K.size)).mono ?_
      rintro e w3 ⟨rfl, hb⟩
      rw [← HT.out]
      replace X2 := X2.step hb
      clear hb hC hD e0
      go_wp2
      all_goals (go_ret; exact ⟨rfl, X2.K⟩)
end Go.Proofs.YtkefbmbjkijilaaGreatDoor
