/-
  Chapter 10 of the program: tried, done.
-/
import Derived.Test.YtdphpjnecjofeaaGreatDoorMZ13
import Derived.Laws.Rows
/- Jg -/
set_option linter.unusedVariables false
namespace Go.Proofs.YtdphpjnecjofeaaGreatDoor
open Go.RowKit

theorem load_cmd {ops : Array Oper} {rest : List Oper} {dst : Option Tmp} {ty : TypeId} {pos : String} {after : Array Edge} {c : Act} {w : World} {Q : Exit → Act → World → Prop} {g x : Nat} {cs : Array Value}
    (hx : c.eval (.tmp x) = .pointer (some ⟨g, 0, none⟩)) (hg : w.heap[g]? = some (.cells cs 120)) (hi : (Tryz.prog.info? 120).map (·.size) = some cs.size)
    (h : wpList Tryz.prog ops Q rest (c.put dst (.agg cs)) w) : wpList Tryz.prog ops Q (Oper.mk dst (.load 120 (.tmp x)) ty pos after none :: rest) c w :=
  wpList_load_row rfl 120 (.tmp x) rfl g hx _ cs _ _ hg Tryz.underlying120 rfl hi h
theorem next_first (d : PlanD) : nextB d (-1) = if (bandsL d).length = 0 then 6 else (bandsL d).getD 0 0 := by
  unfold nextB
  by_cases h : (bandsL d).length = 0
  · have e := bands_end d
    rw [h] at e
    rw [if_pos h, show nextL d (-1) = -1 from e, if_pos (by decide)]
  · have e := bands_next (d := d) (i := 0) (by omega)
    have h0 : 0 ≤ (bandsL d).getD 0 0 := by
      have hl : 0 < (bandsL d).length := by omega
      rw [show (bandsL d).getD 0 0 = (bandsL d)[0] by simp [List.getD, List.getElem?_eq_getElem hl]]
      exact bandsL_nonneg d _ (List.getElem_mem hl)
    rw [if_neg h, show nextL d (-1) = _ from e, if_neg (by omega)]

set_option maxRecDepth 20000 in
set_option maxHeartbeats 4000000 in
theorem cancel_any (K O P S B : Addr) (v : Value) (d : PlanD) (s : StD) (a b : Int) (w : World) (h : IsCmd w w.heap.size v d s a b) (hE : Errs w K O P S B) :
    Calls Tryz.prog 170 #[v] w (TryA K O P S B w (cancelT s)) := by
  have HE0 := Lib.hid hE
  have HC0 := Lib.hid h
  obtain ⟨cs, rfl, hsz⟩ : ∃ cs, v = .agg cs ∧ cs.size = 21 := by
    obtain ⟨⟨A0, A1, A2, A3, c0, c1, c2, c3, E0, E1, E2, E3, k0, k1, k2, k3, rfl, -⟩, -, -⟩ := h
    exact ⟨_, rfl, rfl⟩
  clear h hE
  have HI : Hid ((Tryz.prog.info? 120).map (·.size) = some cs.size) := Lib.hid (by rw [hsz]; kernel_rfl)
  clear hsz
  have X := Own.box w cs 120
  have hH := heap_alloc_new w (.cells cs 120)
  have HE := Lib.hid (HE0.out.below X.K)
  have HC := Lib.hid (HC0.out.go X.K)
  clear HE0 HC0
  go_enter Tryz.func170, Tryz.ntmps170
  go_upto_region 1 with fail
  generalize w.alloc (.cells cs 120) = W at X hH HE HC ⊢
  go_wp2_with ((with_reducible refine load_cmd (g := w.heap.size) (cs := cs) (x := 1) ?_ hH HI.out ?_); rfl)
  refine (awaits_any _ d s a b _ HC.out).mono ?_
  rintro e w2 ⟨rfl, hb⟩
  have X2 := X.step hb
  have hg := (HE.out.below hb).p.1
  by_cases h1 : s.ph = 1 ∨ s.ph = 2
  · have H1 := Lib.hid h1
    rw [decide_eq_true h1]
    clear h1
    go_wp2
    all_goals (go_ret2; rw [cancelT, if_pos H1.out]; exact TryA.one 1 0 0 X2.K)
  · have H1 := Lib.hid h1
    rw [decide_eq_false h1]
    clear h1
    go_wp2_with fail
    go_quiet (fail)
    go_wp2
    all_goals (go_ret2; rw [cancelT, if_neg H1.out]; exact TryA.no .phase (below_drewN X2.K _))

set_option maxRecDepth 20000 in
set_option maxHeartbeats 8000000 in
theorem shut_any (K O P S B : Addr) (v : Value) (d : PlanD) (s : StD) (a b : Int) (w : World) (h : IsCmd w w.heap.size v d s a b) (hok : StOk d s) (hE : Errs w K O P S B) :
    Calls Tryz.prog 169 #[v] w (TryA K O P S B w (shutT d s)) := by
  have OK := Lib.hid hok
  clear hok
  have HE0 := Lib.hid hE
  have HC0 := Lib.hid h
  obtain ⟨cs, rfl, hsz, A0, A1, A2, A3, c0, c1, c2, c3, e0, e1, e2, e3, e4, e5, e6, e9, hp⟩ : ∃ cs, v = .agg cs ∧ cs.size = 21 ∧ ∃ A0 A1 A2 A3 c0 c1 c2 c3, cs[0]? = some (.slice A0 d.n0 c0) ∧ cs[1]? = some (.slice A1 d.n1 c1) ∧ cs[2]? = some (.slice A2 d.n2 c2) ∧ cs[3]? = some (.slice A3 d.n3 c3) ∧ cs[4]? = some (.int .i64 d.l) ∧ cs[5]? = some (.int .i64 d.p) ∧ cs[6]? = some (.int .i64 d.t) ∧ cs[9]? = some (.int .i64 s.ck) ∧ IsPlan w w.heap.size (planV A0 A1 A2 A3 d.n0 c0 d.n1 c1 d.n2 c2 d.n3 c3 d.l d.p d.t) d := by
    obtain ⟨⟨A0, A1, A2, A3, c0, c1, c2, c3, E0, E1, E2, E3, k0, k1, k2, k3, rfl, ⟨p0, p1, p2, p3⟩, -⟩, ⟨b0, b1, b2, b3⟩, -⟩ := h
    exact ⟨_, rfl, rfl, A0, A1, A2, A3, c0, c1, c2, c3, rfl, rfl, rfl, rfl, rfl, rfl, rfl, rfl, ⟨A0, A1, A2, A3, c0, c1, c2, c3, rfl, p0, p1, p2, p3⟩, b0, b1, b2, b3⟩
  clear h hE
  have HI : Hid ((Tryz.prog.info? 120).map (·.size) = some cs.size) := Lib.hid (by rw [hsz]; kernel_rfl)
  clear hsz
  have X := Own.box w cs 120
  have hH := heap_alloc_new w (.cells cs 120)
  have HP := Lib.hid ((hp.below X.K (Nat.le_refl _)).more X.K.size)
  clear hp
  have G0 := Lib.hid e0
  have G1 := Lib.hid e1
  have G2 := Lib.hid e2
  have G3 := Lib.hid e3
  have G4 := Lib.hid e4
  have G5 := Lib.hid e5
  have G6 := Lib.hid e6
  have G9 := Lib.hid e9
  clear e0 e1 e2 e3 e4 e5 e6 e9
  have HE := Lib.hid (HE0.out.below X.K)
  have HC := Lib.hid (HC0.out.go X.K)
  clear HE0 HC0
  go_enter Tryz.func169, Tryz.ntmps169
  go_upto_region 1 with fail
  generalize w.alloc (.cells cs 120) = W at X hH HE HC HP ⊢
  have hck := OK.out.ck
  have hl := (times_ok OK.out.plan).1
  have HB := Lib.hid (next_first d)
  go_wp2_with ((with_reducible refine load_cmd (g := w.heap.size) (cs := cs) (x := 1) ?_ hH HI.out ?_); rfl)
  refine (awaits_any _ d s a b _ HC.out).mono ?_
  rintro e w2 ⟨rfl, hb⟩
  have X2 := X.step hb
  have hg := (HE.out.below hb).p.1
  have HP2 := Lib.hid ((HP.out.below hb (Nat.le_refl _)).more hb.size)
  clear HP X hH HC
  by_cases h1 : s.ph = 1 ∨ s.ph = 2
  · have H1 := Lib.hid h1
    rw [decide_eq_true h1]
    clear h1 hg
    have q0 := (X2.C 0).trans G0.out
    have q1 := (X2.C 1).trans G1.out
    have q2 := (X2.C 2).trans G2.out
    have q3 := (X2.C 3).trans G3.out
    have q4 := (X2.C 4).trans G4.out
    have q5 := (X2.C 5).trans G5.out
    have q6 := (X2.C 6).trans G6.out
    go_wp2_with fail
    refine (implBands_any _ d _ HP2.out).mono ?_
    rintro e w4 ⟨v', rfl, O4, hb4⟩
    have X4 := X2.step hb4
    clear q0 q1 q2 q3 q4 q5 q6
    have q4 := (X4.C 4).trans G4.out
    have q9 := (X4.C 9).trans G9.out
    obtain ⟨A, c, g, rfl, hA, hg, hgl, R⟩ := open_list O4
    have HA := Lib.hid hA
    have hle := bandsL_le d
    clear hA hg hgl O4 X2 hb hb4
    have HSH : Hid ((shutD d s).1 = [⟨11, min (s.ck + d.l) 1000000, 0⟩, ⟨9, nextB d (-1), 0⟩, ⟨1, 3, 0⟩]) := Lib.hid (by rw [shutD, if_pos H1.out])
    generalize bandsL d = L at *
    have HR := Lib.hid R
    clear R
    have hz := X4.K.size
    by_cases hlt : 0 < L.length
    · obtain rfl := HA.out (by omega)
      obtain ⟨t0, -⟩ : w4.cell? ⟨g, 0, none⟩ = some (.int .i64 (L.getD 0 0)) ∧ w4.frozen? ⟨g, 0, none⟩ = false := HR.out 0 hlt
      have HB2 : Hid (nextB d (-1) = L.getD 0 0) := Lib.hid (by rw [HB.out, if_neg (by omega)])
      generalize L.getD 0 0 = x at t0 HB2
      by_cases hm : s.ck + d.l ≤ 1000000
      · have HM : Hid (min (s.ck + d.l) 1000000 = s.ck + d.l) := Lib.hid (by omega)
        go_wp2
        all_goals (go_ret2; rw [shutT, if_pos H1.out, HSH.out, HM.out, HB2.out]; exact ⟨_, rfl, own_of_heap (heap_alloc_new w4 _) rfl rfl X4.K.size (by unfold maxLen; decide), X4.K.alloc X4.K.size _⟩)
      · have HM : Hid (min (s.ck + d.l) 1000000 = 1000000) := Lib.hid (by omega)
        go_wp2
        all_goals (go_ret2; rw [shutT, if_pos H1.out, HSH.out, HM.out, HB2.out]; exact ⟨_, rfl, own_of_heap (heap_alloc_new w4 _) rfl rfl X4.K.size (by unfold maxLen; decide), X4.K.alloc X4.K.size _⟩)
    · have hl0 : L.length = 0 := by omega
      have HB2 : Hid (nextB d (-1) = 6) := Lib.hid (by rw [HB.out, if_pos hl0])
      by_cases hm : s.ck + d.l ≤ 1000000
      · have HM : Hid (min (s.ck + d.l) 1000000 = s.ck + d.l) := Lib.hid (by omega)
        go_wp2
        all_goals (go_ret2; rw [shutT, if_pos H1.out, HSH.out, HM.out, HB2.out]; exact ⟨_, rfl, own_of_heap (heap_alloc_new w4 _) rfl rfl X4.K.size (by unfold maxLen; decide), X4.K.alloc X4.K.size _⟩)
      · have HM : Hid (min (s.ck + d.l) 1000000 = 1000000) := Lib.hid (by omega)
        go_wp2
        all_goals (go_ret2; rw [shutT, if_pos H1.out, HSH.out, HM.out, HB2.out]; exact ⟨_, rfl, own_of_heap (heap_alloc_new w4 _) rfl rfl X4.K.size (by unfold maxLen; decide), X4.K.alloc X4.K.size _⟩)
  · have H1 := Lib.hid h1
    rw [decide_eq_false h1]
    clear h1
    go_wp2_with fail
    go_quiet (fail)
    go_wp2
    all_goals (go_ret2; rw [shutT, if_neg H1.out]; exact TryA.no .phase (below_drewN X2.K _))
end Go.Proofs.YtdphpjnecjofeaaGreatDoor
/- Jh -/
set_option linter.unusedVariables false
namespace Go.Proofs.YtdphpjnecjofeaaGreatDoor
open Go.RowKit

theorem TryA.back {K O P S B : Addr} {w W w' : World} {x : List RecD × Option Why} {e : Ending} (h : TryA K O P S B W x e w') (hb : Below w.heap.size w W) :
    ∃ v, e = .returned (.tuple #[v, errV K O P S B x.2]) ∧ OR w' w.heap.size v x.1 ∧ Below w.heap.size w w' := by
  obtain ⟨v, he, h1, h2⟩ := h
  exact ⟨v, he, h1.base hb.size, hb.trans (h2.mono hb.size)⟩

set_option maxRecDepth 20000 in
set_option maxHeartbeats 8000000 in
theorem tried_any (K O P S B : Addr) (v : Value) (d : PlanD) (s : StD) (k a b : Int) (w : World) (h : IsCmd w w.heap.size v d s a b) (hok : StOk d s) (hE : Errs w K O P S B) :
    Calls Tryz.prog 133 #[v, .int .i64 k] w (TryA K O P S B w (tryD d s k a b)) := by
  have OK := Lib.hid hok
  clear hok
  have HE0 := Lib.hid hE
  have HC0 := Lib.hid h
  obtain ⟨cs, rfl, hsz⟩ : ∃ cs, v = .agg cs ∧ cs.size = 21 := by
    obtain ⟨⟨A0, A1, A2, A3, c0, c1, c2, c3, E0, E1, E2, E3, k0, k1, k2, k3, rfl, -⟩, -, -⟩ := h
    exact ⟨_, rfl, rfl⟩
  clear h hE
  have HI : Hid ((Tryz.prog.info? 120).map (·.size) = some cs.size) := Lib.hid (by rw [hsz]; kernel_rfl)
  clear hsz
  have X := Own.box w cs 120
  have hH := heap_alloc_new w (.cells cs 120)
  have HE := Lib.hid (HE0.out.below X.K)
  have HC := Lib.hid (HC0.out.go X.K)
  clear HE0 HC0
  go_enter Tryz.func133, Tryz.ntmps133
  go_upto_region 1 with fail
  generalize w.alloc (.cells cs 120) = W at X hH HE HC ⊢
  by_cases e1 : k = 1
  · subst e1
    have HX : Hid (tryD d s 1 a b = phaseT s 0 1) := Lib.hid (by simp [tryD])
    go_wp2_with ((with_reducible refine load_cmd (g := w.heap.size) (cs := cs) (x := 2) ?_ hH HI.out ?_); rfl)
    refine (cordon_any K O P S B _ d s a b _ HC.out HE.out).mono ?_
    rintro e w2 h2
    obtain ⟨v2, rfl, O2, K2⟩ := h2.back X.K
    go_wp2
    all_goals (go_ret2; rw [HX.out]; exact ⟨v2, rfl, O2, K2⟩)
  · have N1 := Lib.hid e1
    by_cases e2 : k = 2
    · subst e2
      have HX : Hid (tryD d s 2 a b = phaseT s 1 2) := Lib.hid (by simp [tryD])
      go_wp2_with ((with_reducible refine load_cmd (g := w.heap.size) (cs := cs) (x := 2) ?_ hH HI.out ?_); rfl)
      refine (drain_any K O P S B _ d s a b _ HC.out HE.out).mono ?_
      rintro e w2 h2
      obtain ⟨v2, rfl, O2, K2⟩ := h2.back X.K
      go_wp2
      all_goals (go_ret2; rw [HX.out]; exact ⟨v2, rfl, O2, K2⟩)
    · have N2 := Lib.hid e2
      by_cases e3 : k = 3
      · subst e3
        have HX : Hid (tryD d s 3 a b = evictT d s a) := Lib.hid (by simp [tryD])
        go_wp2_with ((with_reducible refine load_cmd (g := w.heap.size) (cs := cs) (x := 2) ?_ hH HI.out ?_); rfl)
        refine (evict_any K O P S B _ d s a b _ HC.out OK.out HE.out).mono ?_
        rintro e w2 h2
        obtain ⟨v2, rfl, O2, K2⟩ := h2.back X.K
        go_wp2
        all_goals (go_ret2; rw [HX.out]; exact ⟨v2, rfl, O2, K2⟩)
      · have N3 := Lib.hid e3
        by_cases e4 : k = 4
        · subst e4
          have HX : Hid (tryD d s 4 a b = shutT d s) := Lib.hid (by simp [tryD])
          go_wp2_with ((with_reducible refine load_cmd (g := w.heap.size) (cs := cs) (x := 2) ?_ hH HI.out ?_); rfl)
          refine (shut_any K O P S B _ d s a b _ HC.out OK.out HE.out).mono ?_
          rintro e w2 h2
          obtain ⟨v2, rfl, O2, K2⟩ := h2.back X.K
          go_wp2
          all_goals (go_ret2; rw [HX.out]; exact ⟨v2, rfl, O2, K2⟩)
        · have N4 := Lib.hid e4
          by_cases e5 : k = 5
          · subst e5
            have HX : Hid (tryD d s 5 a b = cancelT s) := Lib.hid (by simp [tryD])
            go_wp2_with ((with_reducible refine load_cmd (g := w.heap.size) (cs := cs) (x := 2) ?_ hH HI.out ?_); rfl)
            refine (cancel_any K O P S B _ d s a b _ HC.out HE.out).mono ?_
            rintro e w2 h2
            obtain ⟨v2, rfl, O2, K2⟩ := h2.back X.K
            go_wp2
            all_goals (go_ret2; rw [HX.out]; exact ⟨v2, rfl, O2, K2⟩)
          · have N5 := Lib.hid e5
            by_cases e6 : k = 6
            · subst e6
              have HX : Hid (tryD d s 6 a b = lockT s a) := Lib.hid (by simp [tryD])
              go_wp2_with ((with_reducible refine load_cmd (g := w.heap.size) (cs := cs) (x := 2) ?_ hH HI.out ?_); rfl)
              refine (lock_any K O P S B _ d s a b _ HC.out HE.out).mono ?_
              rintro e w2 h2
              obtain ⟨v2, rfl, O2, K2⟩ := h2.back X.K
              go_wp2
              all_goals (go_ret2; rw [HX.out]; exact ⟨v2, rfl, O2, K2⟩)
            · have N6 := Lib.hid e6
              by_cases e7 : k = 7
              · subst e7
                have HX : Hid (tryD d s 7 a b = unlockT s a) := Lib.hid (by simp [tryD])
                go_wp2_with ((with_reducible refine load_cmd (g := w.heap.size) (cs := cs) (x := 2) ?_ hH HI.out ?_); rfl)
                refine (unlock_any K O P S B _ d s a b _ HC.out HE.out).mono ?_
                rintro e w2 h2
                obtain ⟨v2, rfl, O2, K2⟩ := h2.back X.K
                go_wp2
                all_goals (go_ret2; rw [HX.out]; exact ⟨v2, rfl, O2, K2⟩)
              · have N7 := Lib.hid e7
                by_cases e8 : k = 8
                · subst e8
                  have HX : Hid (tryD d s 8 a b = toldT d s hookD a) := Lib.hid (by simp [tryD])
                  go_wp2_with ((with_reducible refine load_cmd (g := w.heap.size) (cs := cs) (x := 2) ?_ hH HI.out ?_); rfl)
                  refine (hook_any K O P S B _ d s a b _ HC.out OK.out HE.out).mono ?_
                  rintro e w2 h2
                  obtain ⟨v2, rfl, O2, K2⟩ := h2.back X.K
                  go_wp2
                  all_goals (go_ret2; rw [HX.out]; exact ⟨v2, rfl, O2, K2⟩)
                · have N8 := Lib.hid e8
                  by_cases e9 : k = 9
                  · subst e9
                    have HX : Hid (tryD d s 9 a b = toldT d s exitD a) := Lib.hid (by simp [tryD])
                    go_wp2_with ((with_reducible refine load_cmd (g := w.heap.size) (cs := cs) (x := 2) ?_ hH HI.out ?_); rfl)
                    refine (exit_any K O P S B _ d s a b _ HC.out OK.out HE.out).mono ?_
                    rintro e w2 h2
                    obtain ⟨v2, rfl, O2, K2⟩ := h2.back X.K
                    go_wp2
                    all_goals (go_ret2; rw [HX.out]; exact ⟨v2, rfl, O2, K2⟩)
                  · have N9 := Lib.hid e9
                    by_cases e10 : k = 10
                    · subst e10
                      have HX : Hid (tryD d s 10 a b = busyT d s a b) := Lib.hid (by simp [tryD])
                      go_wp2_with ((with_reducible refine load_cmd (g := w.heap.size) (cs := cs) (x := 2) ?_ hH HI.out ?_); rfl)
                      refine (busy_any K O P S B _ d s a b _ HC.out OK.out HE.out).mono ?_
                      rintro e w2 h2
                      obtain ⟨v2, rfl, O2, K2⟩ := h2.back X.K
                      go_wp2
                      all_goals (go_ret2; rw [HX.out]; exact ⟨v2, rfl, O2, K2⟩)
                    · have N10 := Lib.hid e10
                      have hg := HE.out.k.1
                      have HX : Hid (tryD d s k a b = no_ .kind) := Lib.hid (by simp [tryD, N1.out, N2.out, N3.out, N4.out, N5.out, N6.out, N7.out, N8.out, N9.out, N10.out])
                      go_wp2_with fail
                      go_quiet (fail)
                      go_wp2
                      all_goals (go_ret2; rw [HX.out]; exact TryA.no .kind (below_drewN X.K _))

theorem whyV_iface (K O P S B : Addr) (y : Why) : ∃ u x, whyV K O P S B y = .iface u x := by cases y <;> exact ⟨_, _, rfl⟩
/-- What is done: records, or a refusal. -/
def doneV (K O P S B : Addr) (k : Int) : Option Why → Value
  | none => .nilIface
  | some y => refV k (whyV K O P S B y)
def DoneA (K O P S B : Addr) (k : Int) (w : World) (x : List RecD × Option Why) (e : Ending) (w' : World) : Prop :=
  ∃ v, e = .returned (.tuple #[v, doneV K O P S B k x.2]) ∧ (x.2 = none → OR w' w.heap.size v x.1) ∧ Below w.heap.size w w'

set_option maxRecDepth 20000 in
set_option maxHeartbeats 4000000 in
theorem done_any (K O P S B : Addr) (v : Value) (d : PlanD) (s : StD) (k a b : Int) (w : World) (h : IsCmd w w.heap.size v d s a b) (hok : StOk d s) (hE : Errs w K O P S B) :
    Calls Tryz.prog 83 #[v, .int .i64 k] w (DoneA K O P S B k w (tryD d s k a b)) := by
  have OK := Lib.hid hok
  clear hok
  have HE0 := Lib.hid hE
  have HC0 := Lib.hid h
  obtain ⟨cs, rfl, hsz⟩ : ∃ cs, v = .agg cs ∧ cs.size = 21 := by
    obtain ⟨⟨A0, A1, A2, A3, c0, c1, c2, c3, E0, E1, E2, E3, k0, k1, k2, k3, rfl, -⟩, -, -⟩ := h
    exact ⟨_, rfl, rfl⟩
  clear h hE
  have HI : Hid ((Tryz.prog.info? 120).map (·.size) = some cs.size) := Lib.hid (by rw [hsz]; kernel_rfl)
  clear hsz
  have X := Own.box w cs 120
  have hH := heap_alloc_new w (.cells cs 120)
  have HE := Lib.hid (HE0.out.below X.K)
  have HC := Lib.hid (HC0.out.go X.K)
  clear HE0 HC0
  go_enter Tryz.func83, Tryz.ntmps83
  go_upto_region 1 with fail
  generalize w.alloc (.cells cs 120) = W at X hH HE HC ⊢
  go_wp2_with ((with_reducible refine load_cmd (g := w.heap.size) (cs := cs) (x := 2) ?_ hH HI.out ?_); rfl)
  refine (tried_any K O P S B _ d s k a b _ HC.out OK.out HE.out).mono ?_
  rintro e w2 h2
  obtain ⟨v2, rfl, O2, K2⟩ := h2.back X.K
  generalize htr : tryD d s k a b = tr at O2 ⊢
  have HT := Lib.hid htr
  clear htr h2
  obtain ⟨l, y⟩ := tr
  dsimp only at O2 ⊢
  cases y with
  | none =>
    rw [show errV K O P S B none = .nilIface from rfl]
    go_wp2
    all_goals (go_ret2; rw [HT.out]; exact ⟨v2, rfl, fun _ => O2, K2⟩)
  | some y =>
    obtain ⟨u, x, hux⟩ := whyV_iface K O P S B y
    rw [show errV K O P S B (some y) = .iface u x from hux]
    have HU := Lib.hid hux
    clear hux
    go_wp2
    all_goals (go_ret2; rw [HT.out]; exact ⟨_, by rw [doneV, HU.out]; rfl, (fun h => by cases h), K2⟩)
end Go.Proofs.YtdphpjnecjofeaaGreatDoor
